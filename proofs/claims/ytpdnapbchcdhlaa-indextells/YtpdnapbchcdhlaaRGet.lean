import Derived.Test.YtpdnapbchcdhlaaRDisk
set_option maxHeartbeats 8000000
namespace Go.Proofs.Ytpdnapbchcdhlaa
set_option maxRecDepth 100000
open Go.RowKit
open Plain Reg
def Xu (ws : List Wr) (a : Int) : Option (List UInt8) := ws.foldl (fun r x => if x.1 = a then some x.2 else r) none
theorem Zei (ws : List Wr) (x : Wr) (a : Int) : Xu (ws ++ [x]) a = if x.1 = a then some x.2 else Xu ws a := by simp [Xu, List.foldl_append]
theorem Zar (ws : List Wr) (a : Int) (k : Nat) (h : k < ws.length) : Xu (ws.take (k + 1)) a = if ws[k].1 = a then some ws[k].2 else Xu (ws.take k) a := by
 rw [List.take_succ_eq_append_getElem h, Zei]
def Dk.get (d : Dk) (a : Int) : Option (List UInt8) := if a < 0 ∨ (d.blocks.length : Int) ≤ a then none else some ((Xu d.late a).getD (d.blocks.getD a.toNat []))
def Dk.getE (d : Dk) (a : Int) : Int := if a < 0 ∨ (d.blocks.length : Int) ≤ a then 3 else 0
def Dk.put (d : Dk) (a : Int) (b : List UInt8) : Dk := ⟨d.blocks, d.late ++ [(a, b)]⟩
theorem K3 (S : Nat → Prop) (d : Dk) (a : Int) (vb vl : Value) (w : World) (hb : Xb S w vb d.blocks) (hl : Qr S w vl d.late) (hm2 : d.late.length ≤ 140737488355328) :
  Calls Try.prog 42 #[.agg #[vb, vl], .int .i64 a] w fun e w' => ∃ v, e = .returned (.tuple #[v, .int .i64 (d.getE a)]) ∧ Z4 S w' v ((d.get a).getD []) ∧ Zm w w' := by
 obtain ⟨ab, cb, rfl⟩ := hb.p.form;obtain ⟨al, cl, rfl⟩ := hl.p.form;by_cases hout : a < 0 ∨ (d.blocks.length : Int) ≤ a
 ·have HE : Hid (d.getE a = 3) := by show d.getE a = 3; unfold Dk.getE; rw [if_pos hout]
  have HG : Hid (d.get a = none) := by show d.get a = none; unfold Dk.get; rw [if_pos hout]
  rw [HE.out, HG.out];by_cases h0 : a < 0
  ·go_enter Try.func42, Try.ntmps42;go_wp2_with fail
   go_ret2
   exact ⟨_, rfl, .inl ⟨none, 0, rfl, rfl, fun _ => rfl⟩, Zh _ _⟩
  ·have h1 : (d.blocks.length : Int) ≤ a := by omega
   clear hout;go_enter Try.func42, Try.ntmps42;go_wp2_with fail
   go_ret2
   exact ⟨_, rfl, .inl ⟨none, 0, rfl, rfl, fun _ => rfl⟩, Zh _ _⟩
 ·have HE : Hid (d.getE a = 0) := by show d.getE a = 0; unfold Dk.getE; rw [if_neg hout]
  have HG : Hid (d.get a = some ((Xu d.late a).getD (d.blocks.getD a.toNat []))) := by show d.get a = _; unfold Dk.get; rw [if_neg hout]
  rw [HE.out, HG.out, Option.getD_some];obtain ⟨p, rfl⟩ := Int.eq_ofNat_of_zero_le (by omega : 0 ≤ a);have hp : p < d.blocks.length := by omega
  clear hout;rw [Int.toNat_natCast];have gW := Zh w (.cells #[.slice ab d.blocks.length cb, .slice al d.late.length cl] 46);have hx := Zu w #[.slice ab d.blocks.length cb, .slice al d.late.length cl] 46;have hbW := hb.grow gW;have hlW := hl.grow gW;clear hb hl;go_enter Try.func42, Try.ntmps42;go_wp2_with fail;generalize World.alloc w _ = W at *;obtain ⟨x0, x1⟩ := Zb6 hx rfl rfl
  go_loop [6] (fun i => ∃ k : Nat, k ≤ d.late.length ∧ i = .int .i64 ((k : Int) - 1) ∧ Xu d.late p = Xu (d.late.take k) p) (fun i => (intOf i + 1).toNat)
  case atStart => exact ⟨d.late.length, Nat.le_refl _, rfl, by rw [List.take_length]⟩
  case round =>
   obtain ⟨k, hk, rfl, hla⟩ := hrel;have HLA : Hid (Xu d.late p = Xu (d.late.take k) p) := hla;clear hla
   match k, hk, HLA with
   | 0, hk, HLA =>
    have HB : Hid (Xu d.late p = none) := HLA;obtain ⟨b, off, rfl, u, hu, hub⟩ := hbW.at p hp;obtain ⟨au, cu, rfl, -, -⟩ := Yn hub.p;clear HLA;go_wp2_with fail
    go_ret2
    refine ⟨_, rfl, ?_, gW⟩;rw [HB.out, Option.getD_none];exact hub
   | k + 1, hk, HLA =>
    have hkl : k < d.late.length := by omega
    obtain ⟨b, off, rfl, hc0, u, hu, hub⟩ := hlW.at k hkl;obtain ⟨au, cu, rfl, -, -⟩ := Yn hub.p;have hst := Zar d.late p k hkl;by_cases he : d.late[k].1 = (p : Int)
    ·rw [he] at hc0;rw [if_pos he] at hst;have HV : Hid (Xu d.late p = some d.late[k].2) := HLA.out.trans hst;clear HLA hst he;have e1 : ((k + 1 : Nat) : Int) - 1 = (k : Int) := by omega
     rw [e1];clear e1;go_wp2_with fail
     go_ret2
     refine ⟨_, rfl, ?_, gW⟩;rw [HV.out, Option.getD_some];exact hub
    ·rw [if_neg he] at hst;have HV : Hid (Xu d.late p = Xu (d.late.take k) p) := HLA.out.trans hst;have d2 : (d.late[k].1 == (p : Int)) = false := Qk he;clear HLA hst he hub;generalize d.late[k].1 = q at *;have e1 : ((k + 1 : Nat) : Int) - 1 = (k : Int) := by omega
     rw [e1];clear e1;go_wp2_with fail
     go_round
     case rel => exact ⟨k, by omega, by go_num, HV.out⟩
     case measure => simp [intOf]
def Zkt : List Wr → List Value → List Value
 | x :: ws, u :: us => .int .i64 x.1 :: u :: Zkt ws us
 | _, _ => []
theorem hx1 (w : World) (c e : Array Value) : ((w.alloc (.cells c 46)).alloc (.cells e 46)).heap[w.heap.size]? = some (.cells c 46 (0, 0)) :=
 ((Zh (w.alloc (.cells c 46)) _).block _ (by simp)).trans (Zu _ _ _)
theorem Yv {w : World} {base n size : Nat} {e : TypeId} {v : Value} {xs : List Value} (h : w.ownsRow base e size v n xs) : ∃ ao cap, v = .slice ao n cap := by
 rcases h.2 with ⟨h1, h0⟩ | ⟨g, cap, cur, rfl, hb, _⟩
 ·subst h0; exact ⟨none, 0, h1⟩
 ·exact ⟨_, cap, rfl⟩
end Go.Proofs.Ytpdnapbchcdhlaa
