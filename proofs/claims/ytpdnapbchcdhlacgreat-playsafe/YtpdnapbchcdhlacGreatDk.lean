import Derived.Test.YtpdnapbchcdhlacGreatBRead
set_option maxHeartbeats 8000000
namespace Go.Proofs.YtpdnapbchcdhlacGreat
set_option maxRecDepth 100000
open Go.RowKit
open Plain Reg
variable {B cap g n : Nat} {S S' : Nat → Prop} {ao : Option Addr} {bs : List (List UInt8)} {l : List UInt8} {v : Value} {w w' : World}
abbrev Wr := Int × List UInt8
structure Dk where
 blocks : List (List UInt8)
 late : List Wr
def X1 (w : World) (v : Value) (bs : List (List UInt8)) : Prop :=
 (∃ ao cap, v = .slice ao 0 cap ∧ bs = [] ∧ (ao = none → cap = 0)) ∨
 (∃ b off cap, v = .slice (some ⟨b, off, none⟩) bs.length cap ∧ bs.length ≤ cap ∧ ∀ (i : Nat) (h : i < bs.length), ∃ u, w.cell? ⟨b, off + i, none⟩ = some u ∧ Bytes w u bs[i])
def Vv (w : World) (v : Value) (ws : List Wr) : Prop :=
 (∃ ao cap, v = .slice ao 0 cap ∧ ws = [] ∧ (ao = none → cap = 0)) ∨
 (∃ b off cap, v = .slice (some ⟨b, off, none⟩) ws.length cap ∧ ws.length ≤ cap ∧ ∀ (i : Nat) (h : i < ws.length), w.cell? ⟨b, off + i * 2, none⟩ = some (.int .i64 ws[i].1) ∧ ∃ u, w.cell? ⟨b, off + i * 2 + 1, none⟩ = some u ∧ Bytes w u ws[i].2)
theorem X1.grow (h : X1 w v bs) (hg : Zn w w') : X1 w' v bs := by
 rcases h with h | ⟨b, off, cap, rfl, h1, hc⟩
 ·exact .inl h
 ·refine .inr ⟨b, off, cap, rfl, h1, fun i hi => ?_⟩;obtain ⟨u, h2, h3⟩ := hc i hi;exact ⟨u, (Below.cell hg (Zv h2)).trans h2, Z1 h3 hg⟩
theorem Vv.grow {ws : List Wr} (h : Vv w v ws) (hg : Zn w w') : Vv w' v ws := by
 rcases h with h | ⟨b, off, cap, rfl, h1, hc⟩
 ·exact .inl h
 ·refine .inr ⟨b, off, cap, rfl, h1, fun i hi => ?_⟩;obtain ⟨h0, u, h2, h3⟩ := hc i hi;exact ⟨(Below.cell hg (Zv h0)).trans h0, u, (Below.cell hg (Zv h2)).trans h2, Z1 h3 hg⟩
theorem X1.form (h : X1 w v bs) : ∃ ao cap, v = .slice ao bs.length cap := by
 rcases h with ⟨ao, cap, rfl, rfl, _⟩ | ⟨b, off, cap, rfl, _⟩
 ·exact ⟨ao, cap, rfl⟩
 ·exact ⟨_, cap, rfl⟩
theorem Vv.form {ws : List Wr} (h : Vv w v ws) : ∃ ao cap, v = .slice ao ws.length cap := by
 rcases h with ⟨ao, cap, rfl, rfl, _⟩ | ⟨b, off, cap, rfl, _⟩
 ·exact ⟨ao, cap, rfl⟩
 ·exact ⟨_, cap, rfl⟩
theorem X1.at (h : X1 w (.slice ao n cap) bs) (i : Nat) (hi : i < bs.length) :
  ∃ b off, ao = some ⟨b, off, none⟩ ∧ ∃ u, w.cell? ⟨b, off + i, none⟩ = some u ∧ Bytes w u bs[i] := by
 rcases h with ⟨_, _, _, rfl, _⟩ | ⟨b, off, cp, h2, h3, h4⟩
 ·simp at hi
 ·cases h2;exact ⟨b, off, rfl, h4 i hi⟩
theorem Vv.at {ws : List Wr} (h : Vv w (.slice ao n cap) ws) (i : Nat) (hi : i < ws.length) :
  ∃ b off, ao = some ⟨b, off, none⟩ ∧ w.cell? ⟨b, off + i * 2, none⟩ = some (.int .i64 ws[i].1) ∧ ∃ u, w.cell? ⟨b, off + i * 2 + 1, none⟩ = some u ∧ Bytes w u ws[i].2 := by
 rcases h with ⟨_, _, _, rfl, _⟩ | ⟨b, off, cp, h2, h3, h4⟩
 ·simp at hi
 ·cases h2;exact ⟨b, off, rfl, h4 i hi⟩
def Z0 (S : Nat → Prop) (w : World) (v : Value) (l : List UInt8) : Prop :=
 (∃ ao cap, v = .slice ao 0 cap ∧ l = [] ∧ (ao = none → cap = 0)) ∨
 (∃ b off cap, S b ∧ v = .slice (some ⟨b, off, none⟩) l.length cap ∧ l.length ≤ cap ∧ ∀ (i : Nat) (h : i < l.length), w.cell? ⟨b, off + i, none⟩ = some (.int .u8 (l[i].toNat : Int)))
def Y0 (S : Nat → Prop) (w : World) (v : Value) (bs : List (List UInt8)) : Prop :=
 (∃ ao cap, v = .slice ao 0 cap ∧ bs = [] ∧ (ao = none → cap = 0)) ∨
 (∃ b off cap, S b ∧ v = .slice (some ⟨b, off, none⟩) bs.length cap ∧ bs.length ≤ cap ∧ ∀ (i : Nat) (h : i < bs.length), ∃ u, w.cell? ⟨b, off + i, none⟩ = some u ∧ Z0 S w u bs[i])
def Xl (S : Nat → Prop) (w : World) (v : Value) (ws : List Wr) : Prop :=
 (∃ ao cap, v = .slice ao 0 cap ∧ ws = [] ∧ (ao = none → cap = 0)) ∨
 (∃ b off cap, S b ∧ v = .slice (some ⟨b, off, none⟩) ws.length cap ∧ ws.length ≤ cap ∧ ∀ (i : Nat) (h : i < ws.length), w.cell? ⟨b, off + i * 2, none⟩ = some (.int .i64 ws[i].1) ∧ ∃ u, w.cell? ⟨b, off + i * 2 + 1, none⟩ = some u ∧ Z0 S w u ws[i].2)
def Zs (S : Nat → Prop) (B : Nat) : Nat → Prop := fun b => S b ∨ B ≤ b
theorem V2 : ∀ b, S b → Zs S B b := fun _ h => .inl h
theorem Zw {B' : Nat} (h : B ≤ B') : ∀ b, Zs S B' b → Zs S B b := fun _ hb => Xq hb (fun x => x) (fun x => Nat.le_trans h x)
theorem Z0.p (h : Z0 S w v l) : Bytes w v l := by
 rcases h with h | ⟨b, off, cap, _, h⟩
 ·exact .inl h
 ·exact .inr ⟨b, off, cap, h⟩
theorem Zdn (h : Bytes w v l) : Z0 (fun b => b < w.heap.size) w v l := by
 by_cases h0 : l = []
 ·subst h0;rcases h with h | ⟨b, off, cap, rfl, h1, hc⟩
  ·exact .inl h
  ·exact .inl ⟨_, cap, rfl, rfl, fun h => by cases h⟩
 ·rcases h with ⟨_, _, _, h1, _⟩ | ⟨b, off, cap, h2, h1, hc⟩
  ·exact absurd h1 h0
  ·exact .inr ⟨b, off, cap, Zv (hc 0 (List.length_pos_iff.2 h0)), h2, h1, hc⟩
theorem Zcl {base : Nat} (S : Nat → Prop) (h : w.ownsRow base 5 1 v l.length (l.map bv)) : Z0 (Zs S base) w v l := by
 rcases h.2 with ⟨rfl, h0⟩ | ⟨g, cap, cur, rfl, hb, hh, h1, h2, h3, h4⟩
 ·exact .inl ⟨none, 0, rfl, List.eq_nil_of_length_eq_zero h0, fun _ => rfl⟩
 ·refine .inr ⟨g, 0, cap, .inr hb, rfl, h1, fun i hi => ?_⟩;have := h.cellAt i (by omega);rw [Nat.zero_add, this];simp [hi, bv]
theorem Z0.mono (h : Z0 S w v l) (hS : ∀ b, S b → S' b) : Z0 S' w v l := by
 rcases h with h | ⟨b, off, cap, hb, h⟩
 ·exact .inl h
 ·exact .inr ⟨b, off, cap, hS b hb, h⟩
theorem Z0.but (h : Z0 S w v l) (hg : Zo g w w') (hn : ¬ S g) : Z0 S w' v l := by
 rcases h with h | ⟨b, off, cap, hb, h1, h2, hc⟩
 ·exact .inl h
 ·refine .inr ⟨b, off, cap, hb, h1, h2, fun i hi => ?_⟩;have h3 := hc i hi;exact (hg.cell (Zv h3) (fun e => hn (by rw [← e]; exact hb))).trans h3
theorem Z0.grow (h : Z0 S w v l) (hg : Zn w w') : Z0 S w' v l := by
 rcases h with h | ⟨b, off, cap, hb, h1, h2, hc⟩
 ·exact .inl h
 ·exact .inr ⟨b, off, cap, hb, h1, h2, fun i hi => (Below.cell hg (Zv (hc i hi))).trans (hc i hi)⟩
theorem Y0.p (h : Y0 S w v bs) : X1 w v bs := by
 rcases h with h | ⟨b, off, cap, _, h1, h2, h⟩
 ·exact .inl h
 ·refine .inr ⟨b, off, cap, h1, h2, fun i hi => ?_⟩;obtain ⟨u, h3, h4⟩ := h i hi;exact ⟨u, h3, h4.p⟩
theorem X1.s (h : X1 w v bs) : Y0 (fun b => b < w.heap.size) w v bs := by
 by_cases h0 : bs = []
 ·subst h0;rcases h with h | ⟨b, off, cap, rfl, h1, hc⟩
  ·exact .inl h
  ·exact .inl ⟨_, cap, rfl, rfl, fun h => by cases h⟩
 ·rcases h with ⟨_, _, _, h1, _⟩ | ⟨b, off, cap, h2, h1, hc⟩
  ·exact absurd h1 h0
  ·refine .inr ⟨b, off, cap, ?_, h2, h1, fun i hi => ?_⟩
   ·obtain ⟨u, h3, _⟩ := hc 0 (List.length_pos_iff.2 h0);exact Zv h3
   ·obtain ⟨u, h3, h4⟩ := hc i hi;exact ⟨u, h3, Zdn h4⟩
theorem Y0.mono (h : Y0 S w v bs) (hS : ∀ b, S b → S' b) : Y0 S' w v bs := by
 rcases h with h | ⟨b, off, cap, hb, h1, h2, h⟩
 ·exact .inl h
 ·refine .inr ⟨b, off, cap, hS b hb, h1, h2, fun i hi => ?_⟩;obtain ⟨u, h3, h4⟩ := h i hi;exact ⟨u, h3, h4.mono hS⟩
theorem Y0.but (h : Y0 S w v bs) (hg : Zo g w w') (hn : ¬ S g) : Y0 S w' v bs := by
 rcases h with h | ⟨b, off, cap, hb, h1, h2, hc⟩
 ·exact .inl h
 ·refine .inr ⟨b, off, cap, hb, h1, h2, fun i hi => ?_⟩;obtain ⟨u, h3, h4⟩ := hc i hi;exact ⟨u, (hg.cell (Zv h3) (fun e => hn (by rw [← e]; exact hb))).trans h3, h4.but hg hn⟩
theorem Y0.grow (h : Y0 S w v bs) (hg : Zn w w') : Y0 S w' v bs := by
 rcases h with h | ⟨b, off, cap, hb, h1, h2, hc⟩
 ·exact .inl h
 ·refine .inr ⟨b, off, cap, hb, h1, h2, fun i hi => ?_⟩;obtain ⟨u, h3, h4⟩ := hc i hi;exact ⟨u, (Below.cell hg (Zv h3)).trans h3, h4.grow hg⟩
theorem Y0.at (h : Y0 S w (.slice ao n cap) bs) (i : Nat) (hi : i < bs.length) :
  ∃ b off, ao = some ⟨b, off, none⟩ ∧ ∃ u, w.cell? ⟨b, off + i, none⟩ = some u ∧ Z0 S w u bs[i] := by
 rcases h with ⟨_, _, _, rfl, _⟩ | ⟨b, off, cp, _, h2, h3, h4⟩
 ·simp at hi
 ·cases h2;exact ⟨b, off, rfl, h4 i hi⟩
theorem Xl.p {ws : List Wr} (h : Xl S w v ws) : Vv w v ws := by
 rcases h with h | ⟨b, off, cap, _, h1, h2, h⟩
 ·exact .inl h
 ·refine .inr ⟨b, off, cap, h1, h2, fun i hi => ?_⟩;obtain ⟨h0, u, h3, h4⟩ := h i hi;exact ⟨h0, u, h3, h4.p⟩
theorem Vv.s {ws : List Wr} (h : Vv w v ws) : Xl (fun b => b < w.heap.size) w v ws := by
 by_cases h0 : ws = []
 ·subst h0;rcases h with h | ⟨b, off, cap, rfl, h1, hc⟩
  ·exact .inl h
  ·exact .inl ⟨_, cap, rfl, rfl, fun h => by cases h⟩
 ·rcases h with ⟨_, _, _, h1, _⟩ | ⟨b, off, cap, h2, h1, hc⟩
  ·exact absurd h1 h0
  ·refine .inr ⟨b, off, cap, Zv (hc 0 (List.length_pos_iff.2 h0)).1, h2, h1, fun i hi => ?_⟩;obtain ⟨hq, u, h3, h4⟩ := hc i hi;exact ⟨hq, u, h3, Zdn h4⟩
theorem Xl.mono {ws : List Wr} (h : Xl S w v ws) (hS : ∀ b, S b → S' b) : Xl S' w v ws := by
 rcases h with h | ⟨b, off, cap, hb, h1, h2, h⟩
 ·exact .inl h
 ·refine .inr ⟨b, off, cap, hS b hb, h1, h2, fun i hi => ?_⟩;obtain ⟨h0, u, h3, h4⟩ := h i hi;exact ⟨h0, u, h3, h4.mono hS⟩
theorem Xl.but {ws : List Wr} (h : Xl S w v ws) (hg : Zo g w w') (hn : ¬ S g) : Xl S w' v ws := by
 rcases h with h | ⟨b, off, cap, hb, h1, h2, hc⟩
 ·exact .inl h
 ·refine .inr ⟨b, off, cap, hb, h1, h2, fun i hi => ?_⟩;obtain ⟨h0, u, h3, h4⟩ := hc i hi;exact ⟨(hg.cell (Zv h0) (fun e => hn (by rw [← e]; exact hb))).trans h0, u, (hg.cell (Zv h3) (fun e => hn (by rw [← e]; exact hb))).trans h3, h4.but hg hn⟩
theorem Xl.grow {ws : List Wr} (h : Xl S w v ws) (hg : Zn w w') : Xl S w' v ws := by
 rcases h with h | ⟨b, off, cap, hb, h1, h2, hc⟩
 ·exact .inl h
 ·refine .inr ⟨b, off, cap, hb, h1, h2, fun i hi => ?_⟩;obtain ⟨h0, u, h3, h4⟩ := hc i hi;exact ⟨(Below.cell hg (Zv h0)).trans h0, u, (Below.cell hg (Zv h3)).trans h3, h4.grow hg⟩
theorem Xl.at {ws : List Wr} (h : Xl S w (.slice ao n cap) ws) (i : Nat) (hi : i < ws.length) :
  ∃ b off, ao = some ⟨b, off, none⟩ ∧ w.cell? ⟨b, off + i * 2, none⟩ = some (.int .i64 ws[i].1) ∧ ∃ u, w.cell? ⟨b, off + i * 2 + 1, none⟩ = some u ∧ Z0 S w u ws[i].2 := by
 rcases h with ⟨_, _, _, rfl, _⟩ | ⟨b, off, cp, _, h2, h3, h4⟩
 ·simp at hi
 ·cases h2;exact ⟨b, off, rfl, h4 i hi⟩
theorem Zhm (S : Nat → Prop) (l : List UInt8) : Xv (fun v w => Z0 S w v l) := fun _ _ _ hg h => Z0.grow h hg
theorem Vg {α : Type} [BEq α] [LawfulBEq α] {a b : α} (h : a ≠ b) : (a == b) = false := by simpa using h
variable {B base n : Nat} {S : Nat → Prop} {W w w3 : World} {e : TypeId} {l : List UInt8} {o : Obj} {r : Option Nat} {us xs : List Value} {v : Value} {ws : List Wr}
def Qw (ws : List Wr) (a : Int) : Option (List UInt8) := ws.foldl (fun r x => if x.1 = a then some x.2 else r) none
theorem Zc0 (ws : List Wr) (x : Wr) (a : Int) : Qw (ws ++ [x]) a = if x.1 = a then some x.2 else Qw ws a := by simp [Qw, List.foldl_append]
theorem Zcz (ws : List Wr) (a : Int) (k : Nat) (h : k < ws.length) : Qw (ws.take (k + 1)) a = if ws[k].1 = a then some ws[k].2 else Qw (ws.take k) a := by
 rw [List.take_succ_eq_append_getElem h, Zc0]
def Dk.get (d : Dk) (a : Int) : Option (List UInt8) := if a < 0 ∨ (d.blocks.length : Int) ≤ a then none else some ((Qw d.late a).getD (d.blocks.getD a.toNat []))
def Dk.getE (d : Dk) (a : Int) : Int := if a < 0 ∨ (d.blocks.length : Int) ≤ a then 3 else 0
def Dk.put (d : Dk) (a : Int) (b : List UInt8) : Dk := ⟨d.blocks, d.late ++ [(a, b)]⟩
theorem Za9 (S : Nat → Prop) (d : Dk) (a : Int) (vb vl : Value) (w : World) (hb : Y0 S w vb d.blocks) (hl : Xl S w vl d.late) (hm2 : d.late.length ≤ 140737488355328) :
  Calls Tryz.prog 76 #[.agg #[vb, vl], .int .i64 a] w fun e w' => ∃ v, e = .returned (.tuple #[v, .int .i64 (d.getE a)]) ∧ Z0 S w' v ((d.get a).getD []) ∧ Zn w w' := by
 obtain ⟨ab, cb, rfl⟩ := hb.p.form;obtain ⟨al, cl, rfl⟩ := hl.p.form;by_cases hout : a < 0 ∨ (d.blocks.length : Int) ≤ a
 ·have HE : Hid (d.getE a = 3) := by show d.getE a = 3; unfold Dk.getE; rw [if_pos hout]
  have HG : Hid (d.get a = none) := by show d.get a = none; unfold Dk.get; rw [if_pos hout]
  rw [HE.out, HG.out];by_cases h0 : a < 0
  ·go_enter Tryz.func76, Tryz.ntmps76;go_wp2_with fail
   go_ret2
   exact ⟨_, rfl, .inl ⟨none, 0, rfl, rfl, fun _ => rfl⟩, Zb _ _⟩
  ·have h1 : (d.blocks.length : Int) ≤ a := by omega
   clear hout;go_enter Tryz.func76, Tryz.ntmps76;go_wp2_with fail
   go_ret2
   exact ⟨_, rfl, .inl ⟨none, 0, rfl, rfl, fun _ => rfl⟩, Zb _ _⟩
 ·have HE : Hid (d.getE a = 0) := by show d.getE a = 0; unfold Dk.getE; rw [if_neg hout]
  have HG : Hid (d.get a = some ((Qw d.late a).getD (d.blocks.getD a.toNat []))) := by show d.get a = _; unfold Dk.get; rw [if_neg hout]
  rw [HE.out, HG.out, Option.getD_some];obtain ⟨p, rfl⟩ := Int.eq_ofNat_of_zero_le (by omega : 0 ≤ a);have hp : p < d.blocks.length := by omega
  clear hout;rw [Int.toNat_natCast];have gW := Zb w (.cells #[.slice ab d.blocks.length cb, .slice al d.late.length cl] 26);have hx := Zg w #[.slice ab d.blocks.length cb, .slice al d.late.length cl] 26;have hbW := hb.grow gW;have hlW := hl.grow gW;clear hb hl;go_enter Tryz.func76, Tryz.ntmps76;go_wp2_with fail;generalize World.alloc w _ = W at *;obtain ⟨x0, x1⟩ := Y9 hx rfl rfl
  go_loop [6] (fun i => ∃ k : Nat, k ≤ d.late.length ∧ i = .int .i64 ((k : Int) - 1) ∧ Qw d.late p = Qw (d.late.take k) p) (fun i => (intOf i + 1).toNat)
  case atStart => exact ⟨d.late.length, Nat.le_refl _, rfl, by rw [List.take_length]⟩
  case round =>
   obtain ⟨k, hk, rfl, hla⟩ := hrel;have HLA : Hid (Qw d.late p = Qw (d.late.take k) p) := hla;clear hla
   match k, hk, HLA with
   | 0, hk, HLA =>
    have HB : Hid (Qw d.late p = none) := HLA;obtain ⟨b, off, rfl, u, hu, hub⟩ := hbW.at p hp;obtain ⟨au, cu, rfl, -, -⟩ := Yn hub.p;clear HLA;go_wp2_with fail
    go_ret2
    refine ⟨_, rfl, ?_, gW⟩;rw [HB.out, Option.getD_none];exact hub
   | k + 1, hk, HLA =>
    have hkl : k < d.late.length := by omega
    obtain ⟨b, off, rfl, hc0, u, hu, hub⟩ := hlW.at k hkl;obtain ⟨au, cu, rfl, -, -⟩ := Yn hub.p;have hst := Zcz d.late p k hkl;by_cases he : d.late[k].1 = (p : Int)
    ·rw [he] at hc0;rw [if_pos he] at hst;have HV : Hid (Qw d.late p = some d.late[k].2) := HLA.out.trans hst;clear HLA hst he;have e1 : ((k + 1 : Nat) : Int) - 1 = (k : Int) := by omega
     rw [e1];clear e1;go_wp2_with fail
     go_ret2
     refine ⟨_, rfl, ?_, gW⟩;rw [HV.out, Option.getD_some];exact hub
    ·rw [if_neg he] at hst;have HV : Hid (Qw d.late p = Qw (d.late.take k) p) := HLA.out.trans hst;have d2 : (d.late[k].1 == (p : Int)) = false := Vg he;clear HLA hst he hub;generalize d.late[k].1 = q at *;have e1 : ((k + 1 : Nat) : Int) - 1 = (k : Int) := by omega
     rw [e1];clear e1;go_wp2_with fail
     go_round
     case rel => exact ⟨k, by omega, by go_num, HV.out⟩
     case measure => simp [intOf]
def Vn : List Wr → List Value → List Value
 | x :: ws, u :: us => .int .i64 x.1 :: u :: Vn ws us
 | _, _ => []
theorem Zbv : ∀ (ws : List Wr) (us : List Value), us.length = ws.length → (Vn ws us).length = ws.length * 2
 | [], us, _ => by simp [Vn]
 | x :: ws, [], h => by simp at h
 | x :: ws, u :: us, h => by simp [Vn, Zbv ws us (by simpa using h)]; omega
theorem Zeg : ∀ (ws : List Wr) (us : List Value) (i : Nat), us.length = ws.length → (h : i < ws.length) → (Vn ws us)[i * 2]? = some (.int .i64 ws[i].1)
 | [], us, i, _, h => by simp at h
 | x :: ws, [], i, h, _ => by simp at h
 | x :: ws, u :: us, 0, _, _ => by simp [Vn]
 | x :: ws, u :: us, i + 1, h, hi => by
  have := Zeg ws us i (by simpa using h) (by simpa using hi);rw [show (i + 1) * 2 = i * 2 + 1 + 1 from by omega];simpa [Vn] using this
theorem Zgs : ∀ (ws : List Wr) (us : List Value) (i : Nat), us.length = ws.length → i < ws.length → (Vn ws us)[i * 2 + 1]? = us[i]?
 | [], us, i, _, h => by simp at h
 | x :: ws, [], i, h, _ => by simp at h
 | x :: ws, u :: us, 0, _, _ => by simp [Vn]
 | x :: ws, u :: us, i + 1, h, hi => by
  have := Zgs ws us i (by simpa using h) (by simpa using hi);rw [show (i + 1) * 2 + 1 = i * 2 + 1 + 1 + 1 from by omega];simpa [Vn] using this
theorem Zgt : ∀ (ws : List Wr) (us : List Value) (x : Wr) (u : Value), us.length = ws.length → Vn (ws ++ [x]) (us ++ [u]) = Vn ws us ++ [.int .i64 x.1, u]
 | [], [], x, u, _ => by simp [Vn]
 | [], _ :: _, x, u, h => by simp at h
 | _ :: _, [], x, u, h => by simp at h
 | y :: ws, v :: us, x, u, h => by simp [Vn, Zgt ws us x u (by simpa using h)]
theorem Zk8 : ∀ (ws : List Wr) (us : List Value) (c : Value), c ∈ Vn ws us → (∃ n, c = .int .i64 n) ∨ c ∈ us
 | [], us, c, h => by simp [Vn] at h
 | x :: ws, [], c, h => by simp [Vn] at h
 | x :: ws, u :: us, c, h => by
  simp only [Vn, List.mem_cons] at h;rcases h with h | h | h
  ·exact .inl ⟨_, h⟩
  ·exact .inr (by simp [h])
  ·rcases Zk8 ws us c h with h | h
   ·exact .inl h
   ·exact .inr (by simp [h])
theorem Ztp (h : Xl S w v ws) :
  ∃ ao cap us, v = .slice ao ws.length cap ∧ us.length = ws.length ∧ (ao = none → ws.length = 0 ∧ cap = 0) ∧ (∀ ad, ao = some ad → ∀ (j : Nat) u, (Vn ws us)[j]? = some u → w.cell? (ad.add j) = some u) ∧ (∀ i (hi : i < ws.length), ∃ u, us[i]? = some u ∧ Z0 S w u ws[i].2) := by
 rcases h with ⟨ao, cap, rfl, rfl, h0⟩ | ⟨b, off, cap, hSb, rfl, h1, hc⟩
 ·exact ⟨ao, cap, [], rfl, rfl, fun h => ⟨rfl, h0 h⟩, fun ad _ j u hj => by simp [Vn] at hj, fun i hi => by simp at hi⟩
 ·have hex : ∃ f : Nat → Value, ∀ i (hi : i < ws.length), w.cell? ⟨b, off + i * 2 + 1, none⟩ = some (f i) ∧ Z0 S w (f i) ws[i].2 := by
   refine ⟨fun i => if hi : i < ws.length then (hc i hi).2.choose else undef, fun i hi => ?_⟩;simp only [hi, dif_pos];exact (hc i hi).2.choose_spec
  obtain ⟨f, hf⟩ := hex;have hul : ((List.range ws.length).map f).length = ws.length := by simp
  refine ⟨_, cap, (List.range ws.length).map f, rfl, hul, fun h => (by cases h), fun ad had j u hj => ?_, fun i hi => ⟨f i, by simp [hi], (hf i hi).2⟩⟩;cases had;have hjl : j < ws.length * 2 := by
   rw [← Zbv ws _ hul];rcases Nat.lt_or_ge j (Vn ws ((List.range ws.length).map f)).length with h | h
   ·exact h
   ·rw [List.getElem?_eq_none h] at hj; cases hj
  have e : ∀ m, (⟨b, off, none⟩ : Addr).add m = ⟨b, off + m, none⟩ := fun m => by simp [Addr.add]
  rcases Nat.mod_two_eq_zero_or_one j with hm | hm
  ·obtain ⟨i, rfl⟩ : ∃ i, j = i * 2 := ⟨j / 2, by omega⟩;rw [Zeg ws _ i hul (by omega)] at hj;cases hj;rw [e];exact (hc i (by omega)).1
  ·obtain ⟨i, rfl⟩ : ∃ i, j = i * 2 + 1 := ⟨j / 2, by omega⟩;rw [Zgs ws _ i hul (by omega)] at hj;have : u = f i := by simp [show i < ws.length from by omega] at hj; exact hj.symm
   subst this;rw [e];exact (hf i (by omega)).1
theorem Zgi (h : w.ownsRow base 107 2 v ws.length (Vn ws us)) (hl : us.length = ws.length) (hu : ∀ i (hi : i < ws.length), ∃ u, us[i]? = some u ∧ Z0 S w u ws[i].2) : Xl (Zs S base) w v ws := by
 rcases h.2 with ⟨rfl, h0⟩ | ⟨g, cap, cur, rfl, hb, hh, h1, h2, h3, h4⟩
 ·exact .inl ⟨none, 0, rfl, List.eq_nil_of_length_eq_zero h0, fun _ => rfl⟩
 ·refine .inr ⟨g, 0, cap, .inr hb, rfl, h1, fun i hi => ?_⟩;have k0 := h.cellAt (i * 2) (by omega);have k1 := h.cellAt (i * 2 + 1) (by omega);rw [Zeg ws us i hl hi] at k0;rw [Zgs ws us i hl hi] at k1;obtain ⟨u, hu1, hu2⟩ := hu i hi;rw [hu1] at k1;refine ⟨by rw [Nat.zero_add]; exact k0, u, by rw [Nat.zero_add]; exact k1, hu2.mono V2⟩
theorem Za7 : (Tryz.prog.info? 107).map (fun i => (i.zero, i.size, i.bytes)) = some (some (.agg #[.int .i64 0, .slice none 0 0]), 2, 32) := by kernel_rfl
theorem Zm6 (w : World) : (w.alloc (.cells #[] 107)).ownsRow w.heap.size 107 2 (.slice (some ⟨w.heap.size, 0, none⟩) 0 0) 0 [] :=
 ⟨rfl, .inr ⟨w.heap.size, 0, #[], rfl, Nat.le_refl _, by show (w.heap.push _)[w.heap.size]? = _; simp, Nat.le_refl _, by unfold maxLen; omega, rfl, rfl⟩⟩
theorem Zic (h : Bytes w v l) : v.oneCell' = true := by
 obtain ⟨ao, cap, rfl, -, -⟩ := Yn h; rfl
theorem hx1 (w : World) (c e : Array Value) : ((w.alloc (.cells c 26)).alloc (.cells e 26)).heap[w.heap.size]? = some (.cells c 26 (0, 0)) :=
 ((Zb (w.alloc (.cells c 26)) _).block _ (by simp)).trans (Zg _ _ _)
theorem hy1 (w : World) (c e : Array Value) : ((w.alloc (.cells c 26)).alloc (.cells e 26)).heap[w.heap.size + 1]? = some (.cells e 26 (0, 0)) := by
 have h := Zg (w.alloc (.cells c 26)) e 26;rw [World.size_alloc] at h;exact h
theorem Y4 {size : Nat} (h : w.ownsRow base e size v n xs) : ∃ ao cap, v = .slice ao n cap := by
 rcases h.2 with ⟨h1, h0⟩ | ⟨g, cap, cur, rfl, hb, _⟩
 ·subst h0; exact ⟨none, 0, h1⟩
 ·exact ⟨_, cap, rfl⟩
theorem Zst {w2 : World} {p : Obj} {size : Nat} (hB : W.heap.size = B) (h2 : (W.alloc o).grownBy w2 r) (h3 : (w2.alloc p).grownBy w3 v.ownBlock) (hr : r = some B) (hown : w2.ownsRow B e size v n xs) : Zn W w3 := by
 have g2 : Zn W w2 := Ya (Zb W _) h2 (fun k hk => by rw [hr] at hk; cases hk; omega);exact Ya (g2.trans (Zb w2 _)) h3 (fun k hk => by have := (hown.lt k hk).1; omega)
theorem Zp0 {p : Obj} (hB : W.heap.size = B) (h3 : ((W.alloc o).alloc p).grownBy w3 r) (hr : r = some B) : Zn W w3 :=
 Ya ((Zb W _).trans (Zb _ _)) h3 (fun k hk => by rw [hr] at hk; cases hk; omega)
theorem Zkf {u : Value} {a : Int} (hl : us.length = ws.length) (h : w.ownsRow base 107 2 v (ws.length + 1) (Vn ws us ++ [.int .i64 a, u])) (hu : ∀ i (hi : i < ws.length), ∃ u, us[i]? = some u ∧ Z0 S w u ws[i].2) (hb : Z0 S w u l) : Xl (Zs S base) w v (ws ++ [(a, l)]) := by
 rw [← Zgt ws us (a, l) u hl] at h;refine Zgi (us := us ++ [u]) (by simpa using h) (by simp [hl]) fun i hi => ?_;by_cases hi2 : i < ws.length
 ·obtain ⟨x, h1, h2⟩ := hu i hi2;refine ⟨x, by rw [List.getElem?_append_left (by omega)]; exact h1, ?_⟩;rw [List.getElem_append_left hi2]; exact h2
 ·have e : i = ws.length := by simp at hi; omega
  subst e;exact ⟨u, by rw [← hl]; simp, by simpa using hb⟩
theorem Zdb (S : Nat → Prop) (d : Dk) (a : Int) (l : List UInt8) (vb vl v : Value) (w : World) (hb : X1 w vb d.blocks) (hl : Xl S w vl d.late) (hv : Z0 S w v l) (h0 : 0 ≤ a) (h1 : a < (d.blocks.length : Int)) (h16 : l.length = 16) (hm : d.late.length ≤ 1000000) :
  Calls Tryz.prog 114 #[.agg #[vb, vl], .int .i64 a, v] w fun e w' => ∃ vl', e = .returned (.tuple #[.agg #[vb, vl'], .int .i64 0]) ∧ Xl (Zs S w.heap.size) w' vl' (d.late ++ [(a, l)]) ∧ Zn w w' := by
 obtain ⟨ab, cb, rfl⟩ := hb.form;obtain ⟨al, cl, us, rfl, hul, hnone, hcells, hus⟩ := Ztp hl;obtain ⟨av, cv, rfl, -, -⟩ := Yn hv.p;have d0 : ((l.length : Int) != 16) = false := by simp [h16]
 have HL16 : Hid (l.length = 16) := h16;obtain ⟨i0, hif, hz0, hz1, hz2⟩ := info_parts Za7;clear hb hl h16;have hx := hx1 w #[.slice ab d.blocks.length cb, .slice al d.late.length cl] #[.slice none 0 0, .slice none 0 0];have hy := hy1 w #[.slice ab d.blocks.length cb, .slice al d.late.length cl] #[.slice none 0 0, .slice none 0 0];have gW := Zp w (.cells #[.slice ab d.blocks.length cb, .slice al d.late.length cl] 26) (.cells #[.slice none 0 0, .slice none 0 0] 26);have ho := Zm6 ((w.alloc (.cells #[.slice ab d.blocks.length cb, .slice al d.late.length cl] 26)).alloc (.cells #[.slice none 0 0, .slice none 0 0] 26));have hone : ∀ u ∈ Vn d.late us, u.oneCell' = true := by
  intro u hu;rcases Zk8 _ _ _ hu with ⟨n, rfl⟩ | hu
  ·rfl
  ·obtain ⟨i, hi, rfl⟩ := List.mem_iff_getElem.1 hu;obtain ⟨u', h2, h3⟩ := hus i (by omega);rw [List.getElem?_eq_getElem hi] at h2;cases h2;exact Zic h3.p
 simp only [World.size_alloc] at ho;cases al with
 | some ad =>
  have hc1 : ∀ (j : Nat) u, (Vn d.late us)[j]? = some u → (((w.alloc (.cells #[.slice ab d.blocks.length cb, .slice (some ad) d.late.length cl] 26)).alloc (.cells #[.slice none 0 0, .slice none 0 0] 26)).alloc (.cells #[] 107)).cell? (ad.add j) = some u := by
   intro j u hj;have h2 := hcells ad rfl j u hj;rw [← h2];exact Below.cell (gW.trans (Zb _ _)) (Zv h2)
  clear hcells hnone;go_enter Tryz.func114, Tryz.ntmps114;go_wp2_with (first
   | (at_builtin; refine wpList_append_own _ rfl (.tmp 22) (.tmp 24) 24 rfl (w.heap.size + 1 + 1) 107 i0 (.agg #[.int .i64 0, .slice none 0 0]) 2 32 Tryz.underlying24 hif hz0 hz1 hz2 rfl (by decide) (.slice (some ⟨w.heap.size + 1 + 1, 0, none⟩) 0 0) 0 [] rfl ho ad d.late.length cl (Vn d.late us) rfl (Zbv _ _ hul) hc1 hone (by unfold maxLen; omega) (by omega) (by simp) ?_; intro v2 w2 hown2 hgrow2 _; simp only [Nat.zero_add, List.nil_append] at hown2; clear hc1; have hsl := Y4 hown2; obtain ⟨a2, c2, hv2⟩ := hsl; subst hv2)
   | (at_builtin; refine wpList_append_own _ rfl (.tmp 25) (.tmp 29) 24 rfl (w.heap.size + 1 + 1) 107 i0 (.agg #[.int .i64 0, .slice none 0 0]) 2 32 Tryz.underlying24 hif hz0 hz1 hz2 rfl (by decide) (.slice a2 d.late.length c2) d.late.length (Vn d.late us) rfl (hown2.alloc _) ⟨w2.heap.size, 0, none⟩ 1 1 [.int .i64 a, .slice av l.length cv] rfl rfl (fun j u hj => Zaj w2 _ _ _ j u hj) (by intro u hu; simp at hu; rcases hu with rfl | rfl <;> rfl) (by unfold maxLen; omega) (by omega) (by have := hgrow2.size; simp at this ⊢; omega) ?_; intro v3 w3 hown3 hgrow3 _; have hsl := Y4 hown3; obtain ⟨a3, c3, hv3⟩ := hsl; subst hv3; have gB := Zst (by simp) hgrow2 hgrow3 rfl hown2; have hbx := (gB.block _ (Za hx)).trans hx; have hby := (gB.block _ (Za hy)).trans hy; have x0 := Zc hbx 0 _ rfl; have x1 := Zc hbx 1 _ rfl; have y0 := Zc hby 0 _ rfl; have y1 := Zc hby 1 _ rfl; have f0 := Zi hby 0; have f1 := Zi hby 1; have e1 := Zi hbx 1; have cs := Zr))
  have hown4 := Xk (Xk (Xk hown3 (a := ⟨w.heap.size, 1, none⟩) (by show w.heap.size < _; omega) (.slice a3 (d.late.length + 1) c3)) (a := ⟨w.heap.size + 1, 0, none⟩) (by show w.heap.size + 1 < _; omega) (.slice ab d.blocks.length cb)) (a := ⟨w.heap.size + 1, 1, none⟩) (by show w.heap.size + 1 < _; omega) (.slice a3 (d.late.length + 1) c3);have gE := Zx (Zx (Zx (gW.trans gB) (a := ⟨w.heap.size, 1, none⟩) (by simp) (.slice a3 (d.late.length + 1) c3)) (a := ⟨w.heap.size + 1, 0, none⟩) (by simp) (.slice ab d.blocks.length cb)) (a := ⟨w.heap.size + 1, 1, none⟩) (by simp) (.slice a3 (d.late.length + 1) c3);refine bodyPost_ret (v := .tuple #[.agg #[.slice ab d.blocks.length cb, .slice a3 (d.late.length + 1) c3], .int .i64 0]) (by simp [results, Tryz.results114, go_sem, y0, y1, cs]) rfl ⟨_, rfl, (Zkf hul hown4 (fun i hi => ?_) (hv.grow gE)).mono (Zw (by omega)), gE⟩;obtain ⟨u, hu1, hu2⟩ := hus i hi;exact ⟨u, hu1, hu2.grow gE⟩
 | none =>
  obtain ⟨hz, rfl⟩ := hnone rfl;have hle := List.eq_nil_of_length_eq_zero hz;have hue : us = [] := List.eq_nil_of_length_eq_zero (by omega);subst hue;have HLE : Hid (d.late = []) := hle;rw [hz] at hx hy gW ho ⊢;clear hcells hnone hone;go_enter Tryz.func114, Tryz.ntmps114;go_wp2_with (first
   | (at_builtin; refine wpList_append_own_none rfl (.tmp 22) (.tmp 24) 24 rfl (w.heap.size + 1 + 1) 107 i0 2 Tryz.underlying24 hif (.slice (some ⟨w.heap.size + 1 + 1, 0, none⟩) 0 0) 0 [] rfl ho rfl ?_)
   | (at_builtin; refine wpList_append_own _ rfl (.tmp 25) (.tmp 29) 24 rfl (w.heap.size + 1 + 1) 107 i0 (.agg #[.int .i64 0, .slice none 0 0]) 2 32 Tryz.underlying24 hif hz0 hz1 hz2 rfl (by decide) (.slice (some ⟨w.heap.size + 1 + 1, 0, none⟩) 0 0) 0 [] rfl (ho.alloc _) ⟨w.heap.size + 1 + 1 + 1, 0, none⟩ 1 1 [.int .i64 a, .slice av l.length cv] rfl rfl (fun j u hj => by have := Zaj (((w.alloc (.cells #[.slice ab d.blocks.length cb, .slice none 0 0] 26)).alloc (.cells #[.slice none 0 0, .slice none 0 0] 26)).alloc (.cells #[] 107)) (.int .i64 a) (.slice av l.length cv) 107 j u hj; simpa using this) (by intro u hu; simp at hu; rcases hu with rfl | rfl <;> rfl) (by unfold maxLen; omega) (by omega) (by simp) ?_; intro v3 w3 hown3 hgrow3 _; have hsl := Y4 hown3; obtain ⟨a3, c3, hv3⟩ := hsl; subst hv3; have gB := Zp0 (by simp) hgrow3 rfl; have hbx := (gB.block _ (Za hx)).trans hx; have hby := (gB.block _ (Za hy)).trans hy; have x0 := Zc hbx 0 _ rfl; have x1 := Zc hbx 1 _ rfl; have y0 := Zc hby 0 _ rfl; have y1 := Zc hby 1 _ rfl; have f0 := Zi hby 0; have f1 := Zi hby 1; have e1 := Zi hbx 1; have cs := Zr))
  have hown4 := Xk (Xk (Xk hown3 (a := ⟨w.heap.size, 1, none⟩) (by show w.heap.size < _; omega) (.slice a3 1 c3)) (a := ⟨w.heap.size + 1, 0, none⟩) (by show w.heap.size + 1 < _; omega) (.slice ab d.blocks.length cb)) (a := ⟨w.heap.size + 1, 1, none⟩) (by show w.heap.size + 1 < _; omega) (.slice a3 1 c3);have gE := Zx (Zx (Zx (gW.trans gB) (a := ⟨w.heap.size, 1, none⟩) (by simp) (.slice a3 1 c3)) (a := ⟨w.heap.size + 1, 0, none⟩) (by simp) (.slice ab d.blocks.length cb)) (a := ⟨w.heap.size + 1, 1, none⟩) (by simp) (.slice a3 1 c3);refine bodyPost_ret (v := .tuple #[.agg #[.slice ab d.blocks.length cb, .slice a3 1 c3], .int .i64 0]) (by simp [results, Tryz.results114, go_sem, y0, y1, cs]) rfl ⟨_, rfl, ?_, gE⟩;rw [HLE.out];exact (Zkf (S := S) (ws := []) (us := []) rfl hown4 (fun i hi => by simp at hi) (hv.grow gE)).mono (Zw (by omega))
end Go.Proofs.YtpdnapbchcdhlacGreat
