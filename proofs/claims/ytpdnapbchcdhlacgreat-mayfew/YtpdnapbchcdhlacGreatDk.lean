import Derived.Test.YtpdnapbchcdhlacGreatBRead
set_option maxHeartbeats 8000000
namespace Go.Proofs.YtpdnapbchcdhlacGreat
set_option maxRecDepth 100000
open Go.RowKit
open Plain Reg
variable {B cap g n : Nat} {S S' : Nat → Prop} {ao : Option Addr} {bs : List (List UInt8)} {l : List UInt8} {v : Value} {w w' : World}
abbrev Wr := Int × List UInt8
structure Dk where
 blocks : List (List UInt8)
 late : List Wr
def X3 (w : World) (v : Value) (bs : List (List UInt8)) : Prop :=
 (∃ ao cap, v = .slice ao 0 cap ∧ bs = [] ∧ (ao = none → cap = 0)) ∨
 (∃ b off cap, v = .slice (some ⟨b, off, none⟩) bs.length cap ∧ bs.length ≤ cap ∧ ∀ (i : Nat) (h : i < bs.length), ∃ u, w.cell? ⟨b, off + i, none⟩ = some u ∧ Bytes w u bs[i])
def Vk (w : World) (v : Value) (ws : List Wr) : Prop :=
 (∃ ao cap, v = .slice ao 0 cap ∧ ws = [] ∧ (ao = none → cap = 0)) ∨
 (∃ b off cap, v = .slice (some ⟨b, off, none⟩) ws.length cap ∧ ws.length ≤ cap ∧ ∀ (i : Nat) (h : i < ws.length), w.cell? ⟨b, off + i * 2, none⟩ = some (.int .i64 ws[i].1) ∧ ∃ u, w.cell? ⟨b, off + i * 2 + 1, none⟩ = some u ∧ Bytes w u ws[i].2)
theorem X3.grow (h : X3 w v bs) (hg : Zl w w') : X3 w' v bs := by
 rcases h with h | ⟨b, off, cap, rfl, h1, hc⟩
 ·exact .inl h
 ·refine .inr ⟨b, off, cap, rfl, h1, fun i hi => ?_⟩;obtain ⟨u, h2, h3⟩ := hc i hi;exact ⟨u, (Below.cell hg (Zs h2)).trans h2, Zz h3 hg⟩
theorem Vk.grow {ws : List Wr} (h : Vk w v ws) (hg : Zl w w') : Vk w' v ws := by
 rcases h with h | ⟨b, off, cap, rfl, h1, hc⟩
 ·exact .inl h
 ·refine .inr ⟨b, off, cap, rfl, h1, fun i hi => ?_⟩;obtain ⟨h0, u, h2, h3⟩ := hc i hi;exact ⟨(Below.cell hg (Zs h0)).trans h0, u, (Below.cell hg (Zs h2)).trans h2, Zz h3 hg⟩
theorem X3.form (h : X3 w v bs) : ∃ ao cap, v = .slice ao bs.length cap := by
 rcases h with ⟨ao, cap, rfl, rfl, _⟩ | ⟨b, off, cap, rfl, _⟩
 ·exact ⟨ao, cap, rfl⟩
 ·exact ⟨_, cap, rfl⟩
theorem Vk.form {ws : List Wr} (h : Vk w v ws) : ∃ ao cap, v = .slice ao ws.length cap := by
 rcases h with ⟨ao, cap, rfl, rfl, _⟩ | ⟨b, off, cap, rfl, _⟩
 ·exact ⟨ao, cap, rfl⟩
 ·exact ⟨_, cap, rfl⟩
theorem X3.at (h : X3 w (.slice ao n cap) bs) (i : Nat) (hi : i < bs.length) :
  ∃ b off, ao = some ⟨b, off, none⟩ ∧ ∃ u, w.cell? ⟨b, off + i, none⟩ = some u ∧ Bytes w u bs[i] := by
 rcases h with ⟨_, _, _, rfl, _⟩ | ⟨b, off, cp, h2, h3, h4⟩
 ·simp at hi
 ·cases h2;exact ⟨b, off, rfl, h4 i hi⟩
theorem Vk.at {ws : List Wr} (h : Vk w (.slice ao n cap) ws) (i : Nat) (hi : i < ws.length) :
  ∃ b off, ao = some ⟨b, off, none⟩ ∧ w.cell? ⟨b, off + i * 2, none⟩ = some (.int .i64 ws[i].1) ∧ ∃ u, w.cell? ⟨b, off + i * 2 + 1, none⟩ = some u ∧ Bytes w u ws[i].2 := by
 rcases h with ⟨_, _, _, rfl, _⟩ | ⟨b, off, cp, h2, h3, h4⟩
 ·simp at hi
 ·cases h2;exact ⟨b, off, rfl, h4 i hi⟩
def Z1 (S : Nat → Prop) (w : World) (v : Value) (l : List UInt8) : Prop :=
 (∃ ao cap, v = .slice ao 0 cap ∧ l = [] ∧ (ao = none → cap = 0)) ∨
 (∃ b off cap, S b ∧ v = .slice (some ⟨b, off, none⟩) l.length cap ∧ l.length ≤ cap ∧ ∀ (i : Nat) (h : i < l.length), w.cell? ⟨b, off + i, none⟩ = some (.int .u8 (l[i].toNat : Int)))
def Y5 (S : Nat → Prop) (w : World) (v : Value) (bs : List (List UInt8)) : Prop :=
 (∃ ao cap, v = .slice ao 0 cap ∧ bs = [] ∧ (ao = none → cap = 0)) ∨
 (∃ b off cap, S b ∧ v = .slice (some ⟨b, off, none⟩) bs.length cap ∧ bs.length ≤ cap ∧ ∀ (i : Nat) (h : i < bs.length), ∃ u, w.cell? ⟨b, off + i, none⟩ = some u ∧ Z1 S w u bs[i])
def Qk (S : Nat → Prop) (w : World) (v : Value) (ws : List Wr) : Prop :=
 (∃ ao cap, v = .slice ao 0 cap ∧ ws = [] ∧ (ao = none → cap = 0)) ∨
 (∃ b off cap, S b ∧ v = .slice (some ⟨b, off, none⟩) ws.length cap ∧ ws.length ≤ cap ∧ ∀ (i : Nat) (h : i < ws.length), w.cell? ⟨b, off + i * 2, none⟩ = some (.int .i64 ws[i].1) ∧ ∃ u, w.cell? ⟨b, off + i * 2 + 1, none⟩ = some u ∧ Z1 S w u ws[i].2)
def Z2 (S : Nat → Prop) (B : Nat) : Nat → Prop := fun b => S b ∨ B ≤ b
theorem Zq6 : ∀ b, S b → Z2 S B b := fun _ h => .inl h
theorem Z6 {B' : Nat} (h : B ≤ B') : ∀ b, Z2 S B' b → Z2 S B b := fun _ hb => Xk hb (fun x => x) (fun x => Nat.le_trans h x)
theorem Z1.p (h : Z1 S w v l) : Bytes w v l := by
 rcases h with h | ⟨b, off, cap, _, h⟩
 ·exact .inl h
 ·exact .inr ⟨b, off, cap, h⟩
theorem Zbr (h : Bytes w v l) : Z1 (fun b => b < w.heap.size) w v l := by
 by_cases h0 : l = []
 ·subst h0;rcases h with h | ⟨b, off, cap, rfl, h1, hc⟩
  ·exact .inl h
  ·exact .inl ⟨_, cap, rfl, rfl, fun h => by cases h⟩
 ·rcases h with ⟨_, _, _, h1, _⟩ | ⟨b, off, cap, h2, h1, hc⟩
  ·exact absurd h1 h0
  ·exact .inr ⟨b, off, cap, Zs (hc 0 (List.length_pos_iff.2 h0)), h2, h1, hc⟩
theorem Zff {base : Nat} (S : Nat → Prop) (h : w.ownsRow base 5 1 v l.length (l.map bv)) : Z1 (Z2 S base) w v l := by
 rcases h.2 with ⟨rfl, h0⟩ | ⟨g, cap, cur, rfl, hb, hh, h1, h2, h3, h4⟩
 ·exact .inl ⟨none, 0, rfl, List.eq_nil_of_length_eq_zero h0, fun _ => rfl⟩
 ·refine .inr ⟨g, 0, cap, .inr hb, rfl, h1, fun i hi => ?_⟩;have := h.cellAt i (by omega);rw [Nat.zero_add, this];simp [hi, bv]
theorem Z1.mono (h : Z1 S w v l) (hS : ∀ b, S b → S' b) : Z1 S' w v l := by
 rcases h with h | ⟨b, off, cap, hb, h⟩
 ·exact .inl h
 ·exact .inr ⟨b, off, cap, hS b hb, h⟩
theorem Z1.but (h : Z1 S w v l) (hg : Zp g w w') (hn : ¬ S g) : Z1 S w' v l := by
 rcases h with h | ⟨b, off, cap, hb, h1, h2, hc⟩
 ·exact .inl h
 ·refine .inr ⟨b, off, cap, hb, h1, h2, fun i hi => ?_⟩;have h3 := hc i hi;exact (hg.cell (Zs h3) (fun e => hn (by rw [← e]; exact hb))).trans h3
theorem Z1.grow (h : Z1 S w v l) (hg : Zl w w') : Z1 S w' v l := by
 rcases h with h | ⟨b, off, cap, hb, h1, h2, hc⟩
 ·exact .inl h
 ·exact .inr ⟨b, off, cap, hb, h1, h2, fun i hi => (Below.cell hg (Zs (hc i hi))).trans (hc i hi)⟩
theorem Y5.p (h : Y5 S w v bs) : X3 w v bs := by
 rcases h with h | ⟨b, off, cap, _, h1, h2, h⟩
 ·exact .inl h
 ·refine .inr ⟨b, off, cap, h1, h2, fun i hi => ?_⟩;obtain ⟨u, h3, h4⟩ := h i hi;exact ⟨u, h3, h4.p⟩
theorem X3.s (h : X3 w v bs) : Y5 (fun b => b < w.heap.size) w v bs := by
 by_cases h0 : bs = []
 ·subst h0;rcases h with h | ⟨b, off, cap, rfl, h1, hc⟩
  ·exact .inl h
  ·exact .inl ⟨_, cap, rfl, rfl, fun h => by cases h⟩
 ·rcases h with ⟨_, _, _, h1, _⟩ | ⟨b, off, cap, h2, h1, hc⟩
  ·exact absurd h1 h0
  ·refine .inr ⟨b, off, cap, ?_, h2, h1, fun i hi => ?_⟩
   ·obtain ⟨u, h3, _⟩ := hc 0 (List.length_pos_iff.2 h0);exact Zs h3
   ·obtain ⟨u, h3, h4⟩ := hc i hi;exact ⟨u, h3, Zbr h4⟩
theorem Y5.mono (h : Y5 S w v bs) (hS : ∀ b, S b → S' b) : Y5 S' w v bs := by
 rcases h with h | ⟨b, off, cap, hb, h1, h2, h⟩
 ·exact .inl h
 ·refine .inr ⟨b, off, cap, hS b hb, h1, h2, fun i hi => ?_⟩;obtain ⟨u, h3, h4⟩ := h i hi;exact ⟨u, h3, h4.mono hS⟩
theorem Y5.but (h : Y5 S w v bs) (hg : Zp g w w') (hn : ¬ S g) : Y5 S w' v bs := by
 rcases h with h | ⟨b, off, cap, hb, h1, h2, hc⟩
 ·exact .inl h
 ·refine .inr ⟨b, off, cap, hb, h1, h2, fun i hi => ?_⟩;obtain ⟨u, h3, h4⟩ := hc i hi;exact ⟨u, (hg.cell (Zs h3) (fun e => hn (by rw [← e]; exact hb))).trans h3, h4.but hg hn⟩
theorem Y5.grow (h : Y5 S w v bs) (hg : Zl w w') : Y5 S w' v bs := by
 rcases h with h | ⟨b, off, cap, hb, h1, h2, hc⟩
 ·exact .inl h
 ·refine .inr ⟨b, off, cap, hb, h1, h2, fun i hi => ?_⟩;obtain ⟨u, h3, h4⟩ := hc i hi;exact ⟨u, (Below.cell hg (Zs h3)).trans h3, h4.grow hg⟩
theorem Y5.at (h : Y5 S w (.slice ao n cap) bs) (i : Nat) (hi : i < bs.length) :
  ∃ b off, ao = some ⟨b, off, none⟩ ∧ ∃ u, w.cell? ⟨b, off + i, none⟩ = some u ∧ Z1 S w u bs[i] := by
 rcases h with ⟨_, _, _, rfl, _⟩ | ⟨b, off, cp, _, h2, h3, h4⟩
 ·simp at hi
 ·cases h2;exact ⟨b, off, rfl, h4 i hi⟩
theorem Qk.p {ws : List Wr} (h : Qk S w v ws) : Vk w v ws := by
 rcases h with h | ⟨b, off, cap, _, h1, h2, h⟩
 ·exact .inl h
 ·refine .inr ⟨b, off, cap, h1, h2, fun i hi => ?_⟩;obtain ⟨h0, u, h3, h4⟩ := h i hi;exact ⟨h0, u, h3, h4.p⟩
theorem Vk.s {ws : List Wr} (h : Vk w v ws) : Qk (fun b => b < w.heap.size) w v ws := by
 by_cases h0 : ws = []
 ·subst h0;rcases h with h | ⟨b, off, cap, rfl, h1, hc⟩
  ·exact .inl h
  ·exact .inl ⟨_, cap, rfl, rfl, fun h => by cases h⟩
 ·rcases h with ⟨_, _, _, h1, _⟩ | ⟨b, off, cap, h2, h1, hc⟩
  ·exact absurd h1 h0
  ·refine .inr ⟨b, off, cap, Zs (hc 0 (List.length_pos_iff.2 h0)).1, h2, h1, fun i hi => ?_⟩;obtain ⟨hq, u, h3, h4⟩ := hc i hi;exact ⟨hq, u, h3, Zbr h4⟩
theorem Qk.mono {ws : List Wr} (h : Qk S w v ws) (hS : ∀ b, S b → S' b) : Qk S' w v ws := by
 rcases h with h | ⟨b, off, cap, hb, h1, h2, h⟩
 ·exact .inl h
 ·refine .inr ⟨b, off, cap, hS b hb, h1, h2, fun i hi => ?_⟩;obtain ⟨h0, u, h3, h4⟩ := h i hi;exact ⟨h0, u, h3, h4.mono hS⟩
theorem Qk.but {ws : List Wr} (h : Qk S w v ws) (hg : Zp g w w') (hn : ¬ S g) : Qk S w' v ws := by
 rcases h with h | ⟨b, off, cap, hb, h1, h2, hc⟩
 ·exact .inl h
 ·refine .inr ⟨b, off, cap, hb, h1, h2, fun i hi => ?_⟩;obtain ⟨h0, u, h3, h4⟩ := hc i hi;exact ⟨(hg.cell (Zs h0) (fun e => hn (by rw [← e]; exact hb))).trans h0, u, (hg.cell (Zs h3) (fun e => hn (by rw [← e]; exact hb))).trans h3, h4.but hg hn⟩
theorem Qk.grow {ws : List Wr} (h : Qk S w v ws) (hg : Zl w w') : Qk S w' v ws := by
 rcases h with h | ⟨b, off, cap, hb, h1, h2, hc⟩
 ·exact .inl h
 ·refine .inr ⟨b, off, cap, hb, h1, h2, fun i hi => ?_⟩;obtain ⟨h0, u, h3, h4⟩ := hc i hi;exact ⟨(Below.cell hg (Zs h0)).trans h0, u, (Below.cell hg (Zs h3)).trans h3, h4.grow hg⟩
theorem Qk.at {ws : List Wr} (h : Qk S w (.slice ao n cap) ws) (i : Nat) (hi : i < ws.length) :
  ∃ b off, ao = some ⟨b, off, none⟩ ∧ w.cell? ⟨b, off + i * 2, none⟩ = some (.int .i64 ws[i].1) ∧ ∃ u, w.cell? ⟨b, off + i * 2 + 1, none⟩ = some u ∧ Z1 S w u ws[i].2 := by
 rcases h with ⟨_, _, _, rfl, _⟩ | ⟨b, off, cp, _, h2, h3, h4⟩
 ·simp at hi
 ·cases h2;exact ⟨b, off, rfl, h4 i hi⟩
theorem Q2 {α : Type} [BEq α] [LawfulBEq α] {a b : α} (h : a ≠ b) : (a == b) = false := by simpa using h
variable {base : Nat} {v : Value} {w : World}
def Qj (ws : List Wr) (a : Int) : Option (List UInt8) := ws.foldl (fun r x => if x.1 = a then some x.2 else r) none
theorem Zch (ws : List Wr) (x : Wr) (a : Int) : Qj (ws ++ [x]) a = if x.1 = a then some x.2 else Qj ws a := by simp [Qj, List.foldl_append]
theorem Zcg (ws : List Wr) (a : Int) (k : Nat) (h : k < ws.length) : Qj (ws.take (k + 1)) a = if ws[k].1 = a then some ws[k].2 else Qj (ws.take k) a := by
 rw [List.take_succ_eq_append_getElem h, Zch]
def Dk.get (d : Dk) (a : Int) : Option (List UInt8) := if a < 0 ∨ (d.blocks.length : Int) ≤ a then none else some ((Qj d.late a).getD (d.blocks.getD a.toNat []))
def Dk.getE (d : Dk) (a : Int) : Int := if a < 0 ∨ (d.blocks.length : Int) ≤ a then 3 else 0
def Dk.put (d : Dk) (a : Int) (b : List UInt8) : Dk := ⟨d.blocks, d.late ++ [(a, b)]⟩
theorem Zc3 (S : Nat → Prop) (d : Dk) (a : Int) (vb vl : Value) (w : World) (hb : Y5 S w vb d.blocks) (hl : Qk S w vl d.late) (hm2 : d.late.length ≤ 140737488355328) :
  Calls Tryz.prog 76 #[.agg #[vb, vl], .int .i64 a] w fun e w' => ∃ v, e = .returned (.tuple #[v, .int .i64 (d.getE a)]) ∧ Z1 S w' v ((d.get a).getD []) ∧ Zl w w' := by
 obtain ⟨ab, cb, rfl⟩ := hb.p.form;obtain ⟨al, cl, rfl⟩ := hl.p.form;by_cases hout : a < 0 ∨ (d.blocks.length : Int) ≤ a
 ·have HE : Hid (d.getE a = 3) := by show d.getE a = 3; unfold Dk.getE; rw [if_pos hout]
  have HG : Hid (d.get a = none) := by show d.get a = none; unfold Dk.get; rw [if_pos hout]
  rw [HE.out, HG.out];by_cases h0 : a < 0
  ·go_enter Tryz.func76, Tryz.ntmps76;go_wp2_with fail
   go_ret2
   exact ⟨_, rfl, .inl ⟨none, 0, rfl, rfl, fun _ => rfl⟩, Zb _ _⟩
  ·have h1 : (d.blocks.length : Int) ≤ a := by omega
   clear hout;go_enter Tryz.func76, Tryz.ntmps76;go_wp2_with fail
   go_ret2
   exact ⟨_, rfl, .inl ⟨none, 0, rfl, rfl, fun _ => rfl⟩, Zb _ _⟩
 ·have HE : Hid (d.getE a = 0) := by show d.getE a = 0; unfold Dk.getE; rw [if_neg hout]
  have HG : Hid (d.get a = some ((Qj d.late a).getD (d.blocks.getD a.toNat []))) := by show d.get a = _; unfold Dk.get; rw [if_neg hout]
  rw [HE.out, HG.out, Option.getD_some];obtain ⟨p, rfl⟩ := Int.eq_ofNat_of_zero_le (by omega : 0 ≤ a);have hp : p < d.blocks.length := by omega
  clear hout;rw [Int.toNat_natCast];have gW := Zb w (.cells #[.slice ab d.blocks.length cb, .slice al d.late.length cl] 26);have hx := Zk w #[.slice ab d.blocks.length cb, .slice al d.late.length cl] 26;have hbW := hb.grow gW;have hlW := hl.grow gW;clear hb hl;go_enter Tryz.func76, Tryz.ntmps76;go_wp2_with fail;generalize World.alloc w _ = W at *;obtain ⟨x0, x1⟩ := X1 hx rfl rfl
  go_loop [6] (fun i => ∃ k : Nat, k ≤ d.late.length ∧ i = .int .i64 ((k : Int) - 1) ∧ Qj d.late p = Qj (d.late.take k) p) (fun i => (intOf i + 1).toNat)
  case atStart => exact ⟨d.late.length, Nat.le_refl _, rfl, by rw [List.take_length]⟩
  case round =>
   obtain ⟨k, hk, rfl, hla⟩ := hrel;have HLA : Hid (Qj d.late p = Qj (d.late.take k) p) := hla;clear hla
   match k, hk, HLA with
   | 0, hk, HLA =>
    have HB : Hid (Qj d.late p = none) := HLA;obtain ⟨b, off, rfl, u, hu, hub⟩ := hbW.at p hp;obtain ⟨au, cu, rfl, -, -⟩ := Yo hub.p;clear HLA;go_wp2_with fail
    go_ret2
    refine ⟨_, rfl, ?_, gW⟩;rw [HB.out, Option.getD_none];exact hub
   | k + 1, hk, HLA =>
    have hkl : k < d.late.length := by omega
    obtain ⟨b, off, rfl, hc0, u, hu, hub⟩ := hlW.at k hkl;obtain ⟨au, cu, rfl, -, -⟩ := Yo hub.p;have hst := Zcg d.late p k hkl;by_cases he : d.late[k].1 = (p : Int)
    ·rw [he] at hc0;rw [if_pos he] at hst;have HV : Hid (Qj d.late p = some d.late[k].2) := HLA.out.trans hst;clear HLA hst he;have e1 : ((k + 1 : Nat) : Int) - 1 = (k : Int) := by omega
     rw [e1];clear e1;go_wp2_with fail
     go_ret2
     refine ⟨_, rfl, ?_, gW⟩;rw [HV.out, Option.getD_some];exact hub
    ·rw [if_neg he] at hst;have HV : Hid (Qj d.late p = Qj (d.late.take k) p) := HLA.out.trans hst;have d2 : (d.late[k].1 == (p : Int)) = false := Q2 he;clear HLA hst he hub;generalize d.late[k].1 = q at *;have e1 : ((k + 1 : Nat) : Int) - 1 = (k : Int) := by omega
     rw [e1];clear e1;go_wp2_with fail
     go_round
     case rel => exact ⟨k, by omega, by go_num, HV.out⟩
     case measure => simp [intOf]
def Jt : List Wr → List Value → List Value
 | x :: ws, u :: us => .int .i64 x.1 :: u :: Jt ws us
 | _, _ => []
theorem Zhn : ∀ (ws : List Wr) (us : List Value) (i : Nat), us.length = ws.length → (h : i < ws.length) → (Jt ws us)[i * 2]? = some (.int .i64 ws[i].1)
 | [], us, i, _, h => by simp at h
 | x :: ws, [], i, h, _ => by simp at h
 | x :: ws, u :: us, 0, _, _ => by simp [Jt]
 | x :: ws, u :: us, i + 1, h, hi => by
  have := Zhn ws us i (by simpa using h) (by simpa using hi);rw [show (i + 1) * 2 = i * 2 + 1 + 1 from by omega];simpa [Jt] using this
theorem Zkm : ∀ (ws : List Wr) (us : List Value) (i : Nat), us.length = ws.length → i < ws.length → (Jt ws us)[i * 2 + 1]? = us[i]?
 | [], us, i, _, h => by simp at h
 | x :: ws, [], i, h, _ => by simp at h
 | x :: ws, u :: us, 0, _, _ => by simp [Jt]
 | x :: ws, u :: us, i + 1, h, hi => by
  have := Zkm ws us i (by simpa using h) (by simpa using hi);rw [show (i + 1) * 2 + 1 = i * 2 + 1 + 1 + 1 from by omega];simpa [Jt] using this
theorem Zkn : ∀ (ws : List Wr) (us : List Value) (x : Wr) (u : Value), us.length = ws.length → Jt (ws ++ [x]) (us ++ [u]) = Jt ws us ++ [.int .i64 x.1, u]
 | [], [], x, u, _ => by simp [Jt]
 | [], _ :: _, x, u, h => by simp at h
 | _ :: _, [], x, u, h => by simp at h
 | y :: ws, v :: us, x, u, h => by simp [Jt, Zkn ws us x u (by simpa using h)]
theorem Zkb {S : Nat → Prop} {ws : List Wr} {us : List Value} (h : w.ownsRow base 107 2 v ws.length (Jt ws us)) (hl : us.length = ws.length) (hu : ∀ i (hi : i < ws.length), ∃ u, us[i]? = some u ∧ Z1 S w u ws[i].2) : Qk (Z2 S base) w v ws := by
 rcases h.2 with ⟨rfl, h0⟩ | ⟨g, cap, cur, rfl, hb, hh, h1, h2, h3, h4⟩
 ·exact .inl ⟨none, 0, rfl, List.eq_nil_of_length_eq_zero h0, fun _ => rfl⟩
 ·refine .inr ⟨g, 0, cap, .inr hb, rfl, h1, fun i hi => ?_⟩;have k0 := h.cellAt (i * 2) (by omega);have k1 := h.cellAt (i * 2 + 1) (by omega);rw [Zhn ws us i hl hi] at k0;rw [Zkm ws us i hl hi] at k1;obtain ⟨u, hu1, hu2⟩ := hu i hi;rw [hu1] at k1;refine ⟨by rw [Nat.zero_add]; exact k0, u, by rw [Nat.zero_add]; exact k1, hu2.mono Zq6⟩
theorem Zci : (Tryz.prog.info? 107).map (fun i => (i.zero, i.size, i.bytes)) = some (some (.agg #[.int .i64 0, .slice none 0 0]), 2, 32) := by kernel_rfl
theorem Zqk {l : List UInt8} (h : Bytes w v l) : v.oneCell' = true := by
 obtain ⟨ao, cap, rfl, -, -⟩ := Yo h; rfl
theorem hx1 (w : World) (c e : Array Value) : ((w.alloc (.cells c 26)).alloc (.cells e 26)).heap[w.heap.size]? = some (.cells c 26 (0, 0)) :=
 ((Zb (w.alloc (.cells c 26)) _).block _ (by simp)).trans (Zk _ _ _)
theorem hy1 (w : World) (c e : Array Value) : ((w.alloc (.cells c 26)).alloc (.cells e 26)).heap[w.heap.size + 1]? = some (.cells e 26 (0, 0)) := by
 have h := Zk (w.alloc (.cells c 26)) e 26;rw [World.size_alloc] at h;exact h
theorem X8 {n size : Nat} {e : TypeId} {xs : List Value} (h : w.ownsRow base e size v n xs) : ∃ ao cap, v = .slice ao n cap := by
 rcases h.2 with ⟨h1, h0⟩ | ⟨g, cap, cur, rfl, hb, _⟩
 ·subst h0; exact ⟨none, 0, h1⟩
 ·exact ⟨_, cap, rfl⟩
theorem Za8 (w : World) : Calls Tryz.prog 83 #[] w fun e w' => e = .returned (.agg #[.int .i64 1, .int .i64 0, .int .i64 0, .slice none 0 0]) ∧ Zl w w' := by
 go_enter Tryz.func83, Tryz.ntmps83;go_wp2;exact bodyPost_ret (v := .agg #[.int .i64 1, .int .i64 0, .int .i64 0, .slice none 0 0]) (by simp [results, Tryz.results83, go_sem]) rfl ⟨rfl, Zb _ _⟩
def Dk.pairE (d : Dk) (p : Int) (r : Rec) : Int := if p < 0 ∨ ((d.blocks.length / 2 : Nat) : Int) ≤ p then 3 else Z3 r
def Dk.pairW (d : Dk) (p : Int) (r : Rec) : Dk := ⟨d.blocks, d.late ++ [(2 * p, blk r (2 * p)), (2 * p + 1, blk r (2 * p + 1))]⟩
def Dk.pairD (d : Dk) (p : Int) (r : Rec) : Dk := if d.pairE p r = 0 then d.pairW p r else d
theorem Qa {w : World} {g : Nat} {T : TypeId} {f} {c0 c1 : Value} (h : w.heap[g]? = some (.cells #[c0, c1] T f)) (x0 x1 : Value) :
  ((w.setCell ⟨g, 0, none⟩ x0).setCell ⟨g, 1, none⟩ x1).heap[g]? = some (.cells #[x0, x1] T f) ∧ Zp g w ((w.setCell ⟨g, 0, none⟩ x0).setCell ⟨g, 1, none⟩ x1) := by
 refine ⟨?_, ((Zp.refl g w).set _ _ _).set _ _ _⟩;have h1 := Yb (Yb h 0 x0) 1 x1;simpa using h1
end Go.Proofs.YtpdnapbchcdhlacGreat
namespace Go.Proofs.YtpdnapbchcdhlacGreat
set_option maxRecDepth 100000
open Plain
variable {α : Type}
def Dk.keepTo (d : Dk) (on : Nat → Bool) : Nat → List (List UInt8)
 | 0 => d.blocks
 | k + 1 => if on k = true then (d.keepTo on k).set (d.late.getD k (0, [])).1.toNat (d.late.getD k (0, [])).2 else d.keepTo on k
def Xv (bits : Int) (k : Nat) : Bool := decide (k < 60) && ((bits % 18446744073709551616).toNat / 2 ^ k % 2 == 1)
def Dk.keep (d : Dk) (bits : Int) : Dk := ⟨d.keepTo (Xv bits) d.late.length, []⟩
def Dk.flush (d : Dk) : Dk := ⟨d.keepTo (fun _ => true) d.late.length, []⟩
def Qz (b : List UInt8) (n : Int) (y : Int) : List UInt8 := if 0 ≤ n ∧ n < (b.length : Int) then b.set n.toNat (b.getD n.toNat 0 ^^^ lo y) else b
def Dk.spoil (d : Dk) (a n y : Int) : Dk := if 0 ≤ a ∧ a < (d.blocks.length : Int) then ⟨d.blocks.set a.toNat (Qz (d.blocks.getD a.toNat []) n y), d.late⟩ else d
def Dk.new : Dk := ⟨(List.range 12).map fun (i : Nat) => blk ⟨1, 0, 0, []⟩ (i : Int), []⟩
theorem Q1 (l : List α) (i : Nat) (x : α) (h : i < l.length) : l.getD i x = l[i] := by
 rw [List.getD_eq_getElem?_getD, List.getElem?_eq_getElem h]; rfl
theorem Qu (l : List α) (i j : Nat) (y x : α) (h : i < l.length) : (l.set j y).getD i x = if j = i then y else l.getD i x := by
 rw [List.getD_eq_getElem?_getD, List.getD_eq_getElem?_getD, List.getElem?_set];by_cases hj : j = i
 ·subst hj; simp [h]
 ·simp [hj]
theorem Dk.keepTo_length (d : Dk) (on : Nat → Bool) : ∀ k, (d.keepTo on k).length = d.blocks.length
 | 0 => rfl
 | k + 1 => by
  show (if on k = true then _ else _ : List (List UInt8)).length = _;split
  ·rw [List.length_set]; exact keepTo_length d on k
  ·exact keepTo_length d on k
theorem Dk.keepTo_none (d : Dk) (on : Nat → Bool) (h : ∀ k, on k = false) : ∀ k, d.keepTo on k = d.blocks
 | 0 => rfl
 | k + 1 => by
  show (if on k = true then _ else _) = _;rw [h k, if_neg (by decide)]; exact keepTo_none d on h k
theorem Znh (k : Nat) : Xv 0 k = false := by
 unfold Xv;have : ((0 : Int) % 18446744073709551616).toNat = 0 := by decide
 rw [this, Nat.zero_div]; simp
theorem Dk.keep_none (d : Dk) : (d.keep 0).blocks = d.blocks := d.keepTo_none _ Znh _
theorem Dk.keepTo_last (d : Dk) (hl : ∀ x ∈ d.late, 0 ≤ x.1) (a : Nat) (ha : a < d.blocks.length) : ∀ k, k ≤ d.late.length →
  (d.keepTo (fun _ => true) k).getD a [] = (Qj (d.late.take k) (a : Int)).getD (d.blocks.getD a [])
 | 0, _ => by simp [Dk.keepTo, Qj]
 | k + 1, hk => by
  have ih := keepTo_last d hl a ha k (by omega);show ((d.keepTo (fun _ => true) k).set _ _).getD a [] = _;rw [Qu _ _ _ _ _ (by rw [Dk.keepTo_length]; exact ha), Q1 d.late k _ (by omega), Zcg _ _ _ (by omega)];have h0 := hl d.late[k] (List.getElem_mem _);by_cases h : d.late[k].1 = (a : Int)
  ·rw [if_pos (by omega), if_pos h]; rfl
  ·rw [if_neg (by omega), if_neg h]; exact ih
theorem Dk.flush_length (d : Dk) : d.flush.blocks.length = d.blocks.length := d.keepTo_length _ _
theorem Dk.flush_get (d : Dk) (hl : ∀ x ∈ d.late, 0 ≤ x.1) (a : Int) : d.flush.get a = d.get a := by
 unfold Dk.get;rw [Dk.flush_length];by_cases h : a < 0 ∨ (d.blocks.length : Int) ≤ a
 ·rw [if_pos h, if_pos h]
 ·rw [if_neg h, if_neg h];have hk := d.keepTo_last hl a.toNat (by omega) d.late.length (Nat.le_refl _);rw [List.take_length, show ((a.toNat : Nat) : Int) = a from by omega] at hk;show some ((Qj [] a).getD ((d.keepTo (fun _ => true) d.late.length).getD a.toNat [])) = _;rw [hk]; rfl
theorem Dk.put_get (d : Dk) (a : Int) (b : List UInt8) (h0 : 0 ≤ a) (h1 : a < (d.blocks.length : Int)) : (d.put a b).get a = some b := by
 unfold Dk.get Dk.put;rw [if_neg (by show ¬ _; simp only; omega)];simp only [Zch, if_pos]; rfl
theorem Dk.put_other (d : Dk) (a o : Int) (b : List UInt8) (h : o ≠ a) : (d.put a b).get o = d.get o := by
 unfold Dk.get Dk.put;simp only [Zch, if_neg (fun h' : a = o => h h'.symm)]
end Go.Proofs.YtpdnapbchcdhlacGreat
namespace Go.Proofs.YtpdnapbchcdhlacGreat
set_option maxRecDepth 100000
open Go.RowKit
open Plain Reg
variable {B base g n : Nat} {S0 : Nat → Prop} {T e : TypeId} {bs : List (List UInt8)} {l : List UInt8} {lv v : Value} {us : List Value} {w w' : World}
theorem Z1.keep {S : Nat → Prop} (h : Z1 S w v l) (hk : ∀ b, S b → w'.heap[b]? = w.heap[b]?) : Z1 S w' v l := by
 rcases h with h | ⟨b, off, cap, hS, rfl, h1, hc⟩
 ·exact .inl h
 ·refine .inr ⟨b, off, cap, hS, rfl, h1, fun i hi => ?_⟩;rw [← hc i hi];simp only [World.cell?, hk b hS]
def InS (S0 : Nat → Prop) (B : Nat) (w : World) (b : Nat) : Prop := S0 b ∨ (B ≤ b ∧ ∃ c f, w.heap[b]? = some (.cells c 5 f))
theorem InS.grow (hg : Zl w w') (b : Nat) (h : InS S0 B w b) : InS S0 B w' b :=
 Xk h (fun x => x) fun ⟨h1, c, f, h2⟩ => ⟨h1, c, f, (hg.block _ (Za h2)).trans h2⟩
theorem InS.upon (b : Nat) (h : InS S0 B w b) : Z2 S0 B b := Xk h (fun x => x) fun h => h.1
theorem Zfh (S0 : Nat → Prop) (hb : B ≤ base) (h : w.ownsRow base 5 1 v l.length (l.map bv)) : Z1 (InS S0 B w) w v l := by
 rcases h.2 with ⟨rfl, h0⟩ | ⟨q, cap, cur, rfl, hq, hh, h1, h2, h3, h4⟩
 ·exact .inl ⟨none, 0, rfl, List.eq_nil_of_length_eq_zero h0, fun _ => rfl⟩
 ·refine .inr ⟨q, 0, cap, .inr ⟨by omega, _, _, hh⟩, rfl, h1, fun i hi => ?_⟩;have := h.cellAt i (by omega);rw [Nat.zero_add, this];simp [hi, bv]
def Ziv (S0 : Nat → Prop) (B g : Nat) (lv : Value) (bs : List (List UInt8)) (w : World) : Prop :=
 ∃ v us, w.heap[g]? = some (.cells #[v, lv] 26 (0, 0)) ∧ us.length = bs.length ∧ (∀ i (hi : i < bs.length), ∃ u, us[i]? = some u ∧ Z1 (InS S0 B w) w u bs[i]) ∧ w.ownsRow B 45 1 v bs.length us
theorem Ziv.grow (h : Ziv S0 B g lv bs w) (hg : Zl w w') : Ziv S0 B g lv bs w' := by
 obtain ⟨v, us, h3, h4, h5, h6⟩ := h;exact ⟨v, us, (hg.block _ (Za h3)).trans h3, h4, fun i hi => (h5 i hi).imp fun u hu => ⟨hu.1, (hu.2.grow hg).mono (InS.grow hg)⟩, Z7 h6 hg⟩
theorem Zl0 (h5 : ∀ i (hi : i < bs.length), ∃ u, us[i]? = some u ∧ Z1 (InS S0 B w) w u bs[i]) (h6 : w.ownsRow B 45 1 v bs.length us) : Y5 (Z2 S0 B) w v bs := by
 rcases h6.2 with ⟨rfl, h0⟩ | ⟨q, cap, cur, rfl, hb, hh, k1, k2, k3, k4⟩
 ·exact .inl ⟨none, 0, rfl, List.eq_nil_of_length_eq_zero h0, fun _ => rfl⟩
 ·refine .inr ⟨q, 0, cap, .inr hb, rfl, k1, fun i hi => ?_⟩;have c0 := h6.cellAt i (by omega);obtain ⟨u, hu1, hu2⟩ := h5 i hi;rw [hu1] at c0;exact ⟨u, by rw [Nat.zero_add]; exact c0, hu2.mono InS.upon⟩
theorem Ziv.blocks (h : Ziv S0 B g lv bs w) : ∃ v, w.heap[g]? = some (.cells #[v, lv] 26 (0, 0)) ∧ Y5 (Z2 S0 B) w v bs := by
 obtain ⟨v, us, h3, h4, h5, h6⟩ := h;exact ⟨v, h3, Zl0 h5 h6⟩
theorem Zcj : (Tryz.prog.info? 45).map (fun i => (i.zero, i.size, i.bytes)) = some (some (.slice none 0 0), 1, 24) := by kernel_rfl
theorem Zsj {b : Nat} {c f} (h : w.ownsRow B e 1 v n us) (hne : e ≠ T) (hb : w.heap[b]? = some (.cells c T f)) : some b ≠ v.ownBlock := by
 rcases h.2 with ⟨rfl, _⟩ | ⟨q, cap, cur, rfl, _, hq, _⟩
 ·simp [Value.ownBlock]
 ·intro e1;simp [Value.ownBlock] at e1;subst e1;rw [hb] at hq; cases hq; exact hne rfl
theorem Zdp {i : Nat} {c f} {x : Value} {xs : List Value} (h : w.ownsRow base e 1 v n xs) (hg : w.heap[g]? = some (.cells c T f)) (hT : e ≠ T) : (w.setCell ⟨g, i, none⟩ x).ownsRow base e 1 v n xs := by
 refine ⟨h.1, Xk h.2 (fun x => x) fun ⟨q, cap, cur, h1, h2, h3, r⟩ => ⟨q, cap, cur, h1, h2, ?_, r⟩⟩;rw [Below.heap_setCell _ _ _ _ (by rintro rfl; rw [hg] at h3; cases h3; exact hT rfl)];exact h3
end Go.Proofs.YtpdnapbchcdhlacGreat
