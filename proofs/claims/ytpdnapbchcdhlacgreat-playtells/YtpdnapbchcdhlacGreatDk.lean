import Derived.Test.YtpdnapbchcdhlacGreatBRead
set_option maxHeartbeats 8000000
namespace Go.Proofs.YtpdnapbchcdhlacGreat
set_option maxRecDepth 100000
open Go.RowKit
open Plain Reg
variable {B cap g n : Nat} {S S' : Nat → Prop} {ao : Option Addr} {bs : List (List UInt8)} {l : List UInt8} {v : Value} {w w' : World}
abbrev Wr := Int × List UInt8
structure Dk where
 blocks : List (List UInt8)
 late : List Wr
def Dk.same (a b : Dk) : Bool := a.blocks == b.blocks && a.late == b.late
theorem Dk.same_iff (a b : Dk) : a.same b = true ↔ a = b := by
 obtain ⟨a1, a2⟩ := a;obtain ⟨b1, b2⟩ := b;simp [Dk.same]
def Xo (w : World) (v : Value) (bs : List (List UInt8)) : Prop :=
 (∃ ao cap, v = .slice ao 0 cap ∧ bs = [] ∧ (ao = none → cap = 0)) ∨
 (∃ b off cap, v = .slice (some ⟨b, off, none⟩) bs.length cap ∧ bs.length ≤ cap ∧ ∀ (i : Nat) (h : i < bs.length), ∃ u, w.cell? ⟨b, off + i, none⟩ = some u ∧ Bytes w u bs[i])
def Vm (w : World) (v : Value) (ws : List Wr) : Prop :=
 (∃ ao cap, v = .slice ao 0 cap ∧ ws = [] ∧ (ao = none → cap = 0)) ∨
 (∃ b off cap, v = .slice (some ⟨b, off, none⟩) ws.length cap ∧ ws.length ≤ cap ∧ ∀ (i : Nat) (h : i < ws.length), w.cell? ⟨b, off + i * 2, none⟩ = some (.int .i64 ws[i].1) ∧ ∃ u, w.cell? ⟨b, off + i * 2 + 1, none⟩ = some u ∧ Bytes w u ws[i].2)
theorem Xo.grow (h : Xo w v bs) (hg : Zp w w') : Xo w' v bs := by
 rcases h with h | ⟨b, off, cap, rfl, h1, hc⟩
 ·exact .inl h
 ·refine .inr ⟨b, off, cap, rfl, h1, fun i hi => ?_⟩;obtain ⟨u, h2, h3⟩ := hc i hi;exact ⟨u, (Below.cell hg (Zu h2)).trans h2, Z0 h3 hg⟩
theorem Vm.grow {ws : List Wr} (h : Vm w v ws) (hg : Zp w w') : Vm w' v ws := by
 rcases h with h | ⟨b, off, cap, rfl, h1, hc⟩
 ·exact .inl h
 ·refine .inr ⟨b, off, cap, rfl, h1, fun i hi => ?_⟩;obtain ⟨h0, u, h2, h3⟩ := hc i hi;exact ⟨(Below.cell hg (Zu h0)).trans h0, u, (Below.cell hg (Zu h2)).trans h2, Z0 h3 hg⟩
theorem Xo.form (h : Xo w v bs) : ∃ ao cap, v = .slice ao bs.length cap := by
 rcases h with ⟨ao, cap, rfl, rfl, _⟩ | ⟨b, off, cap, rfl, _⟩
 ·exact ⟨ao, cap, rfl⟩
 ·exact ⟨_, cap, rfl⟩
theorem Vm.form {ws : List Wr} (h : Vm w v ws) : ∃ ao cap, v = .slice ao ws.length cap := by
 rcases h with ⟨ao, cap, rfl, rfl, _⟩ | ⟨b, off, cap, rfl, _⟩
 ·exact ⟨ao, cap, rfl⟩
 ·exact ⟨_, cap, rfl⟩
theorem Xo.at (h : Xo w (.slice ao n cap) bs) (i : Nat) (hi : i < bs.length) :
  ∃ b off, ao = some ⟨b, off, none⟩ ∧ ∃ u, w.cell? ⟨b, off + i, none⟩ = some u ∧ Bytes w u bs[i] := by
 rcases h with ⟨_, _, _, rfl, _⟩ | ⟨b, off, cp, h2, h3, h4⟩
 ·simp at hi
 ·cases h2;exact ⟨b, off, rfl, h4 i hi⟩
theorem Vm.at {ws : List Wr} (h : Vm w (.slice ao n cap) ws) (i : Nat) (hi : i < ws.length) :
  ∃ b off, ao = some ⟨b, off, none⟩ ∧ w.cell? ⟨b, off + i * 2, none⟩ = some (.int .i64 ws[i].1) ∧ ∃ u, w.cell? ⟨b, off + i * 2 + 1, none⟩ = some u ∧ Bytes w u ws[i].2 := by
 rcases h with ⟨_, _, _, rfl, _⟩ | ⟨b, off, cp, h2, h3, h4⟩
 ·simp at hi
 ·cases h2;exact ⟨b, off, rfl, h4 i hi⟩
def Z3 (S : Nat → Prop) (w : World) (v : Value) (l : List UInt8) : Prop :=
 (∃ ao cap, v = .slice ao 0 cap ∧ l = [] ∧ (ao = none → cap = 0)) ∨
 (∃ b off cap, S b ∧ v = .slice (some ⟨b, off, none⟩) l.length cap ∧ l.length ≤ cap ∧ ∀ (i : Nat) (h : i < l.length), w.cell? ⟨b, off + i, none⟩ = some (.int .u8 (l[i].toNat : Int)))
def Y2 (S : Nat → Prop) (w : World) (v : Value) (bs : List (List UInt8)) : Prop :=
 (∃ ao cap, v = .slice ao 0 cap ∧ bs = [] ∧ (ao = none → cap = 0)) ∨
 (∃ b off cap, S b ∧ v = .slice (some ⟨b, off, none⟩) bs.length cap ∧ bs.length ≤ cap ∧ ∀ (i : Nat) (h : i < bs.length), ∃ u, w.cell? ⟨b, off + i, none⟩ = some u ∧ Z3 S w u bs[i])
def Xm (S : Nat → Prop) (w : World) (v : Value) (ws : List Wr) : Prop :=
 (∃ ao cap, v = .slice ao 0 cap ∧ ws = [] ∧ (ao = none → cap = 0)) ∨
 (∃ b off cap, S b ∧ v = .slice (some ⟨b, off, none⟩) ws.length cap ∧ ws.length ≤ cap ∧ ∀ (i : Nat) (h : i < ws.length), w.cell? ⟨b, off + i * 2, none⟩ = some (.int .i64 ws[i].1) ∧ ∃ u, w.cell? ⟨b, off + i * 2 + 1, none⟩ = some u ∧ Z3 S w u ws[i].2)
def Zw (S : Nat → Prop) (B : Nat) : Nat → Prop := fun b => S b ∨ B ≤ b
theorem V3 : ∀ b, S b → Zw S B b := fun _ h => .inl h
theorem Zz {B' : Nat} (h : B ≤ B') : ∀ b, Zw S B' b → Zw S B b := fun _ hb => Xp hb (fun x => x) (fun x => Nat.le_trans h x)
theorem Z3.p (h : Z3 S w v l) : Bytes w v l := by
 rcases h with h | ⟨b, off, cap, _, h⟩
 ·exact .inl h
 ·exact .inr ⟨b, off, cap, h⟩
theorem Zdv (h : Bytes w v l) : Z3 (fun b => b < w.heap.size) w v l := by
 by_cases h0 : l = []
 ·subst h0;rcases h with h | ⟨b, off, cap, rfl, h1, hc⟩
  ·exact .inl h
  ·exact .inl ⟨_, cap, rfl, rfl, fun h => by cases h⟩
 ·rcases h with ⟨_, _, _, h1, _⟩ | ⟨b, off, cap, h2, h1, hc⟩
  ·exact absurd h1 h0
  ·exact .inr ⟨b, off, cap, Zu (hc 0 (List.length_pos_iff.2 h0)), h2, h1, hc⟩
theorem Zcr {base : Nat} (S : Nat → Prop) (h : w.ownsRow base 5 1 v l.length (l.map bv)) : Z3 (Zw S base) w v l := by
 rcases h.2 with ⟨rfl, h0⟩ | ⟨g, cap, cur, rfl, hb, hh, h1, h2, h3, h4⟩
 ·exact .inl ⟨none, 0, rfl, List.eq_nil_of_length_eq_zero h0, fun _ => rfl⟩
 ·refine .inr ⟨g, 0, cap, .inr hb, rfl, h1, fun i hi => ?_⟩;have := h.cellAt i (by omega);rw [Nat.zero_add, this];simp [hi, bv]
theorem Z3.mono (h : Z3 S w v l) (hS : ∀ b, S b → S' b) : Z3 S' w v l := by
 rcases h with h | ⟨b, off, cap, hb, h⟩
 ·exact .inl h
 ·exact .inr ⟨b, off, cap, hS b hb, h⟩
theorem Z3.but (h : Z3 S w v l) (hg : Zq g w w') (hn : ¬ S g) : Z3 S w' v l := by
 rcases h with h | ⟨b, off, cap, hb, h1, h2, hc⟩
 ·exact .inl h
 ·refine .inr ⟨b, off, cap, hb, h1, h2, fun i hi => ?_⟩;have h3 := hc i hi;exact (hg.cell (Zu h3) (fun e => hn (by rw [← e]; exact hb))).trans h3
theorem Z3.grow (h : Z3 S w v l) (hg : Zp w w') : Z3 S w' v l := by
 rcases h with h | ⟨b, off, cap, hb, h1, h2, hc⟩
 ·exact .inl h
 ·exact .inr ⟨b, off, cap, hb, h1, h2, fun i hi => (Below.cell hg (Zu (hc i hi))).trans (hc i hi)⟩
theorem Y2.p (h : Y2 S w v bs) : Xo w v bs := by
 rcases h with h | ⟨b, off, cap, _, h1, h2, h⟩
 ·exact .inl h
 ·refine .inr ⟨b, off, cap, h1, h2, fun i hi => ?_⟩;obtain ⟨u, h3, h4⟩ := h i hi;exact ⟨u, h3, h4.p⟩
theorem Xo.s (h : Xo w v bs) : Y2 (fun b => b < w.heap.size) w v bs := by
 by_cases h0 : bs = []
 ·subst h0;rcases h with h | ⟨b, off, cap, rfl, h1, hc⟩
  ·exact .inl h
  ·exact .inl ⟨_, cap, rfl, rfl, fun h => by cases h⟩
 ·rcases h with ⟨_, _, _, h1, _⟩ | ⟨b, off, cap, h2, h1, hc⟩
  ·exact absurd h1 h0
  ·refine .inr ⟨b, off, cap, ?_, h2, h1, fun i hi => ?_⟩
   ·obtain ⟨u, h3, _⟩ := hc 0 (List.length_pos_iff.2 h0);exact Zu h3
   ·obtain ⟨u, h3, h4⟩ := hc i hi;exact ⟨u, h3, Zdv h4⟩
theorem Y2.mono (h : Y2 S w v bs) (hS : ∀ b, S b → S' b) : Y2 S' w v bs := by
 rcases h with h | ⟨b, off, cap, hb, h1, h2, h⟩
 ·exact .inl h
 ·refine .inr ⟨b, off, cap, hS b hb, h1, h2, fun i hi => ?_⟩;obtain ⟨u, h3, h4⟩ := h i hi;exact ⟨u, h3, h4.mono hS⟩
theorem Y2.but (h : Y2 S w v bs) (hg : Zq g w w') (hn : ¬ S g) : Y2 S w' v bs := by
 rcases h with h | ⟨b, off, cap, hb, h1, h2, hc⟩
 ·exact .inl h
 ·refine .inr ⟨b, off, cap, hb, h1, h2, fun i hi => ?_⟩;obtain ⟨u, h3, h4⟩ := hc i hi;exact ⟨u, (hg.cell (Zu h3) (fun e => hn (by rw [← e]; exact hb))).trans h3, h4.but hg hn⟩
theorem Y2.grow (h : Y2 S w v bs) (hg : Zp w w') : Y2 S w' v bs := by
 rcases h with h | ⟨b, off, cap, hb, h1, h2, hc⟩
 ·exact .inl h
 ·refine .inr ⟨b, off, cap, hb, h1, h2, fun i hi => ?_⟩;obtain ⟨u, h3, h4⟩ := hc i hi;exact ⟨u, (Below.cell hg (Zu h3)).trans h3, h4.grow hg⟩
theorem Y2.at (h : Y2 S w (.slice ao n cap) bs) (i : Nat) (hi : i < bs.length) :
  ∃ b off, ao = some ⟨b, off, none⟩ ∧ ∃ u, w.cell? ⟨b, off + i, none⟩ = some u ∧ Z3 S w u bs[i] := by
 rcases h with ⟨_, _, _, rfl, _⟩ | ⟨b, off, cp, _, h2, h3, h4⟩
 ·simp at hi
 ·cases h2;exact ⟨b, off, rfl, h4 i hi⟩
theorem Xm.p {ws : List Wr} (h : Xm S w v ws) : Vm w v ws := by
 rcases h with h | ⟨b, off, cap, _, h1, h2, h⟩
 ·exact .inl h
 ·refine .inr ⟨b, off, cap, h1, h2, fun i hi => ?_⟩;obtain ⟨h0, u, h3, h4⟩ := h i hi;exact ⟨h0, u, h3, h4.p⟩
theorem Vm.s {ws : List Wr} (h : Vm w v ws) : Xm (fun b => b < w.heap.size) w v ws := by
 by_cases h0 : ws = []
 ·subst h0;rcases h with h | ⟨b, off, cap, rfl, h1, hc⟩
  ·exact .inl h
  ·exact .inl ⟨_, cap, rfl, rfl, fun h => by cases h⟩
 ·rcases h with ⟨_, _, _, h1, _⟩ | ⟨b, off, cap, h2, h1, hc⟩
  ·exact absurd h1 h0
  ·refine .inr ⟨b, off, cap, Zu (hc 0 (List.length_pos_iff.2 h0)).1, h2, h1, fun i hi => ?_⟩;obtain ⟨hq, u, h3, h4⟩ := hc i hi;exact ⟨hq, u, h3, Zdv h4⟩
theorem Xm.mono {ws : List Wr} (h : Xm S w v ws) (hS : ∀ b, S b → S' b) : Xm S' w v ws := by
 rcases h with h | ⟨b, off, cap, hb, h1, h2, h⟩
 ·exact .inl h
 ·refine .inr ⟨b, off, cap, hS b hb, h1, h2, fun i hi => ?_⟩;obtain ⟨h0, u, h3, h4⟩ := h i hi;exact ⟨h0, u, h3, h4.mono hS⟩
theorem Xm.but {ws : List Wr} (h : Xm S w v ws) (hg : Zq g w w') (hn : ¬ S g) : Xm S w' v ws := by
 rcases h with h | ⟨b, off, cap, hb, h1, h2, hc⟩
 ·exact .inl h
 ·refine .inr ⟨b, off, cap, hb, h1, h2, fun i hi => ?_⟩;obtain ⟨h0, u, h3, h4⟩ := hc i hi;exact ⟨(hg.cell (Zu h0) (fun e => hn (by rw [← e]; exact hb))).trans h0, u, (hg.cell (Zu h3) (fun e => hn (by rw [← e]; exact hb))).trans h3, h4.but hg hn⟩
theorem Xm.grow {ws : List Wr} (h : Xm S w v ws) (hg : Zp w w') : Xm S w' v ws := by
 rcases h with h | ⟨b, off, cap, hb, h1, h2, hc⟩
 ·exact .inl h
 ·refine .inr ⟨b, off, cap, hb, h1, h2, fun i hi => ?_⟩;obtain ⟨h0, u, h3, h4⟩ := hc i hi;exact ⟨(Below.cell hg (Zu h0)).trans h0, u, (Below.cell hg (Zu h3)).trans h3, h4.grow hg⟩
theorem Xm.at {ws : List Wr} (h : Xm S w (.slice ao n cap) ws) (i : Nat) (hi : i < ws.length) :
  ∃ b off, ao = some ⟨b, off, none⟩ ∧ w.cell? ⟨b, off + i * 2, none⟩ = some (.int .i64 ws[i].1) ∧ ∃ u, w.cell? ⟨b, off + i * 2 + 1, none⟩ = some u ∧ Z3 S w u ws[i].2 := by
 rcases h with ⟨_, _, _, rfl, _⟩ | ⟨b, off, cp, _, h2, h3, h4⟩
 ·simp at hi
 ·cases h2;exact ⟨b, off, rfl, h4 i hi⟩
theorem Zh2 (S : Nat → Prop) (l : List UInt8) : Xw (fun v w => Z3 S w v l) := fun _ _ _ hg h => Z3.grow h hg
variable {α : Type}
theorem Zdd (a b : List α) (k : Nat) (ha : k < a.length) (hb : k < b.length) (h : a.take k = b.take k) (he : a[k] = b[k]) : a.take (k + 1) = b.take (k + 1) := by
 rw [List.take_succ_eq_append_getElem ha, List.take_succ_eq_append_getElem hb, h, he]
theorem Zlg (a b : List α) (k : Nat) (ha : k < a.length) (hb : k < b.length) (he : a[k] ≠ b[k]) : a ≠ b := by
 rintro rfl; exact he rfl
theorem Ziv [BEq α] [LawfulBEq α] {a b : α} (h : a = b) : (a == b) = true := by simp [h]
theorem Qh [BEq α] [LawfulBEq α] {a b : α} (h : a ≠ b) : (a == b) = false := by simpa using h
theorem Zf5 (s t : List (List UInt8)) (va vb : Value) (w : World) (ha : Xo w va s) (hb : Xo w vb t) (hm : s.length ≤ 140737488355328) :
  Calls Tryz.prog 77 #[va, vb] w fun e w' => e = .returned (.bool (s == t)) ∧ Zp w w' := by
 obtain ⟨aa, ca, rfl⟩ := ha.form;obtain ⟨ab, cb, rfl⟩ := hb.form;by_cases hlen : s.length = t.length
 ·have d1 : ((s.length : Int) != (t.length : Int)) = false := by simp [hlen]
  have HL : Hid (s.length = t.length) := hlen;clear hlen;go_enter Tryz.func77, Tryz.ntmps77;go_wp2_with fail;go_loopw [13] (fun i wr => ∃ k : Nat, k ≤ s.length ∧ i = .int .i64 k ∧ Zp w wr ∧ s.take k = t.take k) (fun i _ => s.length - (intOf i).toNat)
  case atStart => exact ⟨0, Nat.zero_le _, rfl, Zp.refl _, rfl⟩
  case round =>
   obtain ⟨k, hk, rfl, gr, htk⟩ := hrel;have HT : Hid (s.take k = t.take k) := htk;clear htk;by_cases hlt : k < s.length
   ·have hlb : k < t.length := by have := HL.out; omega
    obtain ⟨b1, o1, rfl, u1, hu1, hB1⟩ := (ha.grow gr).at k hlt;obtain ⟨b2, o2, rfl, u2, hu2, hB2⟩ := (hb.grow gr).at k hlb;obtain ⟨a1, c1, rfl, -, -⟩ := Yk hB1;obtain ⟨a2, c2, rfl, -, -⟩ := Yk hB2;have HX : Hid (s[k] = t[k] → s.take (k + 1) = t.take (k + 1)) := Zdd s t k hlt hlb HT.out;have HY : Hid (s[k] ≠ t[k] → (s == t) = false) := fun h => Qh (Zlg s t k hlt hlb h)
    generalize s[k] = x at *;generalize t[k] = z at *;go_wp2_with fail;rename_i wr _;refine Ya [ex (.slice (some ⟨b1, o1, none⟩) s.length ca), ex (.int .i64 k), ex (.pointer (some ⟨b1, o1 + k, none⟩)), ex (.slice a1 x.length c1), ex (str x), ex (.slice (some ⟨b2, o2, none⟩) t.length cb), ex (.int .i64 k), ex (.pointer (some ⟨b2, o2 + k, none⟩)), ex (.slice a2 z.length c2), ex (str z), ex (.bool (x != z))] (by kernel_rfl) (by kernel_rfl) ⟨Zh _, Zh _, Zh _, Zh _, Zh _, Zh _, Zh _, Zh _, Zh _, Zh _, Zh _, trivial⟩ ?_ ?_
    ·refine ⟨?_, ?_, ?_, ?_, ?_, ?_, ?_, ?_, ?_, ?_, ?_, trivial⟩
     ·exact Zb rfl fun a _ _ _ _ A => Zs rfl (Zv A 0 rfl)
     ·exact Zb rfl fun a _ _ _ _ A => Zs rfl (Zv A 5 rfl)
     ·refine Zb rfl fun a _ _ _ B A => ?_;have e16 : a (.tmp 16) = _ := Zf A 0 rfl;have e17 : a (.tmp 17) = _ := Zf A 1 rfl;refine Zi ?_ rfl;clear A B;go_simp;all_goals go_arith
     ·refine Zb rfl fun a _ _ _ B A => ?_;have e18 : a (.tmp 18) = _ := Zf A 2 rfl;have h1 := (Below.cell B (Zu hu1)).trans hu1;refine Zi ?_ rfl;clear A B;go_simp;all_goals go_arith
     ·refine Zb rfl fun a B _ _ C A => ?_;have e19 : a (.tmp 19) = _ := Zf A 3 rfl;refine Zi ?_ rfl;have hrun := Kp B _ _ (Z0 hB1 C);clear A C;go_simp;all_goals go_arith
     ·exact Zb rfl fun a _ _ _ _ A => Zs rfl (Zv A 1 rfl)
     ·exact Zb rfl fun a _ _ _ _ A => Zs rfl (Zv A 5 rfl)
     ·refine Zb rfl fun a _ _ _ B A => ?_;have e21 : a (.tmp 21) = _ := Zf A 5 rfl;have e22 : a (.tmp 22) = _ := Zf A 6 rfl;refine Zi ?_ rfl;clear A B;go_simp;all_goals go_arith
     ·refine Zb rfl fun a _ _ _ B A => ?_;have e23 : a (.tmp 23) = _ := Zf A 7 rfl;have h1 := (Below.cell B (Zu hu2)).trans hu2;refine Zi ?_ rfl;clear A B;go_simp;all_goals go_arith
     ·refine Zb rfl fun a B _ _ C A => ?_;have e24 : a (.tmp 24) = _ := Zf A 8 rfl;refine Zi ?_ rfl;have hrun := Kp B _ _ (Z0 hB2 C);clear A C;go_simp;all_goals go_arith
     ·refine Zb rfl fun a _ _ _ B A => ?_;have e20 : a (.tmp 20) = _ := Zf A 4 rfl;have e25 : a (.tmp 25) = _ := Zf A 9 rfl;refine Zi ?_ rfl;unfold str at e20 e25;clear A B;go_simp;simp only [bne, Bool.not_not]
    ·intro vs w' hg ht;obtain ⟨(r16 : vs 0 = _), (r17 : vs 1 = _), (r18 : vs 2 = _), (r19 : vs 3 = _), (r20 : vs 4 = _), (r21 : vs 5 = _), (r22 : vs 6 = _), (r23 : vs 7 = _), (r24 : vs 8 = _), (r25 : vs 9 = _), (r26 : vs 10 = _), -⟩ := ht;simp only [Yf, Act.put, List.setIfInBounds_toArray, List.set_cons_zero, List.set_cons_succ, r16, r17, r18, r19, r20, r21, r22, r23, r24, r25, r26];clear r16 r17 r18 r19 r20 r21 r22 r23 r24 r25 r26;have g2 := gr.trans hg;by_cases hxz : x = z
     ·have d2 : (x != z) = false := by simp [hxz]
      have HN := HX.out hxz;clear hxz;rw [d2];have HN' : Hid _ := HN;clear HN d2;go_wp2_with fail;go_roundw
      case rel => exact ⟨k + 1, by omega, by go_num, g2, HN'.out⟩
      case measure => simp [intOf]; omega
     ·have d2 : (x != z) = true := by simp [hxz]
      have HN : Hid _ := HY.out hxz;clear hxz;rw [d2];clear d2;go_wp2_with fail;go_ret;exact ⟨Vw HN.out.symm, g2⟩
   ·have HN : Hid ((s == t) = true) := by
     have h := HT.out;rw [List.take_of_length_le (by omega), List.take_of_length_le (by have := HL.out; omega)] at h;exact Ziv h
    go_wp2_with fail;go_ret;exact ⟨Vw HN.out.symm, gr⟩
 ·have d1 : ((s.length : Int) != (t.length : Int)) = true := by simp; omega
  have HN : Hid ((s == t) = false) := Qh (fun e => hlen (by rw [e]));clear hlen;go_enter Tryz.func77, Tryz.ntmps77;go_wp2_with fail;go_ret;exact ⟨Vw HN.out.symm, Zp.refl _⟩
theorem Zwr (s t : List Wr) (k : Nat) (hs : k < s.length) (ht : k < t.length) (h : s[k].1 ≠ t[k].1 ∨ s[k].2 ≠ t[k].2) : (s == t) = false := by
 refine Qh (Zlg s t k hs ht (fun e => ?_));rcases h with h | h
 ·exact h (by rw [e])
 ·exact h (by rw [e])
theorem Zi8 (s t : Dk) (vb vl ub ul : Value) (w : World) (hb : Xo w vb s.blocks) (hl : Vm w vl s.late) (hb' : Xo w ub t.blocks) (hl' : Vm w ul t.late) (hm : s.blocks.length ≤ 140737488355328) (hm2 : s.late.length ≤ 140737488355328) :
  Calls Tryz.prog 43 #[.agg #[vb, vl], .agg #[ub, ul]] w fun e w' => e = .returned (.bool (s.same t)) ∧ Zp w w' := by
 obtain ⟨ab, cb, rfl⟩ := hb.form;obtain ⟨al, cl, rfl⟩ := hl.form;obtain ⟨ab', cb', rfl⟩ := hb'.form;obtain ⟨al', cl', rfl⟩ := hl'.form;have gW := Zr w (.cells #[.slice ab s.blocks.length cb, .slice al s.late.length cl] 26) (.cells #[.slice ab' t.blocks.length cb', .slice al' t.late.length cl'] 26);have hx : ((w.alloc (.cells #[.slice ab s.blocks.length cb, .slice al s.late.length cl] 26)).alloc (.cells #[.slice ab' t.blocks.length cb', .slice al' t.late.length cl'] 26)).heap[w.heap.size]? = some (.cells #[.slice ab s.blocks.length cb, .slice al s.late.length cl] 26 (0, 0)) :=
  ((Zc (w.alloc (.cells #[.slice ab s.blocks.length cb, .slice al s.late.length cl] 26)) _).block _ (by simp)).trans (Zj _ _ _)
 have hy : ((w.alloc (.cells #[.slice ab s.blocks.length cb, .slice al s.late.length cl] 26)).alloc (.cells #[.slice ab' t.blocks.length cb', .slice al' t.late.length cl'] 26)).heap[w.heap.size + 1]? = some (.cells #[.slice ab' t.blocks.length cb', .slice al' t.late.length cl'] 26 (0, 0)) := by
  have h := Zj (w.alloc (.cells #[.slice ab s.blocks.length cb, .slice al s.late.length cl] 26)) #[.slice ab' t.blocks.length cb', .slice al' t.late.length cl'] 26;rw [World.size_alloc] at h;exact h
 have hbW := hb.grow gW;have hbW' := hb'.grow gW;go_enter Tryz.func43, Tryz.ntmps43;go_wp2_with fail;generalize World.alloc (World.alloc w _) _ = W at hx hy gW hbW hbW' ⊢;refine (Zf5 s.blocks t.blocks _ _ _ hbW hbW' hm).mono ?_;cases hbe : (s.blocks == t.blocks) with
 | false =>
  have HN : Hid (s.same t = false) := by show s.same t = false; unfold Dk.same; rw [hbe]; rfl
  clear hbe;rintro e w1 ⟨rfl, g1⟩;go_wp2_with fail;go_ret;exact ⟨Vw HN.out.symm, gW.trans g1⟩
 | true =>
  have HS : Hid (s.same t = (s.late == t.late)) := by show s.same t = _; unfold Dk.same; rw [hbe]; rfl
  clear hbe;rintro e w1 ⟨rfl, g1⟩;have hx1 := (g1.block _ (Za hx)).trans hx;have hy1 := (g1.block _ (Za hy)).trans hy;have gw1 := gW.trans g1;obtain ⟨x0, x1⟩ := Xb hx1 rfl rfl;obtain ⟨y0, y1⟩ := Xb hy1 rfl rfl;clear hx hy g1 hbW hbW' gW;by_cases hlen : s.late.length = t.late.length
  ·have d1 : ((s.late.length : Int) != (t.late.length : Int)) = false := by simp [hlen]
   have HL : Hid (s.late.length = t.late.length) := hlen;clear hlen;go_wp2_with fail;go_loopw [24] (fun i wr => ∃ k : Nat, k ≤ s.late.length ∧ i = .int .i64 k ∧ Zp w1 wr ∧ s.late.take k = t.late.take k) (fun i _ => s.late.length - (intOf i).toNat)
   case atStart => exact ⟨0, Nat.zero_le _, rfl, Zp.refl _, rfl⟩
   case round =>
    obtain ⟨k, hk, rfl, gr, htk⟩ := hrel;have HT : Hid (s.late.take k = t.late.take k) := htk;clear htk;by_cases hlt : k < s.late.length
    ·have hlb : k < t.late.length := by have := HL.out; omega
     have gwr := gw1.trans gr;obtain ⟨b1, o1, rfl, hp1, u1, hu1, hB1⟩ := (hl.grow gwr).at k hlt;obtain ⟨b2, o2, rfl, hp2, u2, hu2, hB2⟩ := (hl'.grow gwr).at k hlb;obtain ⟨a1, c1, rfl, -, -⟩ := Yk hB1;obtain ⟨a2, c2, rfl, -, -⟩ := Yk hB2;have HX : Hid (s.late[k].1 = t.late[k].1 → s.late[k].2 = t.late[k].2 → s.late.take (k + 1) = t.late.take (k + 1)) := fun h1 h2 => Zdd _ _ k hlt hlb HT.out (Prod.ext h1 h2)
     have HY : Hid (s.late[k].1 ≠ t.late[k].1 ∨ s.late[k].2 ≠ t.late[k].2 → (s.late == t.late) = false) := Zwr _ _ k hlt hlb;have x1' := (Below.cell gr (Zu x1)).trans x1;have y1' := (Below.cell gr (Zu y1)).trans y1;clear x1 y1 x0 y0 hx1 hy1;have x1 := x1';have y1 := y1';clear x1' y1';generalize s.late[k].1 = p at *;generalize t.late[k].1 = q at *;generalize s.late[k].2 = x at *;generalize t.late[k].2 = z at *;go_wp2_with fail;rename_i wr _;by_cases hpq : p = q
     ·have d2 : (p != q) = false := by simp [hpq]
      have HPQ : Hid (p = q) := hpq;clear hpq;refine Ya [ex (.pointer (some ⟨w.heap.size, 1, none⟩)), ex (.slice (some ⟨b1, o1, none⟩) s.late.length cl), ex (.int .i64 k), ex (.pointer (some ⟨b1, o1 + k * 2, none⟩)), ex (.pointer (some ⟨b1, o1 + k * 2, none⟩)), ex (.int .i64 p), ex (.pointer (some ⟨w.heap.size + 1, 1, none⟩)), ex (.slice (some ⟨b2, o2, none⟩) t.late.length cl'), ex (.int .i64 k), ex (.pointer (some ⟨b2, o2 + k * 2, none⟩)), ex (.pointer (some ⟨b2, o2 + k * 2, none⟩)), ex (.int .i64 q), ex (.bool false), ex (.bool false), ex (.pointer (some ⟨w.heap.size, 1, none⟩)), ex (.slice (some ⟨b1, o1, none⟩) s.late.length cl), ex (.int .i64 k), ex (.pointer (some ⟨b1, o1 + k * 2, none⟩)), ex (.pointer (some ⟨b1, o1 + k * 2 + 1, none⟩)), ex (.slice a1 x.length c1), ex (str x), ex (.pointer (some ⟨w.heap.size + 1, 1, none⟩)), ex (.slice (some ⟨b2, o2, none⟩) t.late.length cl'), ex (.int .i64 k), ex (.pointer (some ⟨b2, o2 + k * 2, none⟩)), ex (.pointer (some ⟨b2, o2 + k * 2 + 1, none⟩)), ex (.slice a2 z.length c2), ex (str z), ex (.bool (x != z)), ex (.bool (x != z))] (by kernel_rfl) (by kernel_rfl) ⟨Zh _, Zh _, Zh _, Zh _, Zh _, Zh _, Zh _, Zh _, Zh _, Zh _, Zh _, Zh _, Zh _, Zh _, Zh _, Zh _, Zh _, Zh _, Zh _, Zh _, Zh _, Zh _, Zh _, Zh _, Zh _, Zh _, Zh _, Zh _, Zh _, Zh _, trivial⟩ ?_ ?_
      ·refine ⟨?_, ?_, ?_, ?_, ?_, ?_, ?_, ?_, ?_, ?_, ?_, ?_, ?_, ?_, ?_, ?_, ?_, ?_, ?_, ?_, ?_, ?_, ?_, ?_, ?_, ?_, ?_, ?_, ?_, ?_, trivial⟩
       ·refine Zb rfl fun a _ _ _ B A => ?_;have e2 : a (.tmp 2) = .pointer (some ⟨w.heap.size, 0, none⟩) := Zv A 2 rfl;refine Zi ?_ rfl;clear A B;go_simp;all_goals go_arith
       ·refine Zb rfl fun a _ _ _ B A => ?_;have e27 : a (.tmp 27) = _ := Zf A 0 rfl;have h1 := (Below.cell B (Zu x1)).trans x1;refine Zi ?_ rfl;clear A B;go_simp;all_goals go_arith
       ·exact Zb rfl fun a _ _ _ _ A => Zs rfl (Zv A 5 rfl)
       ·refine Zb rfl fun a _ _ _ B A => ?_;have e28 : a (.tmp 28) = _ := Zf A 1 rfl;have e29 : a (.tmp 29) = _ := Zf A 2 rfl;refine Zi ?_ rfl;clear A B;go_simp;all_goals go_arith
       ·refine Zb rfl fun a _ _ _ B A => ?_;have e30 : a (.tmp 30) = _ := Zf A 3 rfl;refine Zi ?_ rfl;clear A B;go_simp;all_goals go_arith
       ·refine Zb rfl fun a _ _ _ B A => ?_;have e31 : a (.tmp 31) = _ := Zf A 4 rfl;have h1 := (Below.cell B (Zu hp1)).trans hp1;refine Zi ?_ rfl;clear A B;go_simp;all_goals go_arith
       ·refine Zb rfl fun a _ _ _ B A => ?_;have e3 : a (.tmp 3) = .pointer (some ⟨w.heap.size + 1, 0, none⟩) := Zv A 3 rfl;refine Zi ?_ rfl;clear A B;go_simp;all_goals go_arith
       ·refine Zb rfl fun a _ _ _ B A => ?_;have e33 : a (.tmp 33) = _ := Zf A 6 rfl;have h1 := (Below.cell B (Zu y1)).trans y1;refine Zi ?_ rfl;clear A B;go_simp;all_goals go_arith
       ·exact Zb rfl fun a _ _ _ _ A => Zs rfl (Zv A 5 rfl)
       ·refine Zb rfl fun a _ _ _ B A => ?_;have e34 : a (.tmp 34) = _ := Zf A 7 rfl;have e35 : a (.tmp 35) = _ := Zf A 8 rfl;refine Zi ?_ rfl;clear A B;go_simp;all_goals go_arith
       ·refine Zb rfl fun a _ _ _ B A => ?_;have e36 : a (.tmp 36) = _ := Zf A 9 rfl;refine Zi ?_ rfl;clear A B;go_simp;all_goals go_arith
       ·refine Zb rfl fun a _ _ _ B A => ?_;have e37 : a (.tmp 37) = _ := Zf A 10 rfl;have h1 := (Below.cell B (Zu hp2)).trans hp2;refine Zi ?_ rfl;clear A B;go_simp;all_goals go_arith
       ·refine Zb rfl fun a _ _ _ B A => ?_;have e32 : a (.tmp 32) = _ := Zf A 5 rfl;have e38 : a (.tmp 38) = _ := Zf A 11 rfl;refine Zi ?_ rfl;clear A B;go_simp;all_goals go_arith
       ·exact Zb rfl fun a _ _ _ _ A => Zs rfl (Zf A 12 rfl)
       ·refine Zo 13 false rfl rfl rfl fun a _ _ _ B A => ?_;have e2 : a (.tmp 2) = .pointer (some ⟨w.heap.size, 0, none⟩) := Zv A 2 rfl;refine Zi ?_ rfl;clear A B;go_simp;all_goals go_arith
       ·refine Zo 13 false rfl rfl rfl fun a _ _ _ B A => ?_;have e41 : a (.tmp 41) = _ := Zf A 14 rfl;have h1 := (Below.cell B (Zu x1)).trans x1;refine Zi ?_ rfl;clear A B;go_simp;all_goals go_arith
       ·exact Zo 13 false rfl rfl rfl fun a _ _ _ _ A => Zs rfl (Zv A 5 rfl)
       ·refine Zo 13 false rfl rfl rfl fun a _ _ _ B A => ?_;have e42 : a (.tmp 42) = _ := Zf A 15 rfl;have e43 : a (.tmp 43) = _ := Zf A 16 rfl;refine Zi ?_ rfl;clear A B;go_simp;all_goals go_arith
       ·refine Zo 13 false rfl rfl rfl fun a _ _ _ B A => ?_;have e44 : a (.tmp 44) = _ := Zf A 17 rfl;refine Zi ?_ rfl;clear A B;go_simp;all_goals go_arith
       ·refine Zo 13 false rfl rfl rfl fun a _ _ _ B A => ?_;have e45 : a (.tmp 45) = _ := Zf A 18 rfl;have h1 := (Below.cell B (Zu hu1)).trans hu1;refine Zi ?_ rfl;clear A B;go_simp;all_goals go_arith
       ·refine Zo 13 false rfl rfl rfl fun a B _ _ C A => ?_;have e46 : a (.tmp 46) = _ := Zf A 19 rfl;refine Zi ?_ rfl;have hrun := Kp B _ _ (Z0 hB1 C);clear A C;go_simp;all_goals go_arith
       ·refine Zo 13 false rfl rfl rfl fun a _ _ _ B A => ?_;have e3 : a (.tmp 3) = .pointer (some ⟨w.heap.size + 1, 0, none⟩) := Zv A 3 rfl;refine Zi ?_ rfl;clear A B;go_simp;all_goals go_arith
       ·refine Zo 13 false rfl rfl rfl fun a _ _ _ B A => ?_;have e48 : a (.tmp 48) = _ := Zf A 21 rfl;have h1 := (Below.cell B (Zu y1)).trans y1;refine Zi ?_ rfl;clear A B;go_simp;all_goals go_arith
       ·exact Zo 13 false rfl rfl rfl fun a _ _ _ _ A => Zs rfl (Zv A 5 rfl)
       ·refine Zo 13 false rfl rfl rfl fun a _ _ _ B A => ?_;have e49 : a (.tmp 49) = _ := Zf A 22 rfl;have e50 : a (.tmp 50) = _ := Zf A 23 rfl;refine Zi ?_ rfl;clear A B;go_simp;all_goals go_arith
       ·refine Zo 13 false rfl rfl rfl fun a _ _ _ B A => ?_;have e51 : a (.tmp 51) = _ := Zf A 24 rfl;refine Zi ?_ rfl;clear A B;go_simp;all_goals go_arith
       ·refine Zo 13 false rfl rfl rfl fun a _ _ _ B A => ?_;have e52 : a (.tmp 52) = _ := Zf A 25 rfl;have h1 := (Below.cell B (Zu hu2)).trans hu2;refine Zi ?_ rfl;clear A B;go_simp;all_goals go_arith
       ·refine Zo 13 false rfl rfl rfl fun a B _ _ C A => ?_;have e53 : a (.tmp 53) = _ := Zf A 26 rfl;refine Zi ?_ rfl;have hrun := Kp B _ _ (Z0 hB2 C);clear A C;go_simp;all_goals go_arith
       ·refine Zo 13 false rfl rfl rfl fun a _ _ _ B A => ?_;have e47 : a (.tmp 47) = _ := Zf A 20 rfl;have e54 : a (.tmp 54) = _ := Zf A 27 rfl;refine Zi ?_ rfl;unfold str at e47 e54;clear A B;go_simp;simp only [bne, Bool.not_not]
       ·refine Zb rfl fun a _ _ _ _ A => ?_;have ec : a (.tmp 40) = _ := Zf A 13 rfl;have e : a (.tmp 55) = _ := Zf A 28 rfl;exact Y3 rfl ec e
      ·intro vs w' hg ht;obtain ⟨(r27 : vs 0 = _), (r28 : vs 1 = _), (r29 : vs 2 = _), (r30 : vs 3 = _), (r31 : vs 4 = _), (r32 : vs 5 = _), (r33 : vs 6 = _), (r34 : vs 7 = _), (r35 : vs 8 = _), (r36 : vs 9 = _), (r37 : vs 10 = _), (r38 : vs 11 = _), (r39 : vs 12 = _), (r40 : vs 13 = _), (r41 : vs 14 = _), (r42 : vs 15 = _), (r43 : vs 16 = _), (r44 : vs 17 = _), (r45 : vs 18 = _), (r46 : vs 19 = _), (r47 : vs 20 = _), (r48 : vs 21 = _), (r49 : vs 22 = _), (r50 : vs 23 = _), (r51 : vs 24 = _), (r52 : vs 25 = _), (r53 : vs 26 = _), (r54 : vs 27 = _), (r55 : vs 28 = _), (r56 : vs 29 = _), -⟩ := ht;simp only [Yf, Act.put, List.setIfInBounds_toArray, List.set_cons_zero, List.set_cons_succ, r27, r28, r29, r30, r31, r32, r33, r34, r35, r36, r37, r38, r39, r40, r41, r42, r43, r44, r45, r46, r47, r48, r49, r50, r51, r52, r53, r54, r55, r56];clear r27 r28 r29 r30 r31 r32 r33 r34 r35 r36 r37 r38 r39 r40 r41 r42 r43 r44 r45 r46 r47 r48 r49 r50 r51 r52 r53 r54 r55 r56;have g2 := gr.trans hg;by_cases hxz : x = z
       ·have d3 : (x != z) = false := by simp [hxz]
        have HN : Hid _ := HX.out HPQ.out hxz;clear hxz;rw [d3];clear d3;go_wp2_with fail;go_roundw
        case rel => exact ⟨k + 1, by omega, by go_num, g2, HN.out⟩
        case measure => simp [intOf]; omega
       ·have d3 : (x != z) = true := by simp [hxz]
        have HN : Hid (s.same t = false) := HS.out.trans (HY.out (.inr hxz));clear hxz;rw [d3];clear d3;go_wp2_with fail;go_ret;exact ⟨Vw HN.out.symm, gw1.trans g2⟩
     ·have d2 : (p != q) = true := by simp [hpq]
      have HN : Hid (s.same t = false) := HS.out.trans (HY.out (.inl hpq));clear hpq;refine Ya [ex (.pointer (some ⟨w.heap.size, 1, none⟩)), ex (.slice (some ⟨b1, o1, none⟩) s.late.length cl), ex (.int .i64 k), ex (.pointer (some ⟨b1, o1 + k * 2, none⟩)), ex (.pointer (some ⟨b1, o1 + k * 2, none⟩)), ex (.int .i64 p), ex (.pointer (some ⟨w.heap.size + 1, 1, none⟩)), ex (.slice (some ⟨b2, o2, none⟩) t.late.length cl'), ex (.int .i64 k), ex (.pointer (some ⟨b2, o2 + k * 2, none⟩)), ex (.pointer (some ⟨b2, o2 + k * 2, none⟩)), ex (.int .i64 q), ex (.bool true), ex (.bool true), ex (undef), ex (undef), ex (undef), ex (undef), ex (undef), ex (undef), ex (undef), ex (undef), ex (undef), ex (undef), ex (undef), ex (undef), ex (undef), ex (undef), ex (undef), ex (.bool true)] (by kernel_rfl) (by kernel_rfl) ⟨Zh _, Zh _, Zh _, Zh _, Zh _, Zh _, Zh _, Zh _, Zh _, Zh _, Zh _, Zh _, Zh _, Zh _, Zh _, Zh _, Zh _, Zh _, Zh _, Zh _, Zh _, Zh _, Zh _, Zh _, Zh _, Zh _, Zh _, Zh _, Zh _, Zh _, trivial⟩ ?_ ?_
      ·refine ⟨?_, ?_, ?_, ?_, ?_, ?_, ?_, ?_, ?_, ?_, ?_, ?_, ?_, ?_, ?_, ?_, ?_, ?_, ?_, ?_, ?_, ?_, ?_, ?_, ?_, ?_, ?_, ?_, ?_, ?_, trivial⟩
       ·refine Zb rfl fun a _ _ _ B A => ?_;have e2 : a (.tmp 2) = .pointer (some ⟨w.heap.size, 0, none⟩) := Zv A 2 rfl;refine Zi ?_ rfl;clear A B;go_simp;all_goals go_arith
       ·refine Zb rfl fun a _ _ _ B A => ?_;have e27 : a (.tmp 27) = _ := Zf A 0 rfl;have h1 := (Below.cell B (Zu x1)).trans x1;refine Zi ?_ rfl;clear A B;go_simp;all_goals go_arith
       ·exact Zb rfl fun a _ _ _ _ A => Zs rfl (Zv A 5 rfl)
       ·refine Zb rfl fun a _ _ _ B A => ?_;have e28 : a (.tmp 28) = _ := Zf A 1 rfl;have e29 : a (.tmp 29) = _ := Zf A 2 rfl;refine Zi ?_ rfl;clear A B;go_simp;all_goals go_arith
       ·refine Zb rfl fun a _ _ _ B A => ?_;have e30 : a (.tmp 30) = _ := Zf A 3 rfl;refine Zi ?_ rfl;clear A B;go_simp;all_goals go_arith
       ·refine Zb rfl fun a _ _ _ B A => ?_;have e31 : a (.tmp 31) = _ := Zf A 4 rfl;have h1 := (Below.cell B (Zu hp1)).trans hp1;refine Zi ?_ rfl;clear A B;go_simp;all_goals go_arith
       ·refine Zb rfl fun a _ _ _ B A => ?_;have e3 : a (.tmp 3) = .pointer (some ⟨w.heap.size + 1, 0, none⟩) := Zv A 3 rfl;refine Zi ?_ rfl;clear A B;go_simp;all_goals go_arith
       ·refine Zb rfl fun a _ _ _ B A => ?_;have e33 : a (.tmp 33) = _ := Zf A 6 rfl;have h1 := (Below.cell B (Zu y1)).trans y1;refine Zi ?_ rfl;clear A B;go_simp;all_goals go_arith
       ·exact Zb rfl fun a _ _ _ _ A => Zs rfl (Zv A 5 rfl)
       ·refine Zb rfl fun a _ _ _ B A => ?_;have e34 : a (.tmp 34) = _ := Zf A 7 rfl;have e35 : a (.tmp 35) = _ := Zf A 8 rfl;refine Zi ?_ rfl;clear A B;go_simp;all_goals go_arith
       ·refine Zb rfl fun a _ _ _ B A => ?_;have e36 : a (.tmp 36) = _ := Zf A 9 rfl;refine Zi ?_ rfl;clear A B;go_simp;all_goals go_arith
       ·refine Zb rfl fun a _ _ _ B A => ?_;have e37 : a (.tmp 37) = _ := Zf A 10 rfl;have h1 := (Below.cell B (Zu hp2)).trans hp2;refine Zi ?_ rfl;clear A B;go_simp;all_goals go_arith
       ·refine Zb rfl fun a _ _ _ B A => ?_;have e32 : a (.tmp 32) = _ := Zf A 5 rfl;have e38 : a (.tmp 38) = _ := Zf A 11 rfl;refine Zi ?_ rfl;clear A B;go_simp;all_goals go_arith
       ·exact Zb rfl fun a _ _ _ _ A => Zs rfl (Zf A 12 rfl)
       ·refine Zy 13 false rfl rfl rfl (fun _ => rfl)
       ·refine Zy 13 false rfl rfl rfl (fun _ => rfl)
       ·refine Zy 13 false rfl rfl rfl (fun _ => rfl)
       ·refine Zy 13 false rfl rfl rfl (fun _ => rfl)
       ·refine Zy 13 false rfl rfl rfl (fun _ => rfl)
       ·refine Zy 13 false rfl rfl rfl (fun _ => rfl)
       ·refine Zy 13 false rfl rfl rfl (fun _ => rfl)
       ·refine Zy 13 false rfl rfl rfl (fun _ => rfl)
       ·refine Zy 13 false rfl rfl rfl (fun _ => rfl)
       ·refine Zy 13 false rfl rfl rfl (fun _ => rfl)
       ·refine Zy 13 false rfl rfl rfl (fun _ => rfl)
       ·refine Zy 13 false rfl rfl rfl (fun _ => rfl)
       ·refine Zy 13 false rfl rfl rfl (fun _ => rfl)
       ·refine Zy 13 false rfl rfl rfl (fun _ => rfl)
       ·refine Zy 13 false rfl rfl rfl (fun _ => rfl)
       ·refine Zb rfl fun a _ B _ _ A => ?_;have ec : a (.tmp 40) = _ := Zf A 13 rfl;exact Y3 rfl ec (B _)
      ·intro vs w' hg ht;obtain ⟨(r27 : vs 0 = _), (r28 : vs 1 = _), (r29 : vs 2 = _), (r30 : vs 3 = _), (r31 : vs 4 = _), (r32 : vs 5 = _), (r33 : vs 6 = _), (r34 : vs 7 = _), (r35 : vs 8 = _), (r36 : vs 9 = _), (r37 : vs 10 = _), (r38 : vs 11 = _), (r39 : vs 12 = _), (r40 : vs 13 = _), (r41 : vs 14 = _), (r42 : vs 15 = _), (r43 : vs 16 = _), (r44 : vs 17 = _), (r45 : vs 18 = _), (r46 : vs 19 = _), (r47 : vs 20 = _), (r48 : vs 21 = _), (r49 : vs 22 = _), (r50 : vs 23 = _), (r51 : vs 24 = _), (r52 : vs 25 = _), (r53 : vs 26 = _), (r54 : vs 27 = _), (r55 : vs 28 = _), (r56 : vs 29 = _), -⟩ := ht;simp only [Yf, Act.put, List.setIfInBounds_toArray, List.set_cons_zero, List.set_cons_succ, r27, r28, r29, r30, r31, r32, r33, r34, r35, r36, r37, r38, r39, r40, r41, r42, r43, r44, r45, r46, r47, r48, r49, r50, r51, r52, r53, r54, r55, r56];clear r27 r28 r29 r30 r31 r32 r33 r34 r35 r36 r37 r38 r39 r40 r41 r42 r43 r44 r45 r46 r47 r48 r49 r50 r51 r52 r53 r54 r55 r56;have g2 := gr.trans hg;go_wp2_with fail;go_ret;exact ⟨Vw HN.out.symm, gw1.trans g2⟩
    ·have HN : Hid (s.same t = true) := by
      have h := HT.out;rw [List.take_of_length_le (by omega), List.take_of_length_le (by have := HL.out; omega)] at h;exact HS.out.trans (Ziv h)
     go_wp2_with fail;go_ret;exact ⟨Vw HN.out.symm, gw1.trans gr⟩
  ·have d1 : ((s.late.length : Int) != (t.late.length : Int)) = true := by simp; omega
   have HN : Hid (s.same t = false) := HS.out.trans (Qh (fun e => hlen (by rw [e])));clear hlen;go_wp2_with fail;go_ret;exact ⟨Vw HN.out.symm, gw1⟩
end Go.Proofs.YtpdnapbchcdhlacGreat
