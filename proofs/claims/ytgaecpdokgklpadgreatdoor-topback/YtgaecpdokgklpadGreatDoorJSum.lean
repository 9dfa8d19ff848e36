import Derived.Test.YtgaecpdokgklpadGreatDoorProg
import Derived.Test.YtgaecpdokgklpadGreatDoorJReg
import Derived.WalkKit
import Derived.WalkSpells
import Derived.WalkLawsBesides
import Derived.Laws.BitsAllLaws
import Derived.Laws.AppendOwnNone
import Derived.Handy
set_option maxHeartbeats 8000000
namespace Go.Proofs.YtgaecpdokgklpadGreatDoor
set_option maxRecDepth 100000
open Go.RowKit
open Plain Reg
def Bytes (w : World) (v : Value) (l : List UInt8) : Prop :=
 (∃ ao cap, v = .slice ao 0 cap ∧ l = [] ∧ (ao = none → cap = 0)) ∨
 (∃ b off cap, v = .slice (some ⟨b, off, none⟩) l.length cap ∧ l.length ≤ cap ∧ ∀ (i : Nat) (h : i < l.length), w.cell? ⟨b, off + i, none⟩ = some (.int .u8 (l[i].toNat : Int)))
theorem Xf {k : IntKind} {a b : Int} (h : a = b) : Ending.returned (.int k a) = .returned (.int k b) := by rw [h]
theorem Znz {k : IntKind} {a b : Int} (h : a = b) : Value.int k a = .int k b := by rw [h]
theorem Zxa (l : List UInt8) (b off cap : Nat) (w : World) (hm : l.length ≤ 140737488355328)
  (hc : ∀ (i : Nat) (h : i < l.length), w.cell? ⟨b, off + i, none⟩ = some (.int .u8 (l[i].toNat : Int))) :
  Calls Tryz.prog 110 #[.slice (some ⟨b, off, none⟩) l.length cap] w fun e w' => e = .returned (.int .i64 (Xe l)) ∧ w = w' := by
 go_enter Tryz.func110, Tryz.ntmps110;go_wp2
 go_loop [3, 8] (fun n i => ∃ k : Nat, k ≤ l.length ∧ i = .int .i64 k ∧ n = .int .i64 (Xe (l.take k))) (fun _ i => l.length - (intOf i).toNat)
 case atStart => exact ⟨0, Nat.zero_le _, rfl, rfl⟩
 case round =>
  obtain ⟨k, hk, rfl, rfl⟩ := hrel;have hs := Zcr (l.take k);by_cases hlt : k < l.length
  ·have hcell := hc k hlt;have hb : l[k].toNat < 256 := UInt8.toNat_lt _;have HS : Hid (Xe (l.take (k + 1)) = (Xe (l.take k) * 131 + (l[k].toNat : Int) + 1) % 65521) := by rw [Ju l k hlt]; exact Zma _ _
   clear hc;go_wp2
   go_round
   case rel => exact ⟨k + 1, by omega, by go_num, Znz (by rw [HS.out])⟩
   case measure => simp [intOf]; omega
  ·go_wp2;go_ret;exact ⟨Xf (by rw [List.take_of_length_le (by omega)]), rfl⟩
theorem Zxb (ao : Option Addr) (cap : Nat) (w : World) : Calls Tryz.prog 110 #[.slice ao 0 cap] w fun e w' => e = .returned (.int .i64 (Xe [])) ∧ w = w' := by
 go_enter Tryz.func110, Tryz.ntmps110;go_wp2
 go_loop [3, 8] (fun n i => n = .int .i64 3 ∧ i = .int .i64 0) (fun _ i => 0)
 case atStart => exact ⟨rfl, rfl⟩
 case round =>
  obtain ⟨rfl, rfl⟩ := hrel;go_wp2;go_ret;exact ⟨rfl, rfl⟩
theorem Ztb (l : List UInt8) (v : Value) (w : World) (hm : l.length ≤ 140737488355328) (h : Bytes w v l) :
  Calls Tryz.prog 110 #[v] w fun e w' => e = .returned (.int .i64 (Xe l)) ∧ w = w' := by
 rcases h with ⟨ao, cap, rfl, rfl, _⟩ | ⟨b, off, cap, rfl, _, hc⟩
 ·exact Zxb ao cap w
 ·exact Zxa l b off cap w hm hc
theorem Zn0 (n : Int) (w : World) :
  Calls Tryz.prog 69 #[.int .i64 n] w fun e w' => e = .returned (.slice (some ⟨w.heap.size, 0, none⟩) 2 2) ∧ w' = w.alloc (.cells #[.int .u8 ((hi n).toNat : Int), .int .u8 ((lo n).toNat : Int)] 5) := by
 rw [Zm9, Jo];go_enter Tryz.func69, Tryz.ntmps69;go_wp2;go_ret;exact ⟨rfl, rfl⟩
theorem Zw8 (a b : Nat) (ha : a < 256) (hb : b < 256) : bits .or .i64 ((a : Int) * 256) (b : Int) = (a : Int) * 256 + (b : Int) := by
 have hx : a * 256 ||| b = a * 256 + b := nat_join 8 (a * 256) b (by omega) (by omega);have e1 : (BitVec.ofInt 64 ((a * 256 : Nat) : Int)).toNat = a * 256 := by
  rw [BitVec.ofInt_natCast, BitVec.toNat_ofNat]; exact Nat.mod_eq_of_lt (by omega)
 have e2 : (BitVec.ofInt 64 (b : Int)).toNat = b := by
  rw [BitVec.ofInt_natCast, BitVec.toNat_ofNat]; exact Nat.mod_eq_of_lt (by omega)
 rw [show ((a : Int) * 256) = ((a * 256 : Nat) : Int) from by omega];show IntKind.i64.wrap ((BitVec.ofInt 64 ((a * 256 : Nat) : Int) ||| BitVec.ofInt 64 (b : Int)).toNat : Int) = _;rw [BitVec.toNat_or, e1, e2, hx, IntKind.wrap_i64];omega
theorem Zfl (a b : UInt8) (w : World) :
  Calls Tryz.prog 163 #[.int .u8 (a.toNat : Int), .int .u8 (b.toNat : Int)] w fun e w' => e = .returned (.int .i64 ((a.toNat : Int) * 256 + (b.toNat : Int))) ∧ w = w' := by
 have ha : a.toNat < 256 := UInt8.toNat_lt _;have hb : b.toNat < 256 := UInt8.toNat_lt _;go_enter Tryz.func163, Tryz.ntmps163;go_wp2;go_ret;exact ⟨Xf (Zw8 _ _ ha hb), rfl⟩
end Go.Proofs.YtgaecpdokgklpadGreatDoor
namespace Go.Proofs.YtgaecpdokgklpadGreatDoor
set_option maxRecDepth 100000
open Go.RowKit
open Plain Reg
def bv (c : UInt8) : Value := .int .u8 (c.toNat : Int)
theorem J0 : (Tryz.prog.info? 5).map (fun i => (i.zero, i.size, i.bytes)) = some (some (.int .u8 0), 1, 1) := by kernel_rfl
theorem Yt {w : World} {v : Value} {l : List UInt8} (h : Bytes w v l) :
  ∃ ao cap, v = .slice ao l.length cap ∧ (ao = none → l.length = 0 ∧ cap = 0) ∧ (∀ ad, ao = some ad → ∀ (j : Nat) u, (l.map bv)[j]? = some u → w.cell? (ad.add j) = some u) := by
 rcases h with ⟨ao, cap, rfl, rfl, h0⟩ | ⟨b, off, cap, rfl, _, hc⟩
 ·exact ⟨ao, cap, rfl, fun h => ⟨rfl, h0 h⟩, fun ad _ j u hj => by simp at hj⟩
 ·refine ⟨_, cap, rfl, fun h => (by cases h), fun ad had j u hj => ?_⟩;cases had;rw [List.getElem?_map] at hj;by_cases hl : j < l.length
  ·simp only [List.getElem?_eq_getElem hl, Option.map_some, bv, Option.some.injEq] at hj;subst hj;have e : (⟨b, off, none⟩ : Addr).add j = ⟨b, off + j, none⟩ := by simp [Addr.add]
   rw [e];exact hc j hl
  ·rw [List.getElem?_eq_none (by omega)] at hj; cases hj
theorem Zch (l : List UInt8) : ∀ u ∈ l.map bv, u.oneCell' = true := by
 intro u hu;obtain ⟨c, _, rfl⟩ := List.mem_map.1 hu;rfl
theorem Yl {w w1 w2 : World} {row : Option Nat} (h : Zj w w1) (hg : w1.grownBy w2 row) (hr : ∀ k, row = some k → w.heap.size ≤ k) : Zj w w2 :=
 Below.grown h hg h.size hr
theorem Zs {w : World} {p : Addr} {v : Value} (h : w.cell? p = some v) : p.block < w.heap.size := by
 rcases Nat.lt_or_ge p.block w.heap.size with hl | hl
 ·exact hl
 ·simp [World.cell?, Array.getElem?_eq_none hl] at h
theorem Z0 {w w' : World} {v : Value} {l : List UInt8} (h : Bytes w v l) (hg : Zj w w') : Bytes w' v l := by
 rcases h with h | ⟨b, off, cap, rfl, h1, hc⟩
 ·exact .inl h
 ·refine .inr ⟨b, off, cap, rfl, h1, fun i hi => ?_⟩;have h2 := hc i hi;rw [← h2];exact Below.cell hg (Zs h2)
theorem Qf {w : World} {base : Nat} {e : TypeId} {v : Value} {n : Nat} {l : List UInt8} (h : w.ownsRow base e 1 v n (l.map bv)) : Bytes w v l := by
 have hl : l.length = n := by simpa using h.1
 subst hl;rcases h.2 with ⟨rfl, h0⟩ | ⟨g, cap, cur, rfl, hb, hh, h1, h2, h3, h4⟩
 ·exact .inl ⟨none, 0, rfl, List.eq_nil_of_length_eq_zero h0, fun _ => rfl⟩
 ·refine .inr ⟨g, 0, cap, rfl, h1, fun i hi => ?_⟩;have := h.cellAt i (by omega);rw [Nat.zero_add, this];simp [hi, bv]
theorem Zmh (l : List UInt8) : (Xs l).map bv = l.map bv ++ [.int .u8 ((hi (Xe l)).toNat : Int), .int .u8 ((lo (Xe l)).toNat : Int)] := by
 simp [Xs, bv]
theorem Zke (w : World) (x y : Value) (e : TypeId) (j : Nat) (u : Value) (h : [x, y][j]? = some u) : (w.alloc (.cells #[x, y] e)).cell? ((⟨w.heap.size, 0, none⟩ : Addr).add j) = some u := by
 match j, h with
 | 0, h => simp at h; subst h; simp [Addr.add]
 | 1, h => simp at h; subst h; simp [Addr.add]
 | j + 2, h => simp at h
theorem Zhn {w w1 : World} (hg : w.grownBy w1 none) : Zj w w1 := Yl (Zj.refl w) hg (fun k h => by cases h)
theorem Zkt {w w1 w2 : World} (h : Zj w w1) (hg : w1.grownBy w2 (some w.heap.size)) : Zj w w2 := Yl h hg (fun k e => by cases e; exact Nat.le_refl _)
theorem Zd (w : World) (o : Obj) : Zj w (w.alloc o) := Below.alloc (Below.refl _ _) (Nat.le_refl _) o
theorem Zr4 {w w' : World} {ao : Option Addr} {l : List UInt8} (h : ∀ ad, ao = some ad → ∀ (j : Nat) u, (l.map bv)[j]? = some u → w.cell? (ad.add j) = some u) (hg : Zj w w') :
  ∀ ad, ao = some ad → ∀ (j : Nat) u, (l.map bv)[j]? = some u → w'.cell? (ad.add j) = some u := by
 intro ad ha j u hj;have h2 := h ad ha j u hj;rw [← h2];exact Below.cell hg (Zs h2)
theorem Zr9 (l : List UInt8) (v : Value) (w : World) (hm : l.length ≤ 140737488355326) (h : Bytes w v l) :
  Calls Tryz.prog 70 #[v] w fun e w' => ∃ v', e = .returned v' ∧ w'.ownsRow w.heap.size 5 1 v' (l.length + 2) ((Xs l).map bv) ∧ Zj w w' := by
 rw [Zmh];obtain ⟨ao, cap, rfl, hnone, hcells⟩ := Yt h;obtain ⟨i0, hif, hz0, hz1, hz2⟩ := info_parts J0;go_enter Tryz.func70, Tryz.ntmps70;go_wp2_with (first
  | (at_make; refine wpList_make_own _ rfl _ _ 38 rfl w.heap.size 5 i0 (.int .u8 0) 1 Tryz.underlying38 hif hz0 hz1 .i64 .i64 _ (l.length + 2) rfl rfl (by omega) (by rw [hz2]; omega) (by unfold maxLen; omega) (Nat.le_refl _) ?_; intro w1 hown1 hgrow1)
  | (at_builtin; refine wpList_append_fits_any _ rfl (.tmp 8) (.tmp 9) 38 rfl w.heap.size 5 i0 1 Tryz.underlying38 hif hz1 w.heap.size 0 (l.length + 2) [] rfl (by assumption) ao l.length cap (l.map bv) rfl (by simp) hnone (Zr4 hcells (Zhn hgrow1)) (Zch l) (by omega) ?_; intro w2 hown2 hgrow2))
 have g2 : Zj w w2 := Zkt (Zhn hgrow1) hgrow2;have hb2 : Bytes w2 (.slice ao l.length cap) l := Z0 h g2;simp only [Nat.zero_add, List.nil_append] at hown2;refine (Ztb l _ _ (by omega) hb2).mono ?_;rintro e w' ⟨rfl, rfl⟩;clear hown1 hgrow1 hgrow2 hcells h hb2;go_wp2_with fail;refine (Zn0 _ _).mono ?_;rintro e w' ⟨rfl, rfl⟩;go_wp2_with (at_builtin; refine wpList_append_fits_any _ rfl (.tmp 11) (.tmp 14) 38 rfl w.heap.size 5 i0 1 Tryz.underlying38 hif hz1 w.heap.size l.length (l.length + 2) (l.map bv) rfl (hown2.alloc _) (some ⟨w2.heap.size, 0, none⟩) 2 2 [.int .u8 ((hi (Xe l)).toNat : Int), .int .u8 ((lo (Xe l)).toNat : Int)] rfl rfl (fun h => by cases h) ?c1 ?c2 (Nat.le_refl _) ?_; rotate_right; intro w3 hown3 hgrow3)
 ·go_ret;exact ⟨_, rfl, hown3, Zkt (g2.trans (Zd w2 _)) hgrow3⟩
 ·intro ad had j u hj;cases had;exact Zke w2 _ _ _ j u hj
 ·intro u hu;simp at hu;rcases hu with rfl | rfl <;> rfl
theorem Zpt (w : World) : (w.alloc (.cells #[] 5)).ownsRow w.heap.size 5 1 (.slice (some ⟨w.heap.size, 0, none⟩) 0 0) 0 [] :=
 ⟨rfl, .inr ⟨w.heap.size, 0, #[], rfl, Nat.le_refl _, by show (w.heap.push _)[w.heap.size]? = _; simp, Nat.le_refl _, by unfold maxLen; omega, rfl, rfl⟩⟩
end Go.Proofs.YtgaecpdokgklpadGreatDoor
namespace Go.Proofs.YtgaecpdokgklpadGreatDoor
set_option maxRecDepth 100000
open Go.RowKit
open Plain Reg
theorem Za3 (l : List UInt8) (ao : Option Addr) (cap : Nat) (w : World) (hs : l.length < 2) :
  Calls Tryz.prog 177 #[.slice ao l.length cap] w fun e w' => e = .returned (.bool false) ∧ Zj w w' := by
 have hd : decide ((0 : Int) ≤ (l.length : Int) - 2) = false := by simp; omega
 go_enter Tryz.func177, Tryz.ntmps177;go_wp2;refine Zy [ex (.int .i64 ((l.length : Int) - 2)), ex (.bool false), ex (.bool false), ex (undef), ex (undef), ex (undef), ex (undef), ex (undef), ex (undef), ex (undef), ex (undef), ex (undef), ex (undef), ex (undef), ex (undef), ex (undef), ex (undef), ex (undef), ex (.bool false), ex (.bool false)] (by kernel_rfl) (by kernel_rfl) ⟨Zf _, Zf _, Zf _, Zf _, Zf _, Zf _, Zf _, Zf _, Zf _, Zf _, Zf _, Zf _, Zf _, Zf _, Zf _, Zf _, Zf _, Zf _, Zf _, Zf _, trivial⟩ ?_ ?_
 ·refine ⟨?_, ?_, ?_, ?_, ?_, ?_, ?_, ?_, ?_, ?_, ?_, ?_, ?_, ?_, ?_, ?_, ?_, ?_, ?_, ?_, trivial⟩
  ·refine Za rfl fun a w' ek ef hg hin => ?_;have e : a (.tmp 3) = .int .i64 ((l.length : Int) - 2) := Zq hin 3 rfl;exact Zn rfl e
  ·refine Za rfl fun a w' ek ef hg hin => ?_;have e7 : a (.tmp 7) = _ := Zc hin 0 rfl;refine Zi ?_ rfl;clear hin hg;go_simp;all_goals go_arith
  ·refine Za rfl fun a w' ek ef hg hin => ?_;have e : a (.tmp 8) = _ := Zc hin 1 rfl;exact Zn rfl e
  ·refine Z2 2 true false rfl (by decide) (fun a w' hin => Zm hin 2 (by kernel_rfl)) (fun _ => rfl)
  ·refine Z2 2 true false rfl (by decide) (fun a w' hin => Zm hin 2 (by kernel_rfl)) (fun _ => rfl)
  ·refine Z2 2 true false rfl (by decide) (fun a w' hin => Zm hin 2 (by kernel_rfl)) (fun _ => rfl)
  ·refine Z2 2 true false rfl (by decide) (fun a w' hin => Zm hin 2 (by kernel_rfl)) (fun _ => rfl)
  ·refine Z2 2 true false rfl (by decide) (fun a w' hin => Zm hin 2 (by kernel_rfl)) (fun _ => rfl)
  ·refine Z2 2 true false rfl (by decide) (fun a w' hin => Zm hin 2 (by kernel_rfl)) (fun _ => rfl)
  ·refine Z2 2 true false rfl (by decide) (fun a w' hin => Zm hin 2 (by kernel_rfl)) (fun _ => rfl)
  ·refine Z2 2 true false rfl (by decide) (fun a w' hin => Zm hin 2 (by kernel_rfl)) (fun _ => rfl)
  ·refine Z2 2 true false rfl (by decide) (fun a w' hin => Zm hin 2 (by kernel_rfl)) (fun _ => rfl)
  ·refine Z2 2 true false rfl (by decide) (fun a w' hin => Zm hin 2 (by kernel_rfl)) (fun _ => rfl)
  ·refine Z2 2 true false rfl (by decide) (fun a w' hin => Zm hin 2 (by kernel_rfl)) (fun _ => rfl)
  ·refine Z2 2 true false rfl (by decide) (fun a w' hin => Zm hin 2 (by kernel_rfl)) (fun _ => rfl)
  ·refine Z2 2 true false rfl (by decide) (fun a w' hin => Zm hin 2 (by kernel_rfl)) (fun _ => rfl)
  ·refine Z2 2 true false rfl (by decide) (fun a w' hin => Zm hin 2 (by kernel_rfl)) (fun _ => rfl)
  ·refine Z2 2 true false rfl (by decide) (fun a w' hin => Zm hin 2 (by kernel_rfl)) (fun _ => rfl)
  ·refine Za rfl fun a w' ek ef hg hin => ?_;have ec : a (.tmp 9) = _ := Zc hin 2 rfl;exact Y3 rfl ec (ek _)
  ·refine Za rfl fun a w' ek ef hg hin => ?_;have e : a (.tmp 25) = _ := Zc hin 18 rfl;exact Yk rfl e
 ·intro vs w' hg ht;obtain ⟨q7, q8, q9, q10, q11, q12, q13, q14, q15, q16, q17, q18, q19, q20, q21, q22, q23, q24, q25, q2, -⟩ := ht;have r7 : vs 0 = .int .i64 ((l.length : Int) - 2) := q7;have r8 : vs 1 = .bool false := q8;have r9 : vs 2 = .bool false := q9;have r10 : vs 3 = undef := q10;have r11 : vs 4 = undef := q11;have r12 : vs 5 = undef := q12;have r13 : vs 6 = undef := q13;have r14 : vs 7 = undef := q14;have r15 : vs 8 = undef := q15;have r16 : vs 9 = undef := q16;have r17 : vs 10 = undef := q17;have r18 : vs 11 = undef := q18;have r19 : vs 12 = undef := q19;have r20 : vs 13 = undef := q20;have r21 : vs 14 = undef := q21;have r22 : vs 15 = undef := q22;have r23 : vs 16 = undef := q23;have r24 : vs 17 = undef := q24;have r25 : vs 18 = .bool false := q25;have r2 : vs 19 = .bool false := q2;clear q7 q8 q9 q10 q11 q12 q13 q14 q15 q16 q17 q18 q19 q20 q21 q22 q23 q24 q25 q2;simp only [Z9, Act.put, List.setIfInBounds_toArray, List.set_cons_zero, List.set_cons_succ, r7, r8, r9, r10, r11, r12, r13, r14, r15, r16, r17, r18, r19, r20, r21, r22, r23, r24, r25, r2];clear r7 r8 r9 r10 r11 r12 r13 r14 r15 r16 r17 r18 r19 r20 r21 r22 r23 r24 r25 r2;go_wp2;go_ret;exact ⟨rfl, hg⟩
theorem Zgn (l : List UInt8) (x y : UInt8) (b off cap n : Nat) (w : World) (hm : n ≤ 140737488355326) (hcap : n + 2 ≤ cap) (hl : l.length = n)
  (hc : ∀ (i : Nat) (h : i < l.length), w.cell? ⟨b, off + i, none⟩ = some (.int .u8 (l[i].toNat : Int)))
  (hx : w.cell? ⟨b, off + n, none⟩ = some (.int .u8 (x.toNat : Int))) (hy : w.cell? ⟨b, off + (n + 1), none⟩ = some (.int .u8 (y.toNat : Int))) :
  Calls Tryz.prog 177 #[.slice (some ⟨b, off, none⟩) (n + 2) cap] w fun e w' => e = .returned (.bool ((x.toNat : Int) * 256 + (y.toNat : Int) == Xe l)) ∧ Zj w w' := by
 have HL : Hid (l.length = n) := hl;clear hl;have hb0 : Bytes w (.slice (some ⟨b, off, none⟩) n cap) l := .inr ⟨b, off, cap, by rw [HL.out], by have := HL.out; omega, hc⟩;go_enter Tryz.func177, Tryz.ntmps177;go_wp2;refine Zy [ex (.int .i64 n), ex (.bool true), ex (.bool true), ex (.slice (some ⟨b, off, none⟩) (n + 2) cap), ex (.int .i64 n), ex (.pointer (some ⟨b, off + n, none⟩)), ex (.int .u8 (x.toNat : Int)), ex (.slice (some ⟨b, off, none⟩) (n + 2) cap), ex (.int .i64 n), ex (.int .i64 ((n : Int) + 1)), ex (.pointer (some ⟨b, off + (n + 1), none⟩)), ex (.int .u8 (y.toNat : Int)), ex (.int .i64 ((x.toNat : Int) * 256 + (y.toNat : Int))), ex (.slice (some ⟨b, off, none⟩) (n + 2) cap), ex (.int .i64 n), ex (.slice (some ⟨b, off, none⟩) n cap), ex (.int .i64 (Xe l)), ex (.bool ((x.toNat : Int) * 256 + (y.toNat : Int) == Xe l)), ex (.bool ((x.toNat : Int) * 256 + (y.toNat : Int) == Xe l)), ex (.bool ((x.toNat : Int) * 256 + (y.toNat : Int) == Xe l))] (by kernel_rfl) (by kernel_rfl) ⟨Zf _, Zf _, Zf _, Zf _, Zf _, Zf _, Zf _, Zf _, Zf _, Zf _, Zf _, Zf _, Zf _, Zf _, Zf _, Zf _, Zf _, Zf _, Zf _, Zf _, trivial⟩ ?_ ?_
 ·refine ⟨?_, ?_, ?_, ?_, ?_, ?_, ?_, ?_, ?_, ?_, ?_, ?_, ?_, ?_, ?_, ?_, ?_, ?_, ?_, ?_, trivial⟩
  ·refine Za rfl fun a w' ek ef hg hin => ?_;have e : a (.tmp 3) = .int .i64 n := Zq hin 3 rfl;exact Zn rfl e
  ·refine Za rfl fun a w' ek ef hg hin => ?_;have e7 : a (.tmp 7) = _ := Zc hin 0 rfl;refine Zi ?_ rfl;clear hin hg;go_simp;all_goals go_arith
  ·refine Za rfl fun a w' ek ef hg hin => ?_;have e : a (.tmp 8) = _ := Zc hin 1 rfl;exact Zn rfl e
  ·refine Zl 2 true rfl (fun a w' hin => Zm hin 2 (by kernel_rfl)) fun a w' ek ef hg hin => ?_;have e : a (.tmp 0) = .slice (some ⟨b, off, none⟩) (n + 2) cap := Zq hin 0 rfl;exact Zn rfl e
  ·refine Zl 2 true rfl (fun a w' hin => Zm hin 2 (by kernel_rfl)) fun a w' ek ef hg hin => ?_;have e : a (.tmp 3) = .int .i64 n := Zq hin 3 rfl;exact Zn rfl e
  ·refine Zl 2 true rfl (fun a w' hin => Zm hin 2 (by kernel_rfl)) fun a w' ek ef hg hin => ?_;have e10 : a (.tmp 10) = _ := Zc hin 3 rfl;have e11 : a (.tmp 11) = _ := Zc hin 4 rfl;refine Zi ?_ rfl;clear hin hg;go_simp;all_goals go_arith
  ·refine Zl 2 true rfl (fun a w' hin => Zm hin 2 (by kernel_rfl)) fun a w' ek ef hg hin => ?_;have e12 : a (.tmp 12) = _ := Zc hin 5 rfl;have h1 : w'.cell? ⟨b, off + n, none⟩ = some (.int .u8 (x.toNat : Int)) := (Below.cell hg (Zs hx)).trans hx;refine Zi ?_ rfl;clear hin hg;go_simp;all_goals go_arith
  ·refine Zl 2 true rfl (fun a w' hin => Zm hin 2 (by kernel_rfl)) fun a w' ek ef hg hin => ?_;have e : a (.tmp 0) = .slice (some ⟨b, off, none⟩) (n + 2) cap := Zq hin 0 rfl;exact Zn rfl e
  ·refine Zl 2 true rfl (fun a w' hin => Zm hin 2 (by kernel_rfl)) fun a w' ek ef hg hin => ?_;have e : a (.tmp 3) = .int .i64 n := Zq hin 3 rfl;exact Zn rfl e
  ·refine Zl 2 true rfl (fun a w' hin => Zm hin 2 (by kernel_rfl)) fun a w' ek ef hg hin => ?_;have e15 : a (.tmp 15) = _ := Zc hin 8 rfl;refine Zi ?_ rfl;clear hin hg;go_simp;all_goals go_arith
  ·refine Zl 2 true rfl (fun a w' hin => Zm hin 2 (by kernel_rfl)) fun a w' ek ef hg hin => ?_;have e14 : a (.tmp 14) = _ := Zc hin 7 rfl;have e16 : a (.tmp 16) = _ := Zc hin 9 rfl;refine Zi ?_ rfl;clear hin hg;go_simp;all_goals go_arith
  ·refine Zl 2 true rfl (fun a w' hin => Zm hin 2 (by kernel_rfl)) fun a w' ek ef hg hin => ?_;have e17 : a (.tmp 17) = _ := Zc hin 10 rfl;have h1 : w'.cell? ⟨b, off + (n + 1), none⟩ = some (.int .u8 (y.toNat : Int)) := (Below.cell hg (Zs hy)).trans hy;refine Zi ?_ rfl;clear hin hg;go_simp;all_goals go_arith
  ·refine Zl 2 true rfl (fun a w' hin => Zm hin 2 (by kernel_rfl)) fun a w' ek ef hg hin => ?_;have e13 : a (.tmp 13) = _ := Zc hin 6 rfl;have e18 : a (.tmp 18) = _ := Zc hin 11 rfl;refine Yq (f := 163) (args := #[.int .u8 (x.toNat : Int), .int .u8 (y.toNat : Int)]) ?_ ((Zfl x y w').mono ?_)
   ·clear hin hg;go_simp;all_goals go_arith
   ·rintro e w2 ⟨rfl, rfl⟩;exact ⟨_, rfl, Zj.refl _, rfl⟩
  ·refine Zl 2 true rfl (fun a w' hin => Zm hin 2 (by kernel_rfl)) fun a w' ek ef hg hin => ?_;have e : a (.tmp 0) = .slice (some ⟨b, off, none⟩) (n + 2) cap := Zq hin 0 rfl;exact Zn rfl e
  ·refine Zl 2 true rfl (fun a w' hin => Zm hin 2 (by kernel_rfl)) fun a w' ek ef hg hin => ?_;have e : a (.tmp 3) = .int .i64 n := Zq hin 3 rfl;exact Zn rfl e
  ·refine Zl 2 true rfl (fun a w' hin => Zm hin 2 (by kernel_rfl)) fun a w' ek ef hg hin => ?_;have e20 : a (.tmp 20) = _ := Zc hin 13 rfl;have e21 : a (.tmp 21) = _ := Zc hin 14 rfl;refine Zi ?_ rfl;clear hin hg;go_simp;all_goals go_arith
  ·refine Zl 2 true rfl (fun a w' hin => Zm hin 2 (by kernel_rfl)) fun a w' ek ef hg hin => ?_;have e22 : a (.tmp 22) = _ := Zc hin 15 rfl;refine Yq (f := 110) (args := #[.slice (some ⟨b, off, none⟩) n cap]) ?_ ((Ztb l _ w' (by have := HL.out; omega) (Z0 hb0 hg)).mono ?_)
   ·clear hin hg;go_simp;all_goals go_arith
   ·rintro e w2 ⟨rfl, rfl⟩;exact ⟨_, rfl, Zj.refl _, rfl⟩
  ·refine Zl 2 true rfl (fun a w' hin => Zm hin 2 (by kernel_rfl)) fun a w' ek ef hg hin => ?_;have e19 : a (.tmp 19) = _ := Zc hin 12 rfl;have e23 : a (.tmp 23) = _ := Zc hin 16 rfl;refine Zi ?_ rfl;clear hin hg;go_simp;all_goals go_arith
  ·refine Za rfl fun a w' ek ef hg hin => ?_;have ec : a (.tmp 9) = _ := Zc hin 2 rfl;have e : a (.tmp 24) = _ := Zc hin 17 rfl;exact Y3 rfl ec e
  ·refine Za rfl fun a w' ek ef hg hin => ?_;have e : a (.tmp 25) = _ := Zc hin 18 rfl;exact Yk rfl e
 ·intro vs w' hg ht;obtain ⟨q7, q8, q9, q10, q11, q12, q13, q14, q15, q16, q17, q18, q19, q20, q21, q22, q23, q24, q25, q2, -⟩ := ht;have r7 : vs 0 = .int .i64 n := q7;have r8 : vs 1 = .bool true := q8;have r9 : vs 2 = .bool true := q9;have r10 : vs 3 = .slice (some ⟨b, off, none⟩) (n + 2) cap := q10;have r11 : vs 4 = .int .i64 n := q11;have r12 : vs 5 = .pointer (some ⟨b, off + n, none⟩) := q12;have r13 : vs 6 = .int .u8 (x.toNat : Int) := q13;have r14 : vs 7 = .slice (some ⟨b, off, none⟩) (n + 2) cap := q14;have r15 : vs 8 = .int .i64 n := q15;have r16 : vs 9 = .int .i64 ((n : Int) + 1) := q16;have r17 : vs 10 = .pointer (some ⟨b, off + (n + 1), none⟩) := q17;have r18 : vs 11 = .int .u8 (y.toNat : Int) := q18;have r19 : vs 12 = .int .i64 ((x.toNat : Int) * 256 + (y.toNat : Int)) := q19;have r20 : vs 13 = .slice (some ⟨b, off, none⟩) (n + 2) cap := q20;have r21 : vs 14 = .int .i64 n := q21;have r22 : vs 15 = .slice (some ⟨b, off, none⟩) n cap := q22;have r23 : vs 16 = .int .i64 (Xe l) := q23;have r24 : vs 17 = .bool ((x.toNat : Int) * 256 + (y.toNat : Int) == Xe l) := q24;have r25 : vs 18 = .bool ((x.toNat : Int) * 256 + (y.toNat : Int) == Xe l) := q25;have r2 : vs 19 = .bool ((x.toNat : Int) * 256 + (y.toNat : Int) == Xe l) := q2;clear q7 q8 q9 q10 q11 q12 q13 q14 q15 q16 q17 q18 q19 q20 q21 q22 q23 q24 q25 q2
  simp only [Z9, Act.put, List.setIfInBounds_toArray, List.set_cons_zero, List.set_cons_succ, r7, r8, r9, r10, r11, r12, r13, r14, r15, r16, r17, r18, r19, r20, r21, r22, r23, r24, r25, r2];clear r7 r8 r9 r10 r11 r12 r13 r14 r15 r16 r17 r18 r19 r20 r21 r22 r23 r24 r25 r2;go_wp2;go_ret;exact ⟨rfl, hg⟩
theorem Zip (l : List UInt8) (v : Value) (w : World) (hm : l.length ≤ 140737488355328) (h : Bytes w v l) :
  Calls Tryz.prog 177 #[v] w fun e w' => e = .returned (.bool (Xw l)) ∧ Zj w w' := by
 by_cases hs : l.length < 2
 ·have e : Xw l = false := by simp [Xw]; omega
  rw [e];rcases h with ⟨ao, cap, rfl, rfl, h0⟩ | ⟨b, off, cap, rfl, hcap, hc⟩
  ·exact Za3 [] ao cap w hs
  ·exact Za3 l _ cap w hs
 ·rcases h with ⟨ao, cap, rfl, rfl, h0⟩ | ⟨b, off, cap, rfl, hcap, hc⟩
  ·simp at hs
  ·have hl : l.length = (l.length - 2) + 2 := by omega
   have e : Xw l = ((((l.getD (l.length - 2) 0).toNat : Int) * 256 + ((l.getD (l.length - 1) 0).toNat : Int)) == Xe (l.take (l.length - 2))) := by
    unfold Xw; rw [decide_eq_true (by omega : 2 ≤ l.length), Bool.true_and]
   rw [e, show (Value.slice (some ⟨b, off, none⟩) l.length cap) = .slice (some ⟨b, off, none⟩) ((l.length - 2) + 2) cap from by rw [← hl]];refine Zgn (l.take (l.length - 2)) _ _ b off cap (l.length - 2) w (by omega) (by omega) (by simp) (fun i hi => ?_) ?_ ?_
   ·rw [List.getElem_take]; exact hc i (by simp at hi; omega)
   ·have := hc (l.length - 2) (by omega);rw [this, List.getD_eq_getElem?_getD, List.getElem?_eq_getElem (by omega)]; rfl
   ·have := hc (l.length - 1) (by omega);rw [show l.length - 2 + 1 = l.length - 1 from by omega, this, List.getD_eq_getElem?_getD, List.getElem?_eq_getElem (by omega)]; rfl
def str (l : List UInt8) : Value := .string ⟨l.toArray⟩
theorem Zpj (l : List UInt8) : ∀ (s : ByteArray), (l.map (fun c => (c.toNat : Int))).foldl (fun r n => r.push (UInt8.ofNat n.toNat)) s = ⟨s.data ++ l.toArray⟩ := by
 induction l with
 | nil => intro s; simp
 | cons c l ih =>
  intro s;simp only [List.map_cons, List.foldl_cons];rw [ih];simp [ByteArray.push]
theorem Zih (w : World) (v : Value) (l : List UInt8) (h : Bytes w v l) : (convert 38 9 v).run Tryz.prog w = .ok (str l) w := by
 obtain ⟨ao, cap, rfl, hnone, hcells⟩ := Yt h;rw [run_convert_bytes_string w 38 9 5 ao l.length cap Tryz.underlying38 Tryz.underlying5 Tryz.underlying9];cases ao with
 | none =>
  obtain ⟨h1, _⟩ := hnone rfl;obtain rfl := List.eq_nil_of_length_eq_zero h1;rfl
 | some ad =>
  have h1 : (loadCells ad l.length).run Tryz.prog w = .ok ((l.map (fun c => (c.toNat : Int))).map (Value.int .u8)).toArray w := by
   have h2 := run_loadCells_list (P := Tryz.prog) (w := w) ad (l.map bv) (hcells ad rfl);simp only [List.length_map] at h2;rw [h2];simp [bv, Function.comp_def]
  rw [run_bytesToString w ad l.length cap _ h1, Zpj];simp [str]
theorem Zmi (l : List UInt8) (h : 2 ≤ l.length) : (Xs (l.take (l.length - 2)) == l) = Xw l := by
 have hs := Zcr (l.take (l.length - 2));have hl : l = l.take (l.length - 2) ++ [l[l.length - 2], l[l.length - 1]] := by
  conv => lhs; rw [← List.take_append_drop (l.length - 2) l]
  congr 1
  rw [List.drop_eq_getElem_cons (by omega), List.drop_eq_getElem_cons (by omega), List.drop_eq_nil_of_le (by omega)];simp [show l.length - 2 + 1 = l.length - 1 from by omega]
 have e1 : l.getD (l.length - 2) 0 = l[l.length - 2] := by rw [List.getD_eq_getElem?_getD, List.getElem?_eq_getElem (by omega)]; rfl
 have e2 : l.getD (l.length - 1) 0 = l[l.length - 1] := by rw [List.getD_eq_getElem?_getD, List.getElem?_eq_getElem (by omega)]; rfl
 unfold Xw;rw [decide_eq_true h, Bool.true_and, e1, e2, Bool.eq_iff_iff, beq_iff_eq, beq_iff_eq, Zb7 _ _ _ hs.1 (by omega)];unfold Xs;constructor
 ·intro h3;have h4 : l.take (l.length - 2) ++ [hi (Xe (l.take (l.length - 2))), lo (Xe (l.take (l.length - 2)))] = l.take (l.length - 2) ++ [l[l.length - 2], l[l.length - 1]] := h3.trans hl;have h5 := List.append_cancel_left h4;simp only [List.cons.injEq, and_true] at h5;exact h5
 ·rintro ⟨h3, h4⟩;rw [h3, h4];exact hl.symm
end Go.Proofs.YtgaecpdokgklpadGreatDoor
namespace Go.Proofs.YtgaecpdokgklpadGreatDoor
set_option maxRecDepth 100000
open Go.RowKit
open Plain Reg
theorem Zqu (l m : List UInt8) (v u : Value) (w : World) (hv : Bytes w v l) (hu : Bytes w u m) :
  Calls Tryz.prog 165 #[v, u] w fun e w' => e = .returned (.bool (l == m)) ∧ w = w' := by
 have h1 := Zih w _ _ hv;have h2 := Zih w _ _ hu;unfold str at h1 h2;clear hv hu;go_enter Tryz.func165, Tryz.ntmps165;go_wp2;go_ret;exact ⟨rfl, rfl⟩
theorem Zx (w : World) (o p : Obj) : Zj w ((w.alloc o).alloc p) := (Zd w o).trans (Zd _ p)
theorem Zjx (k y n k' y' n' : Int) (l m : List UInt8) (v u : Value) (w : World) (hv : Bytes w v l) (hu : Bytes w u m) :
  Calls Tryz.prog 138 #[.agg #[.int .i64 k, .int .i64 y, .int .i64 n, v], .agg #[.int .i64 k', .int .i64 y', .int .i64 n', u]] w fun e w' => e = .returned (.bool (Jb ⟨k, y, n, l⟩ ⟨k', y', n', m⟩)) ∧ Zj w w' := by
 go_enter Tryz.func138, Tryz.ntmps138;go_wp2_with (go_at_call 165; refine (Zqu l m v u _ (by exact Z0 hv (Zx _ _ _)) (by exact Z0 hu (Zx _ _ _))).mono ?_; rintro e w' ⟨rfl, rfl⟩);all_goals go_ret
 all_goals refine ⟨?_, Zx _ _ _⟩
 all_goals simp_all [Jb]
end Go.Proofs.YtgaecpdokgklpadGreatDoor
