import Derived.Test.YtpdnapbchcdhladGreatDoorProg
import Derived.Test.YtpdnapbchcdhladGreatDoorJReg
import Derived.WalkKit
import Derived.WalkSpells
import Derived.WalkLawsBesides
import Derived.Laws.BitsAllLaws
import Derived.Laws.AppendOwnNone
import Derived.Handy
set_option maxHeartbeats 8000000
namespace Go.Proofs.YtpdnapbchcdhladGreatDoor
set_option maxRecDepth 100000
open Go.RowKit
open Plain Reg
variable {a b : Int} {k : IntKind}
def Bytes (w : World) (v : Value) (l : List UInt8) : Prop :=
 (∃ ao cap, v = .slice ao 0 cap ∧ l = [] ∧ (ao = none → cap = 0)) ∨
 (∃ b off cap, v = .slice (some ⟨b, off, none⟩) l.length cap ∧ l.length ≤ cap ∧ ∀ (i : Nat) (h : i < l.length), w.cell? ⟨b, off + i, none⟩ = some (.int .u8 (l[i].toNat : Int)))
theorem Xd (h : a = b) : Ending.returned (.int k a) = .returned (.int k b) := by rw [h]
theorem Zpo (h : a = b) : Value.int k a = .int k b := by rw [h]
theorem Zz0 (l : List UInt8) (b off cap : Nat) (w : World) (hm : l.length ≤ 140737488355328)
  (hc : ∀ (i : Nat) (h : i < l.length), w.cell? ⟨b, off + i, none⟩ = some (.int .u8 (l[i].toNat : Int))) :
  Calls Tryz.prog 120 #[.slice (some ⟨b, off, none⟩) l.length cap] w fun e w' => e = .returned (.int .i64 (Xk l)) ∧ w = w' := by
 go_enter Tryz.func120, Tryz.ntmps120;go_wp2
 go_loop [3, 8] (fun n i => ∃ k : Nat, k ≤ l.length ∧ i = .int .i64 k ∧ n = .int .i64 (Xk (l.take k))) (fun _ i => l.length - (intOf i).toNat)
 case atStart => exact ⟨0, Nat.zero_le _, rfl, rfl⟩
 case round =>
  obtain ⟨k, hk, rfl, rfl⟩ := hrel;have hs := Zda (l.take k);by_cases hlt : k < l.length
  ·have hcell := hc k hlt;have hb : l[k].toNat < 256 := UInt8.toNat_lt _;have HS : Hid (Xk (l.take (k + 1)) = (Xk (l.take k) * 131 + (l[k].toNat : Int) + 1) % 65521) := by rw [J6 l k hlt]; exact Znt _ _
   clear hc;go_wp2
   go_round
   case rel => exact ⟨k + 1, by omega, by go_num, Zpo (by rw [HS.out])⟩
   case measure => simp [intOf]; omega
  ·go_wp2;go_ret;exact ⟨Xd (by rw [List.take_of_length_le (by omega)]), rfl⟩
theorem Zz1 (ao : Option Addr) (cap : Nat) (w : World) : Calls Tryz.prog 120 #[.slice ao 0 cap] w fun e w' => e = .returned (.int .i64 (Xk [])) ∧ w = w' := by
 go_enter Tryz.func120, Tryz.ntmps120;go_wp2
 go_loop [3, 8] (fun n i => n = .int .i64 3 ∧ i = .int .i64 0) (fun _ i => 0)
 case atStart => exact ⟨rfl, rfl⟩
 case round =>
  obtain ⟨rfl, rfl⟩ := hrel;go_wp2;go_ret;exact ⟨rfl, rfl⟩
theorem Zvm (l : List UInt8) (v : Value) (w : World) (hm : l.length ≤ 140737488355328) (h : Bytes w v l) :
  Calls Tryz.prog 120 #[v] w fun e w' => e = .returned (.int .i64 (Xk l)) ∧ w = w' := by
 rcases h with ⟨ao, cap, rfl, rfl, _⟩ | ⟨b, off, cap, rfl, _, hc⟩
 ·exact Zz1 ao cap w
 ·exact Zz0 l b off cap w hm hc
theorem Zpp (n : Int) (w : World) :
  Calls Tryz.prog 75 #[.int .i64 n] w fun e w' => e = .returned (.slice (some ⟨w.heap.size, 0, none⟩) 2 2) ∧ w' = w.alloc (.cells #[.int .u8 ((hi n).toNat : Int), .int .u8 ((lo n).toNat : Int)] 5) := by
 rw [Zow, J0];go_enter Tryz.func75, Tryz.ntmps75;go_wp2;go_ret;exact ⟨rfl, rfl⟩
theorem Zzy (a b : Nat) (ha : a < 256) (hb : b < 256) : bits .or .i64 ((a : Int) * 256) (b : Int) = (a : Int) * 256 + (b : Int) := by
 have hx : a * 256 ||| b = a * 256 + b := nat_join 8 (a * 256) b (by omega) (by omega);have e1 : (BitVec.ofInt 64 ((a * 256 : Nat) : Int)).toNat = a * 256 := by
  rw [BitVec.ofInt_natCast, BitVec.toNat_ofNat]; exact Nat.mod_eq_of_lt (by omega)
 have e2 : (BitVec.ofInt 64 (b : Int)).toNat = b := by
  rw [BitVec.ofInt_natCast, BitVec.toNat_ofNat]; exact Nat.mod_eq_of_lt (by omega)
 rw [show ((a : Int) * 256) = ((a * 256 : Nat) : Int) from by omega];show IntKind.i64.wrap ((BitVec.ofInt 64 ((a * 256 : Nat) : Int) ||| BitVec.ofInt 64 (b : Int)).toNat : Int) = _;rw [BitVec.toNat_or, e1, e2, hx, IntKind.wrap_i64];omega
theorem Zgd (a b : UInt8) (w : World) :
  Calls Tryz.prog 178 #[.int .u8 (a.toNat : Int), .int .u8 (b.toNat : Int)] w fun e w' => e = .returned (.int .i64 ((a.toNat : Int) * 256 + (b.toNat : Int))) ∧ w = w' := by
 have ha : a.toNat < 256 := UInt8.toNat_lt _;have hb : b.toNat < 256 := UInt8.toNat_lt _;go_enter Tryz.func178, Tryz.ntmps178;go_wp2;go_ret;exact ⟨Xd (Zzy _ _ ha hb), rfl⟩
end Go.Proofs.YtpdnapbchcdhladGreatDoor
namespace Go.Proofs.YtpdnapbchcdhladGreatDoor
set_option maxRecDepth 100000
open Go.RowKit
open Plain Reg
variable {l : List UInt8} {v : Value} {w w' w1 w2 : World}
def bv (c : UInt8) : Value := .int .u8 (c.toNat : Int)
theorem Zab : (Tryz.prog.info? 5).map (fun i => (i.zero, i.size, i.bytes)) = some (some (.int .u8 0), 1, 1) := by kernel_rfl
theorem Yt (h : Bytes w v l) :
  ∃ ao cap, v = .slice ao l.length cap ∧ (ao = none → l.length = 0 ∧ cap = 0) ∧ (∀ ad, ao = some ad → ∀ (j : Nat) u, (l.map bv)[j]? = some u → w.cell? (ad.add j) = some u) := by
 rcases h with ⟨ao, cap, rfl, rfl, h0⟩ | ⟨b, off, cap, rfl, _, hc⟩
 ·exact ⟨ao, cap, rfl, fun h => ⟨rfl, h0 h⟩, fun ad _ j u hj => by simp at hj⟩
 ·refine ⟨_, cap, rfl, fun h => (by cases h), fun ad had j u hj => ?_⟩;cases had;rw [List.getElem?_map] at hj;by_cases hl : j < l.length
  ·simp only [List.getElem?_eq_getElem hl, Option.map_some, bv, Option.some.injEq] at hj;subst hj;have e : (⟨b, off, none⟩ : Addr).add j = ⟨b, off + j, none⟩ := by simp [Addr.add]
   rw [e];exact hc j hl
  ·rw [List.getElem?_eq_none (by omega)] at hj; cases hj
theorem Zcy (l : List UInt8) : ∀ u ∈ l.map bv, u.oneCell' = true := by
 intro u hu;obtain ⟨c, _, rfl⟩ := List.mem_map.1 hu;rfl
theorem Yl {row : Option Nat} (h : Zj w w1) (hg : w1.grownBy w2 row) (hr : ∀ k, row = some k → w.heap.size ≤ k) : Zj w w2 :=
 Below.grown h hg h.size hr
theorem Zr {p : Addr} (h : w.cell? p = some v) : p.block < w.heap.size := by
 rcases Nat.lt_or_ge p.block w.heap.size with hl | hl
 ·exact hl
 ·simp [World.cell?, Array.getElem?_eq_none hl] at h
theorem Z2 (h : Bytes w v l) (hg : Zj w w') : Bytes w' v l := by
 rcases h with h | ⟨b, off, cap, rfl, h1, hc⟩
 ·exact .inl h
 ·refine .inr ⟨b, off, cap, rfl, h1, fun i hi => ?_⟩;have h2 := hc i hi;rw [← h2];exact Below.cell hg (Zr h2)
theorem Qn {base : Nat} {e : TypeId} {n : Nat} (h : w.ownsRow base e 1 v n (l.map bv)) : Bytes w v l := by
 have hl : l.length = n := by simpa using h.1
 subst hl;rcases h.2 with ⟨rfl, h0⟩ | ⟨g, cap, cur, rfl, hb, hh, h1, h2, h3, h4⟩
 ·exact .inl ⟨none, 0, rfl, List.eq_nil_of_length_eq_zero h0, fun _ => rfl⟩
 ·refine .inr ⟨g, 0, cap, rfl, h1, fun i hi => ?_⟩;have := h.cellAt i (by omega);rw [Nat.zero_add, this];simp [hi, bv]
theorem Zn0 (l : List UInt8) : (Xu l).map bv = l.map bv ++ [.int .u8 ((hi (Xk l)).toNat : Int), .int .u8 ((lo (Xk l)).toNat : Int)] := by
 simp [Xu, bv]
theorem Zln (w : World) (x y : Value) (e : TypeId) (j : Nat) (u : Value) (h : [x, y][j]? = some u) : (w.alloc (.cells #[x, y] e)).cell? ((⟨w.heap.size, 0, none⟩ : Addr).add j) = some u := by
 match j, h with
 | 0, h => simp at h; subst h; simp [Addr.add]
 | 1, h => simp at h; subst h; simp [Addr.add]
 | j + 2, h => simp at h
theorem Ziv (hg : w.grownBy w1 none) : Zj w w1 := Yl (Zj.refl w) hg (fun k h => by cases h)
theorem Zl5 (h : Zj w w1) (hg : w1.grownBy w2 (some w.heap.size)) : Zj w w2 := Yl h hg (fun k e => by cases e; exact Nat.le_refl _)
theorem Zd (w : World) (o : Obj) : Zj w (w.alloc o) := Below.alloc (Below.refl _ _) (Nat.le_refl _) o
theorem Zuc {ao : Option Addr} (h : ∀ ad, ao = some ad → ∀ (j : Nat) u, (l.map bv)[j]? = some u → w.cell? (ad.add j) = some u) (hg : Zj w w') :
  ∀ ad, ao = some ad → ∀ (j : Nat) u, (l.map bv)[j]? = some u → w'.cell? (ad.add j) = some u := by
 intro ad ha j u hj;have h2 := h ad ha j u hj;rw [← h2];exact Below.cell hg (Zr h2)
theorem Zuh (l : List UInt8) (v : Value) (w : World) (hm : l.length ≤ 140737488355326) (h : Bytes w v l) :
  Calls Tryz.prog 76 #[v] w fun e w' => ∃ v', e = .returned v' ∧ w'.ownsRow w.heap.size 5 1 v' (l.length + 2) ((Xu l).map bv) ∧ Zj w w' := by
 rw [Zn0];obtain ⟨ao, cap, rfl, hnone, hcells⟩ := Yt h;obtain ⟨i0, hif, hz0, hz1, hz2⟩ := info_parts Zab;go_enter Tryz.func76, Tryz.ntmps76;go_wp2_with (first
  | (at_make; refine wpList_make_own _ rfl _ _ 38 rfl w.heap.size 5 i0 (.int .u8 0) 1 Tryz.underlying38 hif hz0 hz1 .i64 .i64 _ (l.length + 2) rfl rfl (by omega) (by rw [hz2]; omega) (by unfold maxLen; omega) (Nat.le_refl _) ?_; intro w1 hown1 hgrow1)
  | (at_builtin; refine wpList_append_fits_any _ rfl (.tmp 8) (.tmp 9) 38 rfl w.heap.size 5 i0 1 Tryz.underlying38 hif hz1 w.heap.size 0 (l.length + 2) [] rfl (by assumption) ao l.length cap (l.map bv) rfl (by simp) hnone (Zuc hcells (Ziv hgrow1)) (Zcy l) (by omega) ?_; intro w2 hown2 hgrow2))
 have g2 : Zj w w2 := Zl5 (Ziv hgrow1) hgrow2;have hb2 : Bytes w2 (.slice ao l.length cap) l := Z2 h g2;simp only [Nat.zero_add, List.nil_append] at hown2;refine (Zvm l _ _ (by omega) hb2).mono ?_;rintro e w' ⟨rfl, rfl⟩;clear hown1 hgrow1 hgrow2 hcells h hb2;go_wp2_with fail;refine (Zpp _ _).mono ?_;rintro e w' ⟨rfl, rfl⟩;go_wp2_with (at_builtin; refine wpList_append_fits_any _ rfl (.tmp 11) (.tmp 14) 38 rfl w.heap.size 5 i0 1 Tryz.underlying38 hif hz1 w.heap.size l.length (l.length + 2) (l.map bv) rfl (hown2.alloc _) (some ⟨w2.heap.size, 0, none⟩) 2 2 [.int .u8 ((hi (Xk l)).toNat : Int), .int .u8 ((lo (Xk l)).toNat : Int)] rfl rfl (fun h => by cases h) ?c1 ?c2 (Nat.le_refl _) ?_; rotate_right; intro w3 hown3 hgrow3)
 ·go_ret;exact ⟨_, rfl, hown3, Zl5 (g2.trans (Zd w2 _)) hgrow3⟩
 ·intro ad had j u hj;cases had;exact Zln w2 _ _ _ j u hj
 ·intro u hu;simp at hu;rcases hu with rfl | rfl <;> rfl
theorem Zrn (w : World) : (w.alloc (.cells #[] 5)).ownsRow w.heap.size 5 1 (.slice (some ⟨w.heap.size, 0, none⟩) 0 0) 0 [] :=
 ⟨rfl, .inr ⟨w.heap.size, 0, #[], rfl, Nat.le_refl _, by show (w.heap.push _)[w.heap.size]? = _; simp, Nat.le_refl _, by unfold maxLen; omega, rfl, rfl⟩⟩
end Go.Proofs.YtpdnapbchcdhladGreatDoor
namespace Go.Proofs.YtpdnapbchcdhladGreatDoor
set_option maxRecDepth 100000
open Go.RowKit
open Plain Reg
theorem Zbf (l : List UInt8) (ao : Option Addr) (cap : Nat) (w : World) (hs : l.length < 2) :
  Calls Tryz.prog 192 #[.slice ao l.length cap] w fun e w' => e = .returned (.bool false) ∧ Zj w w' := by
 have hd : decide ((0 : Int) ≤ (l.length : Int) - 2) = false := by simp; omega
 go_enter Tryz.func192, Tryz.ntmps192;go_wp2;refine Zz [ex (.int .i64 ((l.length : Int) - 2)), ex (.bool false), ex (.bool false), ex (undef), ex (undef), ex (undef), ex (undef), ex (undef), ex (undef), ex (undef), ex (undef), ex (undef), ex (undef), ex (undef), ex (undef), ex (undef), ex (undef), ex (undef), ex (.bool false), ex (.bool false)] (by kernel_rfl) (by kernel_rfl) ⟨Zg _, Zg _, Zg _, Zg _, Zg _, Zg _, Zg _, Zg _, Zg _, Zg _, Zg _, Zg _, Zg _, Zg _, Zg _, Zg _, Zg _, Zg _, Zg _, Zg _, trivial⟩ ?_ ?_
 ·refine ⟨?_, ?_, ?_, ?_, ?_, ?_, ?_, ?_, ?_, ?_, ?_, ?_, ?_, ?_, ?_, ?_, ?_, ?_, ?_, ?_, trivial⟩
  ·exact Zb rfl fun a _ _ _ _ A => Zm rfl (Zp A 3 rfl)
  ·refine Zb rfl fun a _ _ _ B A => ?_;have e7 : a (.tmp 7) = _ := Zc A 0 rfl;refine Zi ?_ rfl;clear A B;go_simp;all_goals go_arith
  ·exact Zb rfl fun a _ _ _ _ A => Zm rfl (Zc A 1 rfl)
  ·refine Zy 2 true rfl rfl rfl (fun _ => rfl)
  ·refine Zy 2 true rfl rfl rfl (fun _ => rfl)
  ·refine Zy 2 true rfl rfl rfl (fun _ => rfl)
  ·refine Zy 2 true rfl rfl rfl (fun _ => rfl)
  ·refine Zy 2 true rfl rfl rfl (fun _ => rfl)
  ·refine Zy 2 true rfl rfl rfl (fun _ => rfl)
  ·refine Zy 2 true rfl rfl rfl (fun _ => rfl)
  ·refine Zy 2 true rfl rfl rfl (fun _ => rfl)
  ·refine Zy 2 true rfl rfl rfl (fun _ => rfl)
  ·refine Zy 2 true rfl rfl rfl (fun _ => rfl)
  ·refine Zy 2 true rfl rfl rfl (fun _ => rfl)
  ·refine Zy 2 true rfl rfl rfl (fun _ => rfl)
  ·refine Zy 2 true rfl rfl rfl (fun _ => rfl)
  ·refine Zy 2 true rfl rfl rfl (fun _ => rfl)
  ·refine Zy 2 true rfl rfl rfl (fun _ => rfl)
  ·refine Zb rfl fun a _ B _ _ A => ?_;have ec : a (.tmp 9) = _ := Zc A 2 rfl;exact Y3 rfl ec (B _)
  ·exact Zb rfl fun a _ _ _ _ A => Yk rfl (Zc A 18 rfl)
 ·intro vs w' hg ht;obtain ⟨(r7 : vs 0 = _), (r8 : vs 1 = _), (r9 : vs 2 = _), (r10 : vs 3 = _), (r11 : vs 4 = _), (r12 : vs 5 = _), (r13 : vs 6 = _), (r14 : vs 7 = _), (r15 : vs 8 = _), (r16 : vs 9 = _), (r17 : vs 10 = _), (r18 : vs 11 = _), (r19 : vs 12 = _), (r20 : vs 13 = _), (r21 : vs 14 = _), (r22 : vs 15 = _), (r23 : vs 16 = _), (r24 : vs 17 = _), (r25 : vs 18 = _), (r2 : vs 19 = _), -⟩ := ht;simp only [Z8, Act.put, List.setIfInBounds_toArray, List.set_cons_zero, List.set_cons_succ, r7, r8, r9, r10, r11, r12, r13, r14, r15, r16, r17, r18, r19, r20, r21, r22, r23, r24, r25, r2];clear r7 r8 r9 r10 r11 r12 r13 r14 r15 r16 r17 r18 r19 r20 r21 r22 r23 r24 r25 r2;go_wp2;go_ret;exact ⟨rfl, hg⟩
theorem Zhj (l : List UInt8) (x y : UInt8) (b off cap n : Nat) (w : World) (hm : n ≤ 140737488355326) (hcap : n + 2 ≤ cap) (hl : l.length = n)
  (hc : ∀ (i : Nat) (h : i < l.length), w.cell? ⟨b, off + i, none⟩ = some (.int .u8 (l[i].toNat : Int)))
  (hx : w.cell? ⟨b, off + n, none⟩ = some (.int .u8 (x.toNat : Int))) (hy : w.cell? ⟨b, off + (n + 1), none⟩ = some (.int .u8 (y.toNat : Int))) :
  Calls Tryz.prog 192 #[.slice (some ⟨b, off, none⟩) (n + 2) cap] w fun e w' => e = .returned (.bool ((x.toNat : Int) * 256 + (y.toNat : Int) == Xk l)) ∧ Zj w w' := by
 have HL : Hid (l.length = n) := hl;clear hl;have hb0 : Bytes w (.slice (some ⟨b, off, none⟩) n cap) l := .inr ⟨b, off, cap, by rw [HL.out], by have := HL.out; omega, hc⟩;go_enter Tryz.func192, Tryz.ntmps192;go_wp2;refine Zz [ex (.int .i64 n), ex (.bool true), ex (.bool true), ex (.slice (some ⟨b, off, none⟩) (n + 2) cap), ex (.int .i64 n), ex (.pointer (some ⟨b, off + n, none⟩)), ex (.int .u8 (x.toNat : Int)), ex (.slice (some ⟨b, off, none⟩) (n + 2) cap), ex (.int .i64 n), ex (.int .i64 ((n : Int) + 1)), ex (.pointer (some ⟨b, off + (n + 1), none⟩)), ex (.int .u8 (y.toNat : Int)), ex (.int .i64 ((x.toNat : Int) * 256 + (y.toNat : Int))), ex (.slice (some ⟨b, off, none⟩) (n + 2) cap), ex (.int .i64 n), ex (.slice (some ⟨b, off, none⟩) n cap), ex (.int .i64 (Xk l)), ex (.bool ((x.toNat : Int) * 256 + (y.toNat : Int) == Xk l)), ex (.bool ((x.toNat : Int) * 256 + (y.toNat : Int) == Xk l)), ex (.bool ((x.toNat : Int) * 256 + (y.toNat : Int) == Xk l))] (by kernel_rfl) (by kernel_rfl) ⟨Zg _, Zg _, Zg _, Zg _, Zg _, Zg _, Zg _, Zg _, Zg _, Zg _, Zg _, Zg _, Zg _, Zg _, Zg _, Zg _, Zg _, Zg _, Zg _, Zg _, trivial⟩ ?_ ?_
 ·refine ⟨?_, ?_, ?_, ?_, ?_, ?_, ?_, ?_, ?_, ?_, ?_, ?_, ?_, ?_, ?_, ?_, ?_, ?_, ?_, ?_, trivial⟩
  ·exact Zb rfl fun a _ _ _ _ A => Zm rfl (Zp A 3 rfl)
  ·refine Zb rfl fun a _ _ _ B A => ?_;have e7 : a (.tmp 7) = _ := Zc A 0 rfl;refine Zi ?_ rfl;clear A B;go_simp;all_goals go_arith
  ·exact Zb rfl fun a _ _ _ _ A => Zm rfl (Zc A 1 rfl)
  ·exact Zl 2 true rfl rfl rfl fun a _ _ _ _ A => Zm rfl (Zp A 0 rfl)
  ·exact Zl 2 true rfl rfl rfl fun a _ _ _ _ A => Zm rfl (Zp A 3 rfl)
  ·refine Zl 2 true rfl rfl rfl fun a _ _ _ B A => ?_;have e10 : a (.tmp 10) = _ := Zc A 3 rfl;have e11 : a (.tmp 11) = _ := Zc A 4 rfl;refine Zi ?_ rfl;clear A B;go_simp;all_goals go_arith
  ·refine Zl 2 true rfl rfl rfl fun a B _ _ C A => ?_;have e12 : a (.tmp 12) = _ := Zc A 5 rfl;have h1 : B.cell? ⟨b, off + n, none⟩ = some (.int .u8 (x.toNat : Int)) := (Below.cell C (Zr hx)).trans hx;refine Zi ?_ rfl;clear A C;go_simp;all_goals go_arith
  ·exact Zl 2 true rfl rfl rfl fun a _ _ _ _ A => Zm rfl (Zp A 0 rfl)
  ·exact Zl 2 true rfl rfl rfl fun a _ _ _ _ A => Zm rfl (Zp A 3 rfl)
  ·refine Zl 2 true rfl rfl rfl fun a _ _ _ B A => ?_;have e15 : a (.tmp 15) = _ := Zc A 8 rfl;refine Zi ?_ rfl;clear A B;go_simp;all_goals go_arith
  ·refine Zl 2 true rfl rfl rfl fun a _ _ _ B A => ?_;have e14 : a (.tmp 14) = _ := Zc A 7 rfl;have e16 : a (.tmp 16) = _ := Zc A 9 rfl;refine Zi ?_ rfl;clear A B;go_simp;all_goals go_arith
  ·refine Zl 2 true rfl rfl rfl fun a B _ _ C A => ?_;have e17 : a (.tmp 17) = _ := Zc A 10 rfl;have h1 : B.cell? ⟨b, off + (n + 1), none⟩ = some (.int .u8 (y.toNat : Int)) := (Below.cell C (Zr hy)).trans hy;refine Zi ?_ rfl;clear A C;go_simp;all_goals go_arith
  ·refine Zl 2 true rfl rfl rfl fun a B _ _ C A => ?_;have e13 : a (.tmp 13) = _ := Zc A 6 rfl;have e18 : a (.tmp 18) = _ := Zc A 11 rfl;refine Yj (f := 178) (args := #[.int .u8 (x.toNat : Int), .int .u8 (y.toNat : Int)]) ?_ ((Zgd x y B).mono ?_)
   ·clear A C;go_simp;all_goals go_arith
   ·rintro e w2 ⟨rfl, rfl⟩;exact ⟨_, rfl, Zj.refl _, rfl⟩
  ·exact Zl 2 true rfl rfl rfl fun a _ _ _ _ A => Zm rfl (Zp A 0 rfl)
  ·exact Zl 2 true rfl rfl rfl fun a _ _ _ _ A => Zm rfl (Zp A 3 rfl)
  ·refine Zl 2 true rfl rfl rfl fun a _ _ _ B A => ?_;have e20 : a (.tmp 20) = _ := Zc A 13 rfl;have e21 : a (.tmp 21) = _ := Zc A 14 rfl;refine Zi ?_ rfl;clear A B;go_simp;all_goals go_arith
  ·refine Zl 2 true rfl rfl rfl fun a B _ _ C A => ?_;have e22 : a (.tmp 22) = _ := Zc A 15 rfl;refine Yj (f := 120) (args := #[.slice (some ⟨b, off, none⟩) n cap]) ?_ ((Zvm l _ B (by have := HL.out; omega) (Z2 hb0 C)).mono ?_)
   ·clear A C;go_simp;all_goals go_arith
   ·rintro e w2 ⟨rfl, rfl⟩;exact ⟨_, rfl, Zj.refl _, rfl⟩
  ·refine Zl 2 true rfl rfl rfl fun a _ _ _ B A => ?_;have e19 : a (.tmp 19) = _ := Zc A 12 rfl;have e23 : a (.tmp 23) = _ := Zc A 16 rfl;refine Zi ?_ rfl;clear A B;go_simp;all_goals go_arith
  ·refine Zb rfl fun a _ _ _ _ A => ?_;have ec : a (.tmp 9) = _ := Zc A 2 rfl;have e : a (.tmp 24) = _ := Zc A 17 rfl;exact Y3 rfl ec e
  ·exact Zb rfl fun a _ _ _ _ A => Yk rfl (Zc A 18 rfl)
 ·intro vs w' hg ht;obtain ⟨(r7 : vs 0 = _), (r8 : vs 1 = _), (r9 : vs 2 = _), (r10 : vs 3 = _), (r11 : vs 4 = _), (r12 : vs 5 = _), (r13 : vs 6 = _), (r14 : vs 7 = _), (r15 : vs 8 = _), (r16 : vs 9 = _), (r17 : vs 10 = _), (r18 : vs 11 = _), (r19 : vs 12 = _), (r20 : vs 13 = _), (r21 : vs 14 = _), (r22 : vs 15 = _), (r23 : vs 16 = _), (r24 : vs 17 = _), (r25 : vs 18 = _), (r2 : vs 19 = _), -⟩ := ht;simp only [Z8, Act.put, List.setIfInBounds_toArray, List.set_cons_zero, List.set_cons_succ, r7, r8, r9, r10, r11, r12, r13, r14, r15, r16, r17, r18, r19, r20, r21, r22, r23, r24, r25, r2];clear r7 r8 r9 r10 r11 r12 r13 r14 r15 r16 r17 r18 r19 r20 r21 r22 r23 r24 r25 r2;go_wp2;go_ret;exact ⟨rfl, hg⟩
theorem Zju (l : List UInt8) (v : Value) (w : World) (hm : l.length ≤ 140737488355328) (h : Bytes w v l) :
  Calls Tryz.prog 192 #[v] w fun e w' => e = .returned (.bool (X0 l)) ∧ Zj w w' := by
 by_cases hs : l.length < 2
 ·have e : X0 l = false := by simp [X0]; omega
  rw [e];rcases h with ⟨ao, cap, rfl, rfl, h0⟩ | ⟨b, off, cap, rfl, hcap, hc⟩
  ·exact Zbf [] ao cap w hs
  ·exact Zbf l _ cap w hs
 ·rcases h with ⟨ao, cap, rfl, rfl, h0⟩ | ⟨b, off, cap, rfl, hcap, hc⟩
  ·simp at hs
  ·have hl : l.length = (l.length - 2) + 2 := by omega
   have e : X0 l = ((((l.getD (l.length - 2) 0).toNat : Int) * 256 + ((l.getD (l.length - 1) 0).toNat : Int)) == Xk (l.take (l.length - 2))) := by
    unfold X0; rw [decide_eq_true (by omega : 2 ≤ l.length), Bool.true_and]
   rw [e, show (Value.slice (some ⟨b, off, none⟩) l.length cap) = .slice (some ⟨b, off, none⟩) ((l.length - 2) + 2) cap from by rw [← hl]];refine Zhj (l.take (l.length - 2)) _ _ b off cap (l.length - 2) w (by omega) (by omega) (by simp) (fun i hi => ?_) ?_ ?_
   ·rw [List.getElem_take]; exact hc i (by simp at hi; omega)
   ·have := hc (l.length - 2) (by omega);rw [this, List.getD_eq_getElem?_getD, List.getElem?_eq_getElem (by omega)]; rfl
   ·have := hc (l.length - 1) (by omega);rw [show l.length - 2 + 1 = l.length - 1 from by omega, this, List.getD_eq_getElem?_getD, List.getElem?_eq_getElem (by omega)]; rfl
def str (l : List UInt8) : Value := .string ⟨l.toArray⟩
theorem Zre (l : List UInt8) : ∀ (s : ByteArray), (l.map (fun c => (c.toNat : Int))).foldl (fun r n => r.push (UInt8.ofNat n.toNat)) s = ⟨s.data ++ l.toArray⟩ := by
 induction l with
 | nil => intro s; simp
 | cons c l ih =>
  intro s;simp only [List.map_cons, List.foldl_cons];rw [ih];simp [ByteArray.push]
theorem Zjn (w : World) (v : Value) (l : List UInt8) (h : Bytes w v l) : (convert 38 9 v).run Tryz.prog w = .ok (str l) w := by
 obtain ⟨ao, cap, rfl, hnone, hcells⟩ := Yt h;rw [run_convert_bytes_string w 38 9 5 ao l.length cap Tryz.underlying38 Tryz.underlying5 Tryz.underlying9];cases ao with
 | none =>
  obtain ⟨h1, _⟩ := hnone rfl;obtain rfl := List.eq_nil_of_length_eq_zero h1;rfl
 | some ad =>
  have h1 : (loadCells ad l.length).run Tryz.prog w = .ok ((l.map (fun c => (c.toNat : Int))).map (Value.int .u8)).toArray w := by
   have h2 := run_loadCells_list (P := Tryz.prog) (w := w) ad (l.map bv) (hcells ad rfl);simp only [List.length_map] at h2;rw [h2];simp [bv, Function.comp_def]
  rw [run_bytesToString w ad l.length cap _ h1, Zre];simp [str]
theorem Zn1 (l : List UInt8) (h : 2 ≤ l.length) : (Xu (l.take (l.length - 2)) == l) = X0 l := by
 have hs := Zda (l.take (l.length - 2));have hl : l = l.take (l.length - 2) ++ [l[l.length - 2], l[l.length - 1]] := by
  conv => lhs; rw [← List.take_append_drop (l.length - 2) l]
  congr 1
  rw [List.drop_eq_getElem_cons (by omega), List.drop_eq_getElem_cons (by omega), List.drop_eq_nil_of_le (by omega)];simp [show l.length - 2 + 1 = l.length - 1 from by omega]
 have e1 : l.getD (l.length - 2) 0 = l[l.length - 2] := by rw [List.getD_eq_getElem?_getD, List.getElem?_eq_getElem (by omega)]; rfl
 have e2 : l.getD (l.length - 1) 0 = l[l.length - 1] := by rw [List.getD_eq_getElem?_getD, List.getElem?_eq_getElem (by omega)]; rfl
 unfold X0;rw [decide_eq_true h, Bool.true_and, e1, e2, Bool.eq_iff_iff, beq_iff_eq, beq_iff_eq, Zck _ _ _ hs.1 (by omega)];unfold Xu;constructor
 ·intro h3;have h4 : l.take (l.length - 2) ++ [hi (Xk (l.take (l.length - 2))), lo (Xk (l.take (l.length - 2)))] = l.take (l.length - 2) ++ [l[l.length - 2], l[l.length - 1]] := h3.trans hl;have h5 := List.append_cancel_left h4;simp only [List.cons.injEq, and_true] at h5;exact h5
 ·rintro ⟨h3, h4⟩;rw [h3, h4];exact hl.symm
end Go.Proofs.YtpdnapbchcdhladGreatDoor
namespace Go.Proofs.YtpdnapbchcdhladGreatDoor
set_option maxRecDepth 100000
open Go.RowKit
open Plain Reg
theorem Zst (l m : List UInt8) (v u : Value) (w : World) (hv : Bytes w v l) (hu : Bytes w u m) :
  Calls Tryz.prog 180 #[v, u] w fun e w' => e = .returned (.bool (l == m)) ∧ w = w' := by
 have h1 := Zjn w _ _ hv;have h2 := Zjn w _ _ hu;unfold str at h1 h2;clear hv hu;go_enter Tryz.func180, Tryz.ntmps180;go_wp2;go_ret;exact ⟨rfl, rfl⟩
theorem Zx (w : World) (o p : Obj) : Zj w ((w.alloc o).alloc p) := (Zd w o).trans (Zd _ p)
theorem Zfz (k y n k' y' n' : Int) (l m : List UInt8) (v u : Value) (w : World) (hv : Bytes w v l) (hu : Bytes w u m) :
  Calls Tryz.prog 152 #[.agg #[.int .i64 k, .int .i64 y, .int .i64 n, v], .agg #[.int .i64 k', .int .i64 y', .int .i64 n', u]] w fun e w' => e = .returned (.bool (Kb ⟨k, y, n, l⟩ ⟨k', y', n', m⟩)) ∧ Zj w w' := by
 go_enter Tryz.func152, Tryz.ntmps152;go_wp2_with (go_at_call 180; refine (Zst l m v u _ (by exact Z2 hv (Zx _ _ _)) (by exact Z2 hu (Zx _ _ _))).mono ?_; rintro e w' ⟨rfl, rfl⟩);all_goals go_ret
 all_goals refine ⟨?_, Zx _ _ _⟩
 all_goals simp_all [Kb]
end Go.Proofs.YtpdnapbchcdhladGreatDoor
