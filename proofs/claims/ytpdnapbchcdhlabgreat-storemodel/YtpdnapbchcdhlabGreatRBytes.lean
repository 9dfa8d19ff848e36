import Derived.Test.YtpdnapbchcdhlabGreatWrong
set_option maxHeartbeats 8000000
namespace Go.Proofs.YtpdnapbchcdhlabGreat
set_option maxRecDepth 100000
open Go.RowKit
open Plain Reg
variable {W w : World} {c : UInt8} {g : Nat} {x : Value} {xs ys : List UInt8}
theorem Zzd (n : Int) (h0 : 0 ≤ n) (h1 : n < 65536) : bv (hi n) = .int .u8 (n / 256) := by unfold bv; rw [Zhb]; exact Zfl (by omega)
theorem Zyr (n : Int) : bv (lo n) = .int .u8 (n % 256) := by unfold bv; rw [K6]
def Zbn (g i : Nat) (c : UInt8) (w w' : World) : Prop := w' = w ∨ w' = w.setCell ⟨g, i, none⟩ (bv c)
theorem Xa {i j : Nat} {w' : World} (hij : i ≠ j) (h : Zbn g j c w w') (hq : w.cell? ⟨g, i, none⟩ = some x) : w'.cell? ⟨g, i, none⟩ = some x := by
 rcases h with rfl | rfl
 ·exact hq
 ·rw [World.cell?_setCell_other _ _ _ _ (by intro e; cases e; exact hij rfl)]; exact hq
theorem Zig (g i : Nat) (x : Value) : Xt (fun _ w => w.cell? ⟨g, i, none⟩ = some x) := fun _ _ _ hg h => (Below.cell hg (Zs h)).trans h
theorem Za0 {a : Addr} {u : Value} (h : w.cell? a = some u) : (w.setCell a x).cell? a = some x := World.cell?_setCell_same w a x h
def Zia (g : Nat) (W : World) (xs ys : List UInt8) (w : World) : Prop := Zt g W w ∧ ∃ zs, Qs w g zs ∧ zs.length = xs.length ∧ ∀ i : Nat, zs[i]? = xs[i]? ∨ zs[i]? = ys[i]?
theorem Zia.start (h : Qs W g xs) : Zia g W xs ys W.drew := ⟨(Zt.refl _ _).drew, xs, h, rfl, fun _ => .inl rfl⟩
theorem Zia.store (h : Zia g W xs ys w) (i : Nat) (hi : i < xs.length) (hc : ys[i]? = some c) :
  (∃ u : Int, w.cell? ⟨g, i, none⟩ = some (.int .u8 u)) ∧ w.frozen? ⟨g, i, none⟩ = false ∧ Zia g W xs ys (w.setCell ⟨g, i, none⟩ (bv c)) := by
 obtain ⟨zs, h1, h2, h3⟩ := h.2;refine ⟨⟨_, h1.cell i (by omega)⟩, h1.frozen i, h.1.set _ _ _, zs.set i c, h1.set i c, by simp [h2], fun j => ?_⟩;by_cases hj : i = j
 ·subst hj;right;rw [List.getElem?_set_self (by omega), hc]
 ·rw [List.getElem?_set_ne hj];exact h3 j
theorem Zia.done (h : Zia g W xs ys w) (hl : ys.length = xs.length) (hd : ∀ (i : Nat) (hi : i < ys.length), xs[i]? ≠ ys[i]? → w.cell? ⟨g, i, none⟩ = some (bv ys[i])) : Qs w g ys := by
 obtain ⟨_, zs, h1, h2, h3⟩ := h;have e : zs = ys := by
  refine List.ext_getElem? fun i => ?_;by_cases hi : i < ys.length
  ·by_cases hx : xs[i]? = ys[i]?
   ·rcases h3 i with h | h
    ·rw [h, hx]
    ·exact h
   ·have h4 := hd i hi hx;rw [h1.cell i (by omega)] at h4;have h5 : zs[i].toNat = ys[i].toNat := by
     have h6 : (zs[i].toNat : Int) = (ys[i].toNat : Int) := by simpa [bv] using h4
     omega
    rw [List.getElem?_eq_getElem (by omega), List.getElem?_eq_getElem hi, UInt8.toNat_inj.1 h5]
  ·rw [List.getElem?_eq_none (by omega), List.getElem?_eq_none (by omega)]
 rw [← e]; exact h1
def head (k y n at_ : Int) (l : List UInt8) : List UInt8 := [lo k, lo at_, lo y, hi n, lo n, lo (l.length : Int)] ++ List.replicate 8 0
def Zc1 (k y n at_ : Int) (l : List UInt8) (j : Nat) : List UInt8 := [lo k, lo at_, lo y, hi n, lo n, lo (l.length : Int)] ++ (l.take j ++ List.replicate (8 - j) 0)
theorem Znt (k y n at_ : Int) (l : List UInt8) : Zc1 k y n at_ l 0 = head k y n at_ l := rfl
theorem Znv (k y n at_ : Int) (l : List UInt8) : Zc1 k y n at_ l l.length = Za1 ⟨k, y, n, l⟩ at_ := by simp [Zc1, Za1]
theorem Zjs (k y n at_ : Int) (l : List UInt8) (j : Nat) (hj : j ≤ l.length) (hl : l.length ≤ 8) : (Zc1 k y n at_ l j).length = 14 := by simp [Zc1]; omega
theorem Znu (k y n at_ : Int) (l : List UInt8) (j : Nat) (hj : j < l.length) (hl : l.length ≤ 8) : (Zc1 k y n at_ l j).set (6 + j) l[j] = Zc1 k y n at_ l (j + 1) := by
 unfold Zc1;have e : 8 - j = (8 - (j + 1)) + 1 := by omega
 have e2 : 6 + j - [lo k, lo at_, lo y, hi n, lo n, lo (l.length : Int)].length - (l.take j).length = 0 := by simp; omega
 rw [List.take_succ_eq_append_getElem hj, List.set_append_right _ _ (by simp), List.set_append_right _ _ (by simp; omega), e2, e, List.replicate_succ, List.set_cons_zero, List.append_assoc (l.take j)];rfl
theorem Zem (k y n at_ : Int) (l : List UInt8) (v : Value) (w : World) (hv : Bytes w v l) (hr : Yd ⟨k, y, n, l⟩ = 0) (h0 : 0 ≤ at_) (h1 : at_ ≤ 255) :
  Calls Tryz.prog 58 #[.agg #[.int .i64 k, .int .i64 y, .int .i64 n, v], .int .i64 at_] w fun e w' => ∃ v', e = .returned v' ∧ w'.ownsRow w.heap.size 5 1 v' 16 ((blk ⟨k, y, n, l⟩ at_).map bv) ∧ Zo w w' := by
 obtain ⟨hk0, hk1, hy0, hy1, hn0, hn1, hl⟩ := Va hr;clear hr;simp only at hk0 hk1 hy0 hy1 hn0 hn1 hl;obtain ⟨ao, cap, rfl, hnone, hcells⟩ := Yh hv;have mk := Zuk;go_enter Tryz.func58, Tryz.ntmps58;go_wp2_with fail;clear mk;have hrow := Qs.alloc (w.alloc (.cells #[.int .i64 k, .int .i64 y, .int .i64 n, .slice ao l.length cap] 51)) (List.replicate 14 0);have eR : ((List.replicate 14 (0 : UInt8)).map bv).toArray = #[.int .u8 0, .int .u8 0, .int .u8 0, .int .u8 0, .int .u8 0, .int .u8 0, .int .u8 0, .int .u8 0, .int .u8 0, .int .u8 0, .int .u8 0, .int .u8 0, .int .u8 0, .int .u8 0] := by kernel_rfl
 rw [eR] at hrow;clear eR;have c0 : ((w.alloc (.cells #[.int .i64 k, .int .i64 y, .int .i64 n, .slice ao l.length cap] 51)).alloc (.cells #[.int .u8 0, .int .u8 0, .int .u8 0, .int .u8 0, .int .u8 0, .int .u8 0, .int .u8 0, .int .u8 0, .int .u8 0, .int .u8 0, .int .u8 0, .int .u8 0, .int .u8 0, .int .u8 0] 5)).cell? ⟨w.heap.size, 0, none⟩ = some (.int .i64 k) := by
  rw [World.cell?_alloc_past _ _ _ (by simp)]; simp
 have c1 : ((w.alloc (.cells #[.int .i64 k, .int .i64 y, .int .i64 n, .slice ao l.length cap] 51)).alloc (.cells #[.int .u8 0, .int .u8 0, .int .u8 0, .int .u8 0, .int .u8 0, .int .u8 0, .int .u8 0, .int .u8 0, .int .u8 0, .int .u8 0, .int .u8 0, .int .u8 0, .int .u8 0, .int .u8 0] 5)).cell? ⟨w.heap.size, 1, none⟩ = some (.int .i64 y) := by
  rw [World.cell?_alloc_past _ _ _ (by simp)]; simp
 have c2 : ((w.alloc (.cells #[.int .i64 k, .int .i64 y, .int .i64 n, .slice ao l.length cap] 51)).alloc (.cells #[.int .u8 0, .int .u8 0, .int .u8 0, .int .u8 0, .int .u8 0, .int .u8 0, .int .u8 0, .int .u8 0, .int .u8 0, .int .u8 0, .int .u8 0, .int .u8 0, .int .u8 0, .int .u8 0] 5)).cell? ⟨w.heap.size, 2, none⟩ = some (.int .i64 n) := by
  rw [World.cell?_alloc_past _ _ _ (by simp)]; simp
 have c3 : ((w.alloc (.cells #[.int .i64 k, .int .i64 y, .int .i64 n, .slice ao l.length cap] 51)).alloc (.cells #[.int .u8 0, .int .u8 0, .int .u8 0, .int .u8 0, .int .u8 0, .int .u8 0, .int .u8 0, .int .u8 0, .int .u8 0, .int .u8 0, .int .u8 0, .int .u8 0, .int .u8 0, .int .u8 0] 5)).cell? ⟨w.heap.size, 3, none⟩ = some (.slice ao l.length cap) := by
  rw [World.cell?_alloc_past _ _ _ (by simp)]; simp
 have gW := Zu w (.cells #[.int .i64 k, .int .i64 y, .int .i64 n, .slice ao l.length cap] 51) (.cells #[.int .u8 0, .int .u8 0, .int .u8 0, .int .u8 0, .int .u8 0, .int .u8 0, .int .u8 0, .int .u8 0, .int .u8 0, .int .u8 0, .int .u8 0, .int .u8 0, .int .u8 0, .int .u8 0] 5);simp only [World.size_alloc] at hrow;have hbW := Z0 hv gW;generalize World.alloc (World.alloc w _) _ = W at hrow gW c0 c1 c2 c3 hbW ⊢;have hz : w.heap.size < w.heap.size + 1 := by omega
 generalize w.heap.size + 1 = g at hrow hz ⊢;clear hcells
 refine Qb [px (.slice (some ⟨g, 0, none⟩) 14 14), px (.slice (some ⟨g, 0, none⟩) 14 14), px (.slice (some ⟨g, 0, none⟩) 14 14), px (.slice (some ⟨g, 0, none⟩) 14 14), px (.slice (some ⟨g, 0, none⟩) 14 14), px (.slice (some ⟨g, 0, none⟩) 14 14), px (.pointer (some ⟨w.heap.size, 0, none⟩)), px (.int .i64 k), px (.int .u8 k), px (.int .i64 at_), px (.int .u8 at_), px (.pointer (some ⟨w.heap.size, 1, none⟩)), px (.int .i64 y), px (.int .u8 y), px (.pointer (some ⟨w.heap.size, 2, none⟩)), px (.int .i64 n), px (.int .i64 (n / 256)), px (.int .u8 (n / 256)), px (.pointer (some ⟨w.heap.size, 2, none⟩)), px (.int .i64 n), px (.int .i64 (n % 256)), px (.int .u8 (n % 256)), px (.pointer (some ⟨w.heap.size, 3, none⟩)), px (.slice ao l.length cap), px (.int .i64 l.length), px (.int .u8 l.length), px (.pointer (some ⟨g, 0, none⟩)), pl ((fun _ w => w.cell? ⟨g, 0, none⟩ = some (bv (lo k)))), px (.pointer (some ⟨g, 1, none⟩)), pl ((fun _ w => w.cell? ⟨g, 1, none⟩ = some (bv (lo at_)))), px (.pointer (some ⟨g, 2, none⟩)), pl ((fun _ w => w.cell? ⟨g, 2, none⟩ = some (bv (lo y)))), px (.pointer (some ⟨g, 3, none⟩)), pl ((fun _ w => w.cell? ⟨g, 3, none⟩ = some (bv (hi n)))), px (.pointer (some ⟨g, 4, none⟩)), pl ((fun _ w => w.cell? ⟨g, 4, none⟩ = some (bv (lo n)))), px (.pointer (some ⟨g, 5, none⟩)), pl ((fun _ w => w.cell? ⟨g, 5, none⟩ = some (bv (lo (l.length : Int)))))] [none, none, none, none, none, none, none, none, none, none, none, none, none, none, none, none, none, none, none, none, none, none, none, none, none, none, none, some ((Zbn g 0 (lo k))), none, some ((Zbn g 1 (lo at_))), none, some ((Zbn g 2 (lo y))), none, some ((Zbn g 3 (hi n))), none, some ((Zbn g 4 (lo n))), none, some ((Zbn g 5 (lo (l.length : Int))))] (Zia g W (List.replicate 14 0) (head k y n at_ l)) (by kernel_rfl) (by kernel_rfl) ⟨se, se, se, se, se, se, se, se, se, se, se, se, se, se, se, se, se, se, se, se, se, se, se, se, se, se, se, Yo (Zig g 0 _), se, Yo (Zig g 1 _), se, Yo (Zig g 2 _), se, Yo (Zig g 3 _), se, Yo (Zig g 4 _), se, Yo (Zig g 5 _), trivial⟩ ⟨⟨(fun w => .inl rfl), ⟨x5, x5, x5, x5, x5, x5, x5, x5, x5, x5, x5, x5, x5, x5, x5, x5, x5, x5, x5, x5, x5, x5, x5, x5, x5, x5, x5, .inl (by kernel_rfl), .inl (by kernel_rfl), .inl (by kernel_rfl), .inl (by kernel_rfl), .inl (by kernel_rfl), .inl (by kernel_rfl), .inl (by kernel_rfl), .inl (by kernel_rfl), .inl (by kernel_rfl), .inl (by kernel_rfl), .inl (by kernel_rfl), trivial⟩⟩, ⟨(fun w => .inl rfl), ⟨x5, x5, x5, x5, x5, x5, x5, x5, x5, x5, x5, x5, x5, x5, x5, x5, x5, x5, x5, x5, x5, x5, x5, x5, x5, x5, x5, .inr ((fun _ _ _ _ hs hq => Xa (by decide) hs hq)), x5, .inl (by kernel_rfl), .inl (by kernel_rfl), .inl (by kernel_rfl), .inl (by kernel_rfl), .inl (by kernel_rfl), .inl (by kernel_rfl), .inl (by kernel_rfl), .inl (by kernel_rfl), .inl (by kernel_rfl), trivial⟩⟩, ⟨(fun w => .inl rfl), ⟨x5, x5, x5, x5, x5, x5, x5, x5, x5, x5, x5, x5, x5, x5, x5, x5, x5, x5, x5, x5, x5, x5, x5, x5, x5, x5, x5, .inr ((fun _ _ _ _ hs hq => Xa (by decide) hs hq)), x5, .inr ((fun _ _ _ _ hs hq => Xa (by decide) hs hq)), x5, .inl (by kernel_rfl), .inl (by kernel_rfl), .inl (by kernel_rfl), .inl (by kernel_rfl), .inl (by kernel_rfl), .inl (by kernel_rfl), .inl (by kernel_rfl), trivial⟩⟩, ⟨(fun w => .inl rfl), ⟨x5, x5, x5, x5, x5, x5, x5, x5, x5, x5, x5, x5, x5, x5, x5, x5, x5, x5, x5, x5, x5, x5, x5, x5, x5, x5, x5, .inr ((fun _ _ _ _ hs hq => Xa (by decide) hs hq)), x5, .inr ((fun _ _ _ _ hs hq => Xa (by decide) hs hq)), x5, .inr ((fun _ _ _ _ hs hq => Xa (by decide) hs hq)), x5, .inl (by kernel_rfl), .inl (by kernel_rfl), .inl (by kernel_rfl), .inl (by kernel_rfl), .inl (by kernel_rfl), trivial⟩⟩, ⟨(fun w => .inl rfl), ⟨x5, x5, x5, x5, x5, x5, x5, x5, x5, x5, x5, x5, x5, x5, x5, x5, x5, x5, x5, x5, x5, x5, x5, x5, x5, x5, x5, .inr ((fun _ _ _ _ hs hq => Xa (by decide) hs hq)), x5, .inr ((fun _ _ _ _ hs hq => Xa (by decide) hs hq)), x5, .inr ((fun _ _ _ _ hs hq => Xa (by decide) hs hq)), x5, .inr ((fun _ _ _ _ hs hq => Xa (by decide) hs hq)), x5, .inl (by kernel_rfl), .inl (by kernel_rfl), .inl (by kernel_rfl), trivial⟩⟩, ⟨(fun w => .inl rfl), ⟨x5, x5, x5, x5, x5, x5, x5, x5, x5, x5, x5, x5, x5, x5, x5, x5, x5, x5, x5, x5, x5, x5, x5, x5, x5, x5, x5, .inr ((fun _ _ _ _ hs hq => Xa (by decide) hs hq)), x5, .inr ((fun _ _ _ _ hs hq => Xa (by decide) hs hq)), x5, .inr ((fun _ _ _ _ hs hq => Xa (by decide) hs hq)), x5, .inr ((fun _ _ _ _ hs hq => Xa (by decide) hs hq)), x5, .inr ((fun _ _ _ _ hs hq => Xa (by decide) hs hq)), x5, .inl (by kernel_rfl), trivial⟩⟩, trivial⟩ ⟨n5, n5, n5, n5, n5, n5, n5, n5, n5, n5, n5, n5, n5, n5, n5, n5, n5, n5, n5, n5, n5, n5, n5, n5, n5, n5, n5, fun _ _ _ _ h => h, n5, fun _ _ _ _ h => h, n5, fun _ _ _ _ h => h, n5, fun _ _ _ _ h => h, n5, fun _ _ _ _ h => h, n5, fun _ _ _ _ h => h, trivial⟩ (Zia.start hrow) ?_ ?_
 ·refine ⟨?_, ?_, ?_, ?_, ?_, ?_, ?_, ?_, ?_, ?_, ?_, ?_, ?_, ?_, ?_, ?_, ?_, ?_, ?_, ?_, ?_, ?_, ?_, ?_, ?_, ?_, ?_, ?_, ?_, ?_, ?_, ?_, ?_, ?_, ?_, ?_, ?_, ?_, trivial⟩
  ·exact Zl rfl fun a _ _ _ B A => Z9 rfl B (Zp A 5 rfl)
  ·exact Zl rfl fun a _ _ _ B A => Z9 rfl B (Zp A 5 rfl)
  ·exact Zl rfl fun a _ _ _ B A => Z9 rfl B (Zp A 5 rfl)
  ·exact Zl rfl fun a _ _ _ B A => Z9 rfl B (Zp A 5 rfl)
  ·exact Zl rfl fun a _ _ _ B A => Z9 rfl B (Zp A 5 rfl)
  ·exact Zl rfl fun a _ _ _ B A => Z9 rfl B (Zp A 5 rfl)
  ·refine Zl rfl fun a _ _ _ B A => ?_;have e2 : a (.tmp 2) = .pointer (some ⟨w.heap.size, 0, none⟩) := Zp A 2 rfl;refine Zk ?_ B rfl;clear A B;go_simp;all_goals go_arith
  ·refine Zl rfl fun a _ _ _ B A => ?_;have e15 : a (.tmp 15) = _ := Zh A 6 rfl;have h1 := (B.1.cell (p := ⟨w.heap.size, 0, none⟩) (Zs c0) (by show w.heap.size ≠ g; omega)).trans c0;refine Zk ?_ B rfl;clear A B;go_simp;all_goals go_arith
  ·refine Zl rfl fun a _ _ _ B A => ?_;have e16 : a (.tmp 16) = _ := Zh A 7 rfl;refine Zk ?_ B rfl;clear A B;go_simp;all_goals go_arith
  ·exact Zl rfl fun a _ _ _ B A => Z9 rfl B (Zp A 1 rfl)
  ·refine Zl rfl fun a _ _ _ B A => ?_;have e18 : a (.tmp 18) = _ := Zh A 9 rfl;refine Zk ?_ B rfl;clear A B;go_simp;all_goals go_arith
  ·refine Zl rfl fun a _ _ _ B A => ?_;have e2 : a (.tmp 2) = .pointer (some ⟨w.heap.size, 0, none⟩) := Zp A 2 rfl;refine Zk ?_ B rfl;clear A B;go_simp;all_goals go_arith
  ·refine Zl rfl fun a _ _ _ B A => ?_;have e20 : a (.tmp 20) = _ := Zh A 11 rfl;have h1 := (B.1.cell (p := ⟨w.heap.size, 1, none⟩) (Zs c1) (by show w.heap.size ≠ g; omega)).trans c1;refine Zk ?_ B rfl;clear A B;go_simp;all_goals go_arith
  ·refine Zl rfl fun a _ _ _ B A => ?_;have e21 : a (.tmp 21) = _ := Zh A 12 rfl;refine Zk ?_ B rfl;clear A B;go_simp;all_goals go_arith
  ·refine Zl rfl fun a _ _ _ B A => ?_;have e2 : a (.tmp 2) = .pointer (some ⟨w.heap.size, 0, none⟩) := Zp A 2 rfl;refine Zk ?_ B rfl;clear A B;go_simp;all_goals go_arith
  ·refine Zl rfl fun a _ _ _ B A => ?_;have e23 : a (.tmp 23) = _ := Zh A 14 rfl;have h1 := (B.1.cell (p := ⟨w.heap.size, 2, none⟩) (Zs c2) (by show w.heap.size ≠ g; omega)).trans c2;refine Zk ?_ B rfl;clear A B;go_simp;all_goals go_arith
  ·refine Zl rfl fun a _ _ _ B A => ?_;have e24 : a (.tmp 24) = _ := Zh A 15 rfl;have hd : n.tdiv 256 = n / 256 := Int.tdiv_eq_ediv_of_nonneg hn0;refine Zk ?_ B rfl;clear A B;go_simp;all_goals go_arith
  ·refine Zl rfl fun a _ _ _ B A => ?_;have e25 : a (.tmp 25) = _ := Zh A 16 rfl;refine Zk ?_ B rfl;clear A B;go_simp;all_goals go_arith
  ·refine Zl rfl fun a _ _ _ B A => ?_;have e2 : a (.tmp 2) = .pointer (some ⟨w.heap.size, 0, none⟩) := Zp A 2 rfl;refine Zk ?_ B rfl;clear A B;go_simp;all_goals go_arith
  ·refine Zl rfl fun a _ _ _ B A => ?_;have e27 : a (.tmp 27) = _ := Zh A 18 rfl;have h1 := (B.1.cell (p := ⟨w.heap.size, 2, none⟩) (Zs c2) (by show w.heap.size ≠ g; omega)).trans c2;refine Zk ?_ B rfl;clear A B;go_simp;all_goals go_arith
  ·refine Zl rfl fun a _ _ _ B A => ?_;have e28 : a (.tmp 28) = _ := Zh A 19 rfl;have hd : n.tmod 256 = n % 256 := Int.tmod_eq_emod_of_nonneg hn0;refine Zk ?_ B rfl;clear A B;go_simp;all_goals go_arith
  ·refine Zl rfl fun a _ _ _ B A => ?_;have e29 : a (.tmp 29) = _ := Zh A 20 rfl;refine Zk ?_ B rfl;clear A B;go_simp;all_goals go_arith
  ·refine Zl rfl fun a _ _ _ B A => ?_;have e2 : a (.tmp 2) = .pointer (some ⟨w.heap.size, 0, none⟩) := Zp A 2 rfl;refine Zk ?_ B rfl;clear A B;go_simp;all_goals go_arith
  ·refine Zl rfl fun a _ _ _ B A => ?_;have e31 : a (.tmp 31) = _ := Zh A 22 rfl;have h1 := (B.1.cell (p := ⟨w.heap.size, 3, none⟩) (Zs c3) (by show w.heap.size ≠ g; omega)).trans c3;refine Zk ?_ B rfl;clear A B;go_simp;all_goals go_arith
  ·refine Zl rfl fun a _ _ _ B A => ?_;have e32 : a (.tmp 32) = _ := Zh A 23 rfl;refine Zk ?_ B rfl;clear A B;go_simp;all_goals go_arith
  ·refine Zl rfl fun a _ _ _ B A => ?_;have e33 : a (.tmp 33) = _ := Zh A 24 rfl;refine Zk ?_ B rfl;clear A B;go_simp;all_goals go_arith
  ·refine Zl rfl fun a _ _ _ B A => ?_;have e9 : a (.tmp 9) = _ := Zh A 0 rfl;refine Zk ?_ B rfl;clear A B;go_simp;all_goals go_arith
  ·refine Zl rfl fun a w' _ _ B A => ?_;have e35 : a (.tmp 35) = _ := Zh A 26 rfl;have e17 : a (.tmp 17) = _ := Zh A 8 rfl;obtain ⟨⟨u, h1⟩, h2, h3⟩ := B.store 0 (by simp) rfl;refine Yn (w' := w'.setCell ⟨g, 0, none⟩ (bv (lo k))) ?_ (.inr rfl) h3 (Za0 h1);have e1 : bv (lo k) = a (.tmp 17) := by rw [e17]; exact Zho _ (by omega) (by omega)
   rw [e1];clear e1 A B h3;go_simp;all_goals go_arith
  ·refine Zl rfl fun a _ _ _ B A => ?_;have e10 : a (.tmp 10) = _ := Zh A 1 rfl;refine Zk ?_ B rfl;clear A B;go_simp;all_goals go_arith
  ·refine Zl rfl fun a w' _ _ B A => ?_;have e36 : a (.tmp 36) = _ := Zh A 28 rfl;have e19 : a (.tmp 19) = _ := Zh A 10 rfl;obtain ⟨⟨u, h1⟩, h2, h3⟩ := B.store 1 (by simp) rfl;refine Yn (w' := w'.setCell ⟨g, 1, none⟩ (bv (lo at_))) ?_ (.inr rfl) h3 (Za0 h1);have e1 : bv (lo at_) = a (.tmp 19) := by rw [e19]; exact Zho _ (by omega) (by omega)
   rw [e1];clear e1 A B h3;go_simp;all_goals go_arith
  ·refine Zl rfl fun a _ _ _ B A => ?_;have e11 : a (.tmp 11) = _ := Zh A 2 rfl;refine Zk ?_ B rfl;clear A B;go_simp;all_goals go_arith
  ·refine Zl rfl fun a w' _ _ B A => ?_;have e37 : a (.tmp 37) = _ := Zh A 30 rfl;have e22 : a (.tmp 22) = _ := Zh A 13 rfl;obtain ⟨⟨u, h1⟩, h2, h3⟩ := B.store 2 (by simp) rfl;refine Yn (w' := w'.setCell ⟨g, 2, none⟩ (bv (lo y))) ?_ (.inr rfl) h3 (Za0 h1);have e1 : bv (lo y) = a (.tmp 22) := by rw [e22]; exact Zho _ (by omega) (by omega)
   rw [e1];clear e1 A B h3;go_simp;all_goals go_arith
  ·refine Zl rfl fun a _ _ _ B A => ?_;have e12 : a (.tmp 12) = _ := Zh A 3 rfl;refine Zk ?_ B rfl;clear A B;go_simp;all_goals go_arith
  ·refine Zl rfl fun a w' _ _ B A => ?_;have e38 : a (.tmp 38) = _ := Zh A 32 rfl;have e26 : a (.tmp 26) = _ := Zh A 17 rfl;obtain ⟨⟨u, h1⟩, h2, h3⟩ := B.store 3 (by simp) rfl;refine Yn (w' := w'.setCell ⟨g, 3, none⟩ (bv (hi n))) ?_ (.inr rfl) h3 (Za0 h1);have e1 : bv (hi n) = a (.tmp 26) := by rw [e26]; exact Zzd n hn0 (by omega)
   rw [e1];clear e1 A B h3;go_simp;all_goals go_arith
  ·refine Zl rfl fun a _ _ _ B A => ?_;have e13 : a (.tmp 13) = _ := Zh A 4 rfl;refine Zk ?_ B rfl;clear A B;go_simp;all_goals go_arith
  ·refine Zl rfl fun a w' _ _ B A => ?_;have e39 : a (.tmp 39) = _ := Zh A 34 rfl;have e30 : a (.tmp 30) = _ := Zh A 21 rfl;obtain ⟨⟨u, h1⟩, h2, h3⟩ := B.store 4 (by simp) rfl;refine Yn (w' := w'.setCell ⟨g, 4, none⟩ (bv (lo n))) ?_ (.inr rfl) h3 (Za0 h1);have e1 : bv (lo n) = a (.tmp 30) := by rw [e30]; exact Zyr n
   rw [e1];clear e1 A B h3;go_simp;all_goals go_arith
  ·refine Zl rfl fun a _ _ _ B A => ?_;have e14 : a (.tmp 14) = _ := Zh A 5 rfl;refine Zk ?_ B rfl;clear A B;go_simp;all_goals go_arith
  ·refine Zl rfl fun a w' _ _ B A => ?_;have e40 : a (.tmp 40) = _ := Zh A 36 rfl;have e34 : a (.tmp 34) = _ := Zh A 25 rfl;obtain ⟨⟨u, h1⟩, h2, h3⟩ := B.store 5 (by simp) rfl;refine Yn (w' := w'.setCell ⟨g, 5, none⟩ (bv (lo (l.length : Int)))) ?_ (.inr rfl) h3 (Za0 h1);have e1 : bv (lo (l.length : Int)) = a (.tmp 34) := by rw [e34]; exact Zho _ (by omega) (by omega)
   rw [e1];clear e1 A B h3;go_simp;all_goals go_arith
 ·intro vs w' hg ht;obtain ⟨q9, q10, q11, q12, q13, q14, q15, q16, q17, q18, q19, q20, q21, q22, q23, q24, q25, q26, q27, q28, q29, q30, q31, q32, q33, q34, q35, qo27, q36, qo29, q37, qo31, q38, qo33, q39, qo35, q40, qo37, -⟩ := ht;have r9 : vs 0 = _ := q9;have r10 : vs 1 = _ := q10;have r11 : vs 2 = _ := q11;have r12 : vs 3 = _ := q12;have r13 : vs 4 = _ := q13;have r14 : vs 5 = _ := q14;have r15 : vs 6 = _ := q15;have r16 : vs 7 = _ := q16;have r17 : vs 8 = _ := q17;have r18 : vs 9 = _ := q18;have r19 : vs 10 = _ := q19;have r20 : vs 11 = _ := q20;have r21 : vs 12 = _ := q21;have r22 : vs 13 = _ := q22;have r23 : vs 14 = _ := q23;have r24 : vs 15 = _ := q24;have r25 : vs 16 = _ := q25;have r26 : vs 17 = _ := q26;have r27 : vs 18 = _ := q27;have r28 : vs 19 = _ := q28;have r29 : vs 20 = _ := q29;have r30 : vs 21 = _ := q30;have r31 : vs 22 = _ := q31;have r32 : vs 23 = _ := q32;have r33 : vs 24 = _ := q33;have r34 : vs 25 = _ := q34;have r35 : vs 26 = _ := q35;replace qo27 : ((fun _ w => w.cell? ⟨g, 0, none⟩ = some (bv (lo k)))) (vs 27) w' := qo27;have r36 : vs 28 = _ := q36;replace qo29 : ((fun _ w => w.cell? ⟨g, 1, none⟩ = some (bv (lo at_)))) (vs 29) w' := qo29;have r37 : vs 30 = _ := q37;replace qo31 : ((fun _ w => w.cell? ⟨g, 2, none⟩ = some (bv (lo y)))) (vs 31) w' := qo31;have r38 : vs 32 = _ := q38;replace qo33 : ((fun _ w => w.cell? ⟨g, 3, none⟩ = some (bv (hi n)))) (vs 33) w' := qo33;have r39 : vs 34 = _ := q39
  replace qo35 : ((fun _ w => w.cell? ⟨g, 4, none⟩ = some (bv (lo n)))) (vs 35) w' := qo35;have r40 : vs 36 = _ := q40;replace qo37 : ((fun _ w => w.cell? ⟨g, 5, none⟩ = some (bv (lo (l.length : Int))))) (vs 37) w' := qo37;clear q9 q10 q11 q12 q13 q14 q15 q16 q17 q18 q19 q20 q21 q22 q23 q24 q25 q26 q27 q28 q29 q30 q31 q32 q33 q34 q35 q36 q37 q38 q39 q40;simp only [Yc, Act.put, List.setIfInBounds_toArray, List.set_cons_zero, List.set_cons_succ, r9, r10, r11, r12, r13, r14, r15, r16, r17, r18, r19, r20, r21, r22, r23, r24, r25, r26, r27, r28, r29, r30, r31, r32, r33, r34, r35, r36, r37, r38, r39, r40];clear r9 r10 r11 r12 r13 r14 r15 r16 r17 r18 r19 r20 r21 r22 r23 r24 r25 r26 r27 r28 r29 r30 r31 r32 r33 r34 r35 r36 r37 r38 r39 r40;have hR : Qs w' g (Zc1 k y n at_ l 0) := by
   rw [Znt];refine Zia.done hg (by simp [head]) fun i hi hne => ?_
   match i with
   | 0 => exact qo27
   | 1 => exact qo29
   | 2 => exact qo31
   | 3 => exact qo33
   | 4 => exact qo35
   | 5 => exact qo37
   | i + 6 =>
    exfalso;apply hne;have : i < 8 := by simp [head] at hi; omega
    rw [List.getElem?_replicate, if_pos (by omega)];show _ = (List.replicate 8 (0 : UInt8))[i]?;rw [List.getElem?_replicate, if_pos (by omega)]
  have hvb : ∀ b o n c, Value.slice ao l.length cap = .slice (some ⟨b, o, none⟩) n c → l.length ≠ 0 → b < w.heap.size := by
   intro b o n c e hne;cases e;rcases hv with ⟨ao, cp, h2, h3, _⟩ | ⟨b', o', cp, h2, h3, h4⟩
   ·rw [h3] at hne; exact absurd rfl hne
   ·cases h2;exact Zs (h4 0 (by omega))
  have c3' := (hg.1.cell (p := ⟨w.heap.size, 3, none⟩) (Zs c3) (by show w.heap.size ≠ g; omega)).trans c3;have gw' : Zo w w' := hg.1.grow gW (by omega);clear qo27 qo29 qo31 qo33 qo35 qo37 hg c0 c1 c2 c3 gW hbW hrow hnone;go_wp2_with fail;go_loopw [44] (fun i wr => ∃ j : Nat, j ≤ l.length ∧ i = .int .i64 j ∧ Zo w wr ∧ Qs wr g (Zc1 k y n at_ l j)) (fun i _ => l.length - (intOf i).toNat)
  case atStart => exact ⟨0, Nat.zero_le _, rfl, gw', hR⟩
  case round =>
   obtain ⟨j, hj, rfl, hgr, hrw⟩ := hrel;by_cases hlt : j < l.length
   ·rcases hv with ⟨_, _, _, h3, _⟩ | ⟨b, off, cp, h2, h3, h4⟩
    ·rw [h3] at hlt; simp at hlt
    ·cases h2;have hcell := (Below.cell hgr (Zs (h4 j hlt))).trans (h4 j hlt);have hcg := hrw.cell (6 + j) (by rw [Zjs _ _ _ _ _ _ hj hl]; omega);have hfg := hrw.frozen (6 + j);have HR := hrw.set (6 + j) l[j];rw [Znu _ _ _ _ _ _ hlt hl] at HR;have hG := Z2 hgr (a := ⟨g, 6 + j, none⟩) (by show w.heap.size ≤ g; omega) (.int .u8 (l[j].toNat : Int));clear h4 hrw hgr;go_wp2;go_roundw
     case rel => exact ⟨j + 1, by omega, by go_num, hG, HR⟩
     case measure => simp [intOf]; omega
   ·have ej : j = l.length := by omega
    subst ej;rw [Znv] at hrw;have hB := hrw.bytes 0 14 14 (by rw [Qk _ _ hl]; omega) (by omega);rw [List.drop_zero, List.take_of_length_le (by rw [Qk _ _ hl]; omega)] at hB;clear hv hvb hrw;go_wp2_with fail;refine (Zim _ _ _ (by rw [Qk _ _ hl]; omega) hB).mono ?_;rintro e w3 ⟨v', rfl, ho, g3⟩;rw [Qk _ _ hl] at ho;go_wp2;go_ret;exact ⟨_, rfl, Yf ho hgr.size, hgr.trans g3⟩
variable {T e : TypeId} {base g n off : Nat} {c : Array Value} {l : List UInt8} {v x0 x1 x2 x3 : Value} {w w' : World} {xs : List Value}
def Jz (w : World) (b off : Nat) (l : List UInt8) : Prop := ∀ (i : Nat) (h : i < l.length), w.cell? ⟨b, off + i, none⟩ = some (.int .u8 (l[i].toNat : Int))
theorem Jz.at' {b : Nat} (h : Jz w b off l) (i : Nat) (hi : i < l.length) : w.cell? ⟨b, off + i, none⟩ = some (.int .u8 ((Plain.at' l i).toNat : Int)) := by
 rw [h i hi];unfold Plain.at';rw [List.getD_eq_getElem?_getD, List.getElem?_eq_getElem hi]; rfl
theorem Jz.grow {b : Nat} (h : Jz w b off l) (hg : Zo w w') : Jz w' b off l := fun i hi => (Below.cell hg (Zs (h i hi))).trans (h i hi)
theorem Jz.sub {b : Nat} (h : Jz w b off l) (i n cap : Nat) (hn : i + n ≤ l.length) (hc : n ≤ cap) : Bytes w (.slice (some ⟨b, off + i, none⟩) n cap) ((l.drop i).take n) := by
 have e : ((l.drop i).take n).length = n := by simp; omega
 refine .inr ⟨b, off + i, cap, by rw [e], by omega, fun j hj => ?_⟩;rw [Nat.add_assoc, h (i + j) (by omega)];simp
theorem Vt {a b : Bool} (h : a = b) : Ending.returned (.bool a) = .returned (.bool b) := by rw [h]
theorem Zfi (l : List UInt8) (b off cap : Nat) (w : World) (hl : l.length = 16) (hc : Jz w b off l) :
  Calls Tryz.prog 162 #[.slice (some ⟨b, off, none⟩) 16 cap] w fun e w' => e = .returned (.int .i64 (6 + ((at' l 5).toNat : Int))) ∧ w = w' := by
 have h5 := hc.at' 5 (by omega);have hb : (at' l 5).toNat < 256 := UInt8.toNat_lt _;clear hc hl;generalize (at' l 5).toNat = x at *;go_enter Tryz.func162, Tryz.ntmps162;go_wp2;go_ret;exact ⟨rfl, rfl⟩
theorem Zjw (l : List UInt8) (k : Nat) (h : k < l.length) : Y7 (l.take (k + 1)) = (Y7 (l.take k) && (l[k] == 0)) := by
 rw [Zef l k h]; simp only [Y7, List.all_append, List.all_cons, List.all_nil, Bool.and_true]
theorem Zlp (l : List UInt8) (b off cap : Nat) (w : World) (hm : l.length ≤ 140737488355328) (hc : Jz w b off l) :
  Calls Tryz.prog 169 #[.slice (some ⟨b, off, none⟩) l.length cap] w fun e w' => e = .returned (.bool (Y7 l)) ∧ w = w' := by
 go_enter Tryz.func169, Tryz.ntmps169;go_wp2
 go_loop [7] (fun i => ∃ k : Nat, k ≤ l.length ∧ i = .int .i64 k ∧ Y7 (l.take k) = true) (fun i => l.length - (intOf i).toNat)
 case atStart => exact ⟨0, Nat.zero_le _, rfl, rfl⟩
 case round =>
  obtain ⟨k, hk, rfl, hn⟩ := hrel;by_cases hlt : k < l.length
  ·have hcell := hc k hlt;have hb : l[k].toNat < 256 := UInt8.toNat_lt _;have hs := Zjw l k hlt;rw [hn, Bool.true_and] at hs;have HN : Hid (Y7 (l.take k) = true) := hn;clear hn;by_cases h0 : l[k] = 0
   ·have HS : Hid (Y7 (l.take (k + 1)) = true) := by show Y7 _ = true; rw [hs, h0]; rfl
    have d0 : ((l[k].toNat : Int) != 0) = false := by simp [h0]
    clear hc hs h0;go_wp2
    go_round
    case rel => exact ⟨k + 1, by omega, by go_num, HS.out⟩
    case measure => simp [intOf]; omega
   ·have hne : l[k].toNat ≠ 0 := fun e => h0 (UInt8.toNat_inj.1 e)
    have d0 : ((l[k].toNat : Int) != 0) = true := by simp [hne]
    have HS : Hid (Y7 l = false) := by
     show Y7 l = false;unfold Y7;rw [List.all_eq_false];exact ⟨l[k], List.getElem_mem hlt, by simpa using h0⟩
    clear hc hs h0 hne;go_wp2;go_ret;exact ⟨Vt HS.out.symm, rfl⟩
  ·have HS : Hid (Y7 l = true) := by
    show Y7 l = true;rw [← hn, List.take_of_length_le (by omega)]
   clear hn;go_wp2;go_ret;exact ⟨Vt HS.out.symm, rfl⟩
theorem Zlq (ao : Option Addr) (cap : Nat) (w : World) :
  Calls Tryz.prog 169 #[.slice ao 0 cap] w fun e w' => e = .returned (.bool (Y7 [])) ∧ w = w' := by
 go_enter Tryz.func169, Tryz.ntmps169;go_wp2
 go_loop [7] (fun i => i = .int .i64 0) (fun i => 0)
 case atStart => rfl
 case round =>
  obtain rfl := hrel;go_wp2;go_ret;exact ⟨rfl, rfl⟩
theorem Zlr (l : List UInt8) (v : Value) (w : World) (hm : l.length ≤ 140737488355328) (h : Bytes w v l) :
  Calls Tryz.prog 169 #[v] w fun e w' => e = .returned (.bool (Y7 l)) ∧ w = w' := by
 rcases h with ⟨ao, cap, rfl, rfl, _⟩ | ⟨b, off, cap, rfl, _, hc⟩
 ·exact Zlq ao cap w
 ·exact Zlp l b off cap w hm hc
theorem Zkx (l : List UInt8) (at_ : Int) (ao : Option Addr) (cap : Nat) (w : World) (hl : l.length ≠ 16) :
  Calls Tryz.prog 160 #[.slice ao l.length cap, .int .i64 at_] w fun e w' => e = .returned (.int .i64 (spoilt l at_)) ∧ Zo w w' := by
 have HS : Hid (spoilt l at_ = 2) := by show spoilt _ _ = 2; unfold spoilt; rw [if_pos hl]
 have d : ((l.length : Int) != 16) = true := by simp; omega
 go_enter Tryz.func160, Tryz.ntmps160;go_wp2_with fail;go_ret;exact ⟨Xf HS.out.symm, Zo.refl _⟩
theorem Znc (l : List UInt8) (at_ : Int) (b off cap : Nat) (w : World) (hl : l.length = 16) (hcap : 16 ≤ cap) (hc : Jz w b off l) :
  Calls Tryz.prog 160 #[.slice (some ⟨b, off, none⟩) 16 cap, .int .i64 at_] w fun e w' => e = .returned (.int .i64 (spoilt l at_)) ∧ Zo w w' := by
 have hB : Bytes w (.slice (some ⟨b, off, none⟩) 16 cap) l := .inr ⟨b, off, cap, by rw [hl], by omega, hc⟩;have HL : Hid (l.length = 16) := hl;have hw : spoilt l at_ = if Xe l = false then 7 else if ((at' l 1).toNat : Int) ≠ at_ then 8 else if 8 < (at' l 5).toNat then 4 else if Y7 (Q7 l) = false then 2 else 0 := by
  unfold spoilt; rw [if_neg (by omega)]
 have HW : Hid _ := hw;clear hw hl;go_enter Tryz.func160, Tryz.ntmps160;go_wp2_with fail;refine (Zj0 l _ _ (by rw [HL.out]; omega) hB).mono ?_;cases hs : Xe l with
 | false =>
  have HF : Hid (spoilt l at_ = 7) := by show spoilt _ _ = 7; rw [HW.out, if_pos hs]
  clear hs hB hc;rintro e w1 ⟨rfl, g1⟩;go_wp2_with fail;go_ret;exact ⟨Xf HF.out.symm, g1⟩
 | true =>
  rintro e w1 ⟨rfl, g1⟩;have hc1 := hc.grow g1;have h1 := hc1.at' 1 (by rw [HL.out]; omega);have h5 := hc1.at' 5 (by rw [HL.out]; omega);have hb1 : (at' l 1).toNat < 256 := UInt8.toNat_lt _;have hb5 : (at' l 5).toNat < 256 := UInt8.toNat_lt _;have HS : Hid (Xe l = true) := hs;clear hs hB;by_cases hp : ((at' l 1).toNat : Int) = at_
  ·have d1 : (((at' l 1).toNat : Int) != at_) = false := by simp [hp]
   by_cases h8 : 8 < (at' l 5).toNat
   ·have HF : Hid (spoilt l at_ = 4) := by show spoilt _ _ = 4; rw [HW.out, if_neg (by rw [HS.out]; simp), if_neg (by simpa using hp), if_pos h8]
    clear hp hc hc1;generalize (at' l 5).toNat = x5 at *;generalize (at' l 1).toNat = x1 at *;go_wp2_with fail;go_ret;exact ⟨Xf HF.out.symm, g1⟩
   ·have hr : Bytes w1 (.slice (some ⟨b, off + (6 + (at' l 5).toNat), none⟩) (8 - (at' l 5).toNat) (cap - (6 + (at' l 5).toNat))) (Q7 l) := hc1.sub _ _ _ (by rw [HL.out]; omega) (by omega);have HF : Hid (spoilt l at_ = if Y7 (Q7 l) = false then 2 else 0) := by show spoilt _ _ = _; rw [HW.out, if_neg (by rw [HS.out]; simp), if_neg (by simpa using hp), if_neg h8]
    have hrl : (Q7 l).length ≤ 8 := by unfold Q7; simp; omega
    clear hp hc;have hde := fun (cp : Nat) => Zfi l b off cp w1 HL.out hc1
    generalize hx5 : (at' l 5).toNat = x5 at *;generalize (at' l 1).toNat = x1 at *;clear hx5 hc1;go_wp2_with fail;refine (hde _).mono ?_;rintro e w' ⟨rfl, rfl⟩;clear hde;go_wp2_with fail;rw [show 14 - (6 + x5) = 8 - x5 from by omega];refine (Zlr _ _ _ (by omega) hr).mono ?_;rintro e w' ⟨rfl, rfl⟩;cases hn : Y7 (Q7 l) with
    | false =>
     have HG : Hid (spoilt l at_ = 2) := by show spoilt _ _ = 2; rw [HF.out, if_pos hn]
     clear hn hr;go_wp2_with fail;go_ret;exact ⟨Xf HG.out.symm, g1⟩
    | true =>
     have HG : Hid (spoilt l at_ = 0) := by show spoilt _ _ = 0; rw [HF.out, if_neg (by rw [hn]; simp)]
     clear hn hr;go_wp2_with fail;go_ret;exact ⟨Xf HG.out.symm, g1⟩
  ·have d1 : (((at' l 1).toNat : Int) != at_) = true := by simp [hp]
   have HF : Hid (spoilt l at_ = 8) := by show spoilt _ _ = 8; rw [HW.out, if_neg (by rw [HS.out]; simp), if_pos hp]
   clear hp hc hc1;generalize (at' l 5).toNat = x5 at *;generalize (at' l 1).toNat = x1 at *;go_wp2_with fail;go_ret;exact ⟨Xf HF.out.symm, g1⟩
theorem Zf5 (l : List UInt8) (at_ : Int) (v : Value) (w : World) (h : Bytes w v l) :
  Calls Tryz.prog 160 #[v, .int .i64 at_] w fun e w' => e = .returned (.int .i64 (spoilt l at_)) ∧ Zo w w' := by
 by_cases hl : l.length = 16
 ·rcases h with ⟨ao, cap, rfl, rfl, _⟩ | ⟨b, off, cap, rfl, h1, hc⟩
  ·simp at hl
  ·rw [show (Value.slice (some ⟨b, off, none⟩) l.length cap) = .slice (some ⟨b, off, none⟩) 16 cap from by rw [hl]];exact Znc l at_ b off cap w hl (by omega) hc
 ·obtain ⟨ao, cap, rfl, -, -⟩ := Yh h;exact Zkx l at_ ao cap w hl
def Zkm (T : TypeId) (m B : Nat) (v : Value) (w : World) : Prop := ∃ g c, v = .pointer (some ⟨g, 0, none⟩) ∧ B ≤ g ∧ w.heap[g]? = some (.cells c T (0, 0)) ∧ c.size = m
def Yx (T : TypeId) (w w' : World) : Prop := w' = w ∨ ∃ g c c', Zt g w w' ∧ w.heap[g]? = some (.cells c T (0, 0)) ∧ w'.heap[g]? = some (.cells c' T (0, 0)) ∧ c'.size = c.size
theorem Za {o : Obj} (h : w.heap[g]? = some o) : g < w.heap.size := by
 rcases Nat.lt_or_ge g w.heap.size with hl | hl
 ·exact hl
 ·rw [Array.getElem?_eq_none hl] at h; cases h
theorem Zs5 (T : TypeId) (m B : Nat) : Xt (Zkm T m B) := by
 rintro v w w' hg ⟨g, c, h1, h2, h3, h4⟩;exact ⟨g, c, h1, h2, (hg.block g (Za h3)).trans h3, h4⟩
theorem Ztb (T : TypeId) (m B : Nat) (v : Value) (w w' : World) (hs : Yx T w w') (h : Zkm T m B v w) : Zkm T m B v w' := by
 rcases hs with rfl | ⟨g', c1, c2, hb, h5, h6, h7⟩
 ·exact h
 ·obtain ⟨g, c, h1, h2, h3, h4⟩ := h;by_cases e : g = g'
  ·subst e;rw [h5] at h3; cases h3;exact ⟨g, c2, h1, h2, h6, by omega⟩
  ·exact ⟨g, c, h1, h2, (hb.block g (Za h3) e).trans h3, h4⟩
theorem Z6 {size : Nat} (h : w.ownsRow base e size v n xs) (hg : Zo w w') : w'.ownsRow base e size v n xs :=
 ⟨h.1, Xq h.2 (fun x => x) fun ⟨g, cap, cur, h1, h2, h3, r⟩ => ⟨g, cap, cur, h1, h2, (hg.block g (Za h3)).trans h3, r⟩⟩
theorem Qi {size : Nat} (hne : e ≠ T) (hs : Yx T w w') (h : w.ownsRow base e size v n xs) : w'.ownsRow base e size v n xs := by
 rcases hs with rfl | ⟨g', c1, c2, hb, h5, h6, h7⟩
 ·exact h
 ·refine ⟨h.1, Xq h.2 (fun x => x) fun ⟨g, cap, cur, h1, h2, h3, r⟩ => ⟨g, cap, cur, h1, h2, (hb.block g (Za h3) ?_).trans h3, r⟩⟩;rintro rfl;rw [h5] at h3; cases h3; exact hne rfl
def Zsj (B : Nat) (r : Rec) (v : Value) (w : World) : Prop := ∃ d, v = .agg #[.int .i64 r.kind, .int .i64 r.key, .int .i64 r.ver, d] ∧ w.ownsRow B 5 1 d r.data.length (r.data.map bv)
theorem Zx3 (B : Nat) (r : Rec) : Xt (Zsj B r) := by
 rintro v w w' hg ⟨d, h1, h2⟩;exact ⟨d, h1, Z6 h2 hg⟩
theorem Zx8 (B : Nat) (r : Rec) (v : Value) (w w' : World) (hs : Yx 51 w w') (h : Zsj B r v w) : Zsj B r v w' := by
 obtain ⟨d, h1, h2⟩ := h;exact ⟨d, h1, Qi (by decide) hs h2⟩
def Zkj (B : Nat) (l : List UInt8) (v : Value) (w : World) : Prop := w.ownsRow B 5 1 v l.length (l.map bv)
theorem Zsx (B : Nat) (l : List UInt8) : Xt (Zkj B l) := fun _ _ _ hg h => Z6 h hg
theorem Zs9 (B : Nat) (l : List UInt8) (v : Value) (w w' : World) (hs : Yx 51 w w') (h : Zkj B l v w) : Zkj B l v w' := Qi (by decide) hs h
def Zmz (B : Nat) (r : Rec) (p : Value) (w : World) : Prop := ∃ g d, p = .pointer (some ⟨g, 0, none⟩) ∧ B ≤ g ∧ w.heap[g]? = some (.cells #[.int .i64 r.kind, .int .i64 r.key, .int .i64 r.ver, d] 51 (0, 0)) ∧ w.ownsRow B 5 1 d r.data.length (r.data.map bv)
theorem Zpb (B : Nat) (r : Rec) (i : Nat) : Vz (pl1 i (fun _ p w => Zmz B r p w)) := by
 rintro v ds w w' hg ⟨g, d, h1, h2, h3, h4⟩;exact ⟨g, d, h1, h2, (hg.block g (Za h3)).trans h3, Z6 h4 hg⟩
theorem Ztr (l : List UInt8) (at_ : Int) (v : Value) (w : World) (h : Bytes w v l) (hs : spoilt l at_ ≠ 0) :
  Calls Tryz.prog 142 #[v, .int .i64 at_] w fun e w' => ∃ d, e = .returned (.tuple #[.agg #[.int .i64 (Y4 l at_).kind, .int .i64 (Y4 l at_).key, .int .i64 (Y4 l at_).ver, d], .int .i64 (X0 l at_)]) ∧ w'.ownsRow w.heap.size 5 1 d (Y4 l at_).data.length ((Y4 l at_).data.map bv) ∧ Zo w w' := by
 have he : X0 l at_ = spoilt l at_ := by unfold X0; rw [if_neg hs]
 have hr : Y4 l at_ = Rec.none := by unfold Y4; rw [he, if_neg hs]
 rw [he, hr];clear he hr;have d0 : (spoilt l at_ != 0) = true := by simpa using hs
 clear hs;obtain ⟨ao, cap, rfl, -, -⟩ := Yh h;go_enter Tryz.func142, Tryz.ntmps142;go_wp2_with fail;refine (Zf5 l at_ _ _ (by exact Z0 h (Zd _ _))).mono ?_;rintro e w1 ⟨rfl, g1⟩;obtain ⟨hc, hf⟩ := Zp5 g1;have cs := Zx;clear h;go_wp2_with fail;refine bodyPost_ret (v := .tuple #[.agg #[.int .i64 0, .int .i64 0, .int .i64 0, .slice none 0 0], .int .i64 (spoilt l at_)]) (by simp [results, Tryz.results142, go_sem, hc, cs]) rfl ⟨_, rfl, World.ownsRow_nil _ _ _ _, ?_⟩;exact Z2 (Z2 (Z2 (Z2 ((Zd _ _).trans g1) (by simp) _) (by simp) _) (by simp) _) (by simp) _
theorem Zze (h : c.size = 4) : ∃ x0 x1 x2 x3, c = #[x0, x1, x2, x3] := by
 obtain ⟨l⟩ := c
 match l, h with
 | [x0, x1, x2, x3], _ => exact ⟨x0, x1, x2, x3, rfl⟩
theorem Yg {f} (h : w.heap[g]? = some (.cells c T f)) (i : Nat) (x : Value) : (w.setCell ⟨g, i, none⟩ x).heap[g]? = some (.cells (c.setIfInBounds i x) T f) := by
 simp only [World.setCell, Array.getElem?_modify, if_true, h, Option.map_some];rfl
theorem Ym {f} {c0 c1 c2 c3 : Value} (h : w.heap[g]? = some (.cells #[c0, c1, c2, c3] T f)) (x0 x1 x2 x3 : Value) :
  ((((w.setCell ⟨g, 0, none⟩ x0).setCell ⟨g, 1, none⟩ x1).setCell ⟨g, 2, none⟩ x2).setCell ⟨g, 3, none⟩ x3).heap[g]? = some (.cells #[x0, x1, x2, x3] T f) ∧ Zt g w ((((w.setCell ⟨g, 0, none⟩ x0).setCell ⟨g, 1, none⟩ x1).setCell ⟨g, 2, none⟩ x2).setCell ⟨g, 3, none⟩ x3) := by
 refine ⟨?_, ((((Zt.refl g w).set _ _ _).set _ _ _).set _ _ _).set _ _ _⟩;have h1 := Yg (Yg (Yg (Yg h 0 x0) 1 x1) 2 x2) 3 x3;simpa using h1
theorem Ze {f} (h : w.heap[g]? = some (.cells c T f)) (i : Nat) (x : Value) (hx : c[i]? = some x) : w.cell? ⟨g, i, none⟩ = some x := by
 simp [World.cell?, h, hx]
theorem Zr (h : w.heap[g]? = some (.cells c T (0, 0))) (i : Nat) : w.frozen? ⟨g, i, none⟩ = false := by
 simp [World.frozen?, h]
theorem Xz {f} (h : w.heap[g]? = some (.cells c T f)) (h0 : c[0]? = some x0) (h1 : c[1]? = some x1) : w.cell? ⟨g, 0, none⟩ = some x0 ∧ w.cell? ⟨g, 1, none⟩ = some x1 := ⟨Ze h 0 _ h0, Ze h 1 _ h1⟩
theorem Zxh {f} (h : w.heap[g]? = some (.cells c T f)) (h0 : c[0]? = some x0) (h1 : c[1]? = some x1) (h2 : c[2]? = some x2) : w.cell? ⟨g, 0, none⟩ = some x0 ∧ w.cell? ⟨g, 1, none⟩ = some x1 ∧ w.cell? ⟨g, 2, none⟩ = some x2 := ⟨Ze h 0 _ h0, Ze h 1 _ h1, Ze h 2 _ h2⟩
theorem Z7 {f} (h : w.heap[g]? = some (.cells c T f)) (h0 : c[0]? = some x0) (h1 : c[1]? = some x1) (h2 : c[2]? = some x2) (h3 : c[3]? = some x3) : w.cell? ⟨g, 0, none⟩ = some x0 ∧ w.cell? ⟨g, 1, none⟩ = some x1 ∧ w.cell? ⟨g, 2, none⟩ = some x2 ∧ w.cell? ⟨g, 3, none⟩ = some x3 := ⟨Ze h 0 _ h0, Ze h 1 _ h1, Ze h 2 _ h2, Ze h 3 _ h3⟩
theorem Q2 {f} (h : w.heap[g]? = some (.cells c T f)) {x4 : Value} (h0 : c[0]? = some x0) (h1 : c[1]? = some x1) (h2 : c[2]? = some x2) (h3 : c[3]? = some x3) (h4 : c[4]? = some x4) : w.cell? ⟨g, 0, none⟩ = some x0 ∧ w.cell? ⟨g, 1, none⟩ = some x1 ∧ w.cell? ⟨g, 2, none⟩ = some x2 ∧ w.cell? ⟨g, 3, none⟩ = some x3 ∧ w.cell? ⟨g, 4, none⟩ = some x4 := ⟨Ze h 0 _ h0, Ze h 1 _ h1, Ze h 2 _ h2, Ze h 3 _ h3, Ze h 4 _ h4⟩
theorem Yt (h : w.heap[g]? = some (.cells c T (0, 0))) : w.frozen? ⟨g, 0, none⟩ = false ∧ w.frozen? ⟨g, 1, none⟩ = false ∧ w.frozen? ⟨g, 2, none⟩ = false ∧ w.frozen? ⟨g, 3, none⟩ = false := ⟨Zr h 0, Zr h 1, Zr h 2, Zr h 3⟩
theorem Zj (w : World) (c : Array Value) (T : TypeId) : (w.alloc (.cells c T)).heap[w.heap.size]? = some (.cells c T (0, 0)) := by
 show (w.heap.push _)[w.heap.size]? = _;simp
theorem J3 {at_ : Int} (h : spoilt l at_ = 0) : l.length = 16 ∧ Xe l = true ∧ ((at' l 1).toNat : Int) = at_ ∧ (at' l 5).toNat ≤ 8 ∧ Y7 (Q7 l) = true := by
 unfold spoilt at h;by_cases h1 : l.length ≠ 16
 ·rw [if_pos h1] at h; omega
 ·rw [if_neg h1] at h;by_cases h2 : Xe l = false
  ·rw [if_pos h2] at h; omega
  ·rw [if_neg h2] at h;by_cases h3 : ((at' l 1).toNat : Int) ≠ at_
   ·rw [if_pos h3] at h; omega
   ·rw [if_neg h3] at h;by_cases h4 : 8 < (at' l 5).toNat
    ·rw [if_pos h4] at h; omega
    ·rw [if_neg h4] at h;by_cases h5 : Y7 (Q7 l) = false
     ·rw [if_pos h5] at h; omega
     ·exact ⟨by omega, by simpa using h2, by simpa using h3, by omega, by simpa using h5⟩
theorem Zwt (l : List UInt8) (at_ : Int) (b off cap : Nat) (w : World) (hcap : 16 ≤ cap) (hC : Jz w b off l) (hs : spoilt l at_ = 0) :
  Calls Tryz.prog 142 #[.slice (some ⟨b, off, none⟩) 16 cap, .int .i64 at_] w fun e w' => ∃ d, e = .returned (.tuple #[.agg #[.int .i64 (Y4 l at_).kind, .int .i64 (Y4 l at_).key, .int .i64 (Y4 l at_).ver, d], .int .i64 (X0 l at_)]) ∧ w'.ownsRow w.heap.size 5 1 d (Y4 l at_).data.length ((Y4 l at_).data.map bv) ∧ Zo w w' := by
 obtain ⟨hl, -, -, h8, -⟩ := J3 hs;have he : X0 l at_ = Yd (Yv l) := by unfold X0; rw [if_pos hs]
 have hB : Bytes w (.slice (some ⟨b, off, none⟩) 16 cap) l := .inr ⟨b, off, cap, by rw [hl], by omega, hC⟩;have HL : Hid (l.length = 16) := hl;have HS : Hid (spoilt l at_ = 0) := hs;have HE : Hid (X0 l at_ = Yd (Yv l)) := he;have HR : Hid (Y4 l at_ = if Yd (Yv l) = 0 then Yv l else Rec.none) := by show Y4 _ _ = _; unfold Y4; rw [he]
 clear he hl hs;rw [HE.out];go_enter Tryz.func142, Tryz.ntmps142;go_wp2_with fail;refine (Zf5 l at_ _ _ (by exact Z0 hB (Zd _ _))).mono ?_;rw [HS.out];rintro e w1 ⟨rfl, g1⟩;have gw : Zo w w1 := (Zd _ _).trans g1;have hbox : w1.heap[w.heap.size]? = some (.cells #[.int .i64 0, .int .i64 0, .int .i64 0, .slice none 0 0] 51 (0, 0)) := (g1.block _ (by simp)).trans (Zj _ _ _);have hc1 := hC.grow gw;have hd : ((l.drop 6).take (at' l 5).toNat).length = (at' l 5).toNat := by simp; have := HL.out; omega
 have k0 := hc1.at' 0 (by rw [HL.out]; omega);rw [Nat.add_zero] at k0;have k2 := hc1.at' 2 (by rw [HL.out]; omega);have k3 := hc1.at' 3 (by rw [HL.out]; omega);have k4 := hc1.at' 4 (by rw [HL.out]; omega);have b0 : (at' l 0).toNat < 256 := UInt8.toNat_lt _;have b2 : (at' l 2).toNat < 256 := UInt8.toNat_lt _;clear hB hC;go_wp2_with fail
 refine Qb [px (.slice (some ⟨b, off, none⟩) 16 cap), px (.pointer (some ⟨b, off, none⟩)), px (.int .u8 ((at' l 0).toNat : Int)), px (.int .i64 ((at' l 0).toNat : Int)), px (.slice (some ⟨b, off, none⟩) 16 cap), px (.pointer (some ⟨b, off + 2, none⟩)), px (.int .u8 ((at' l 2).toNat : Int)), px (.int .i64 ((at' l 2).toNat : Int)), px (.slice (some ⟨b, off, none⟩) 16 cap), px (.pointer (some ⟨b, off + 3, none⟩)), px (.int .u8 ((at' l 3).toNat : Int)), px (.slice (some ⟨b, off, none⟩) 16 cap), px (.pointer (some ⟨b, off + 4, none⟩)), px (.int .u8 ((at' l 4).toNat : Int)), px (.int .i64 (((at' l 3).toNat : Int) * 256 + ((at' l 4).toNat : Int))), px (.slice (some ⟨b, off, none⟩) 16 cap), px (.slice (some ⟨b, off, none⟩) 16 cap), px (.int .i64 (6 + ((at' l 5).toNat : Int))), px (.slice (some ⟨b, off + 6, none⟩) (at' l 5).toNat (cap - 6)), pl (Zkj w1.heap.size ((l.drop 6).take (at' l 5).toNat)), pl (Zsj w1.heap.size (Yv l)), pl (Zkm 51 4 w1.heap.size), pl1 21 ((fun _ p w => Zmz w1.heap.size (Yv l) p w))] [none, none, none, none, none, none, none, none, none, none, none, none, none, none, none, none, none, none, none, none, none, none, some ((Yx 51))] (fun w' => Zo w1 w') (by kernel_rfl) (by kernel_rfl) ⟨se, se, se, se, se, se, se, se, se, se, se, se, se, se, se, se, se, se, se, Yo (Zsx _ _), Yo (Zx3 _ _), Yo (Zs5 _ _ _), Zpb _ _ _, trivial⟩ ⟨⟨(fun w => .inl rfl), ⟨x5, x5, x5, x5, x5, x5, x5, x5, x5, x5, x5, x5, x5, x5, x5, x5, x5, x5, x5, .inr ((fun v _ w w' hs hq => Zs9 _ _ v w w' hs hq)), .inr ((fun v _ w w' hs hq => Zx8 _ _ v w w' hs hq)), .inr ((fun v _ w w' hs hq => Ztb _ _ _ v w w' hs hq)), .inl (by kernel_rfl), trivial⟩⟩, trivial⟩ ⟨n5, n5, n5, n5, n5, n5, n5, n5, n5, n5, n5, n5, n5, n5, n5, n5, n5, n5, n5, n5, n5, n5, fun _ _ _ _ h => h, trivial⟩ ?_ ?_ ?_
 ·exact (Zo.refl _).drew
 ·refine ⟨?_, ?_, ?_, ?_, ?_, ?_, ?_, ?_, ?_, ?_, ?_, ?_, ?_, ?_, ?_, ?_, ?_, ?_, ?_, ?_, ?_, ?_, ?_, trivial⟩
  ·exact Zl rfl fun a _ _ _ B A => Z9 rfl B (Zp A 0 rfl)
  ·refine Zl rfl fun a _ _ _ B A => ?_;have e16 : a (.tmp 16) = _ := Zh A 0 rfl;refine Zk ?_ B rfl;clear A B;go_simp;all_goals go_arith
  ·refine Zl rfl fun a _ _ _ B A => ?_;have e17 : a (.tmp 17) = _ := Zh A 1 rfl;have h1 := (Below.cell B (Zs k0)).trans k0;refine Zk ?_ B rfl;clear A B;go_simp;all_goals go_arith
  ·refine Zl rfl fun a _ _ _ B A => ?_;have e18 : a (.tmp 18) = _ := Zh A 2 rfl;refine Zk ?_ B rfl;clear A B;go_simp;all_goals go_arith
  ·exact Zl rfl fun a _ _ _ B A => Z9 rfl B (Zp A 0 rfl)
  ·refine Zl rfl fun a _ _ _ B A => ?_;have e20 : a (.tmp 20) = _ := Zh A 4 rfl;refine Zk ?_ B rfl;clear A B;go_simp;all_goals go_arith
  ·refine Zl rfl fun a _ _ _ B A => ?_;have e21 : a (.tmp 21) = _ := Zh A 5 rfl;have h1 := (Below.cell B (Zs k2)).trans k2;refine Zk ?_ B rfl;clear A B;go_simp;all_goals go_arith
  ·refine Zl rfl fun a _ _ _ B A => ?_;have e22 : a (.tmp 22) = _ := Zh A 6 rfl;refine Zk ?_ B rfl;clear A B;go_simp;all_goals go_arith
  ·exact Zl rfl fun a _ _ _ B A => Z9 rfl B (Zp A 0 rfl)
  ·refine Zl rfl fun a _ _ _ B A => ?_;have e24 : a (.tmp 24) = _ := Zh A 8 rfl;refine Zk ?_ B rfl;clear A B;go_simp;all_goals go_arith
  ·refine Zl rfl fun a _ _ _ B A => ?_;have e25 : a (.tmp 25) = _ := Zh A 9 rfl;have h1 := (Below.cell B (Zs k3)).trans k3;refine Zk ?_ B rfl;clear A B;go_simp;all_goals go_arith
  ·exact Zl rfl fun a _ _ _ B A => Z9 rfl B (Zp A 0 rfl)
  ·refine Zl rfl fun a _ _ _ B A => ?_;have e27 : a (.tmp 27) = _ := Zh A 11 rfl;refine Zk ?_ B rfl;clear A B;go_simp;all_goals go_arith
  ·refine Zl rfl fun a _ _ _ B A => ?_;have e28 : a (.tmp 28) = _ := Zh A 12 rfl;have h1 := (Below.cell B (Zs k4)).trans k4;refine Zk ?_ B rfl;clear A B;go_simp;all_goals go_arith
  ·refine Zl rfl fun a B _ _ C A => ?_;have e26 : a (.tmp 26) = _ := Zh A 10 rfl;have e29 : a (.tmp 29) = _ := Zh A 13 rfl;refine Yk (f := 161) (args := #[.int .u8 ((at' l 3).toNat : Int), .int .u8 ((at' l 4).toNat : Int)]) ?_ ((Zgq _ _ B).mono ?_)
   ·clear A C;go_simp;all_goals go_arith
   ·rintro e w2 ⟨rfl, rfl⟩;exact ⟨_, rfl, Zo.refl _, C, rfl⟩
  ·exact Zl rfl fun a _ _ _ B A => Z9 rfl B (Zp A 0 rfl)
  ·exact Zl rfl fun a _ _ _ B A => Z9 rfl B (Zp A 0 rfl)
  ·refine Zl rfl fun a B _ _ C A => ?_;have e32 : a (.tmp 32) = _ := Zh A 16 rfl;refine Yk (f := 162) (args := #[.slice (some ⟨b, off, none⟩) 16 cap]) ?_ ((Zfi l b off cap B HL.out (hc1.grow C)).mono ?_)
   ·clear A C;go_simp;all_goals go_arith
   ·rintro e w2 ⟨rfl, rfl⟩;exact ⟨_, rfl, Zo.refl _, C, rfl⟩
  ·refine Zl rfl fun a _ _ _ B A => ?_;have e31 : a (.tmp 31) = _ := Zh A 15 rfl;have e33 : a (.tmp 33) = _ := Zh A 17 rfl;refine Zk ?_ B rfl;clear A B hd hc1 k0 k2 k3 k4 b0 b2 HL HS HE HR gw hbox;generalize (at' l 5).toNat = x at *;go_simp;rw [if_pos (by omega), if_pos (by omega), if_neg (by omega), show (6 + (x : Int)).toNat - 6 = x from by omega]
  ·refine Zl rfl fun a B _ _ C A => ?_;have e34 : a (.tmp 34) = _ := Zh A 18 rfl;have hsrc := (hc1.grow C).sub 6 (at' l 5).toNat (cap - 6) (by rw [HL.out]; omega) (by omega);refine Yk (f := 93) (args := #[.slice (some ⟨b, off + 6, none⟩) (at' l 5).toNat (cap - 6)]) ?_ ((V5 _ _ B (by rw [hd]; omega) hsrc).mono ?_)
   ·clear A C hsrc;go_simp;all_goals go_arith
   ·rintro e w2 ⟨v', rfl, ho, g2⟩;exact ⟨_, rfl, g2, C.trans g2, Yf ho C.size⟩
  ·refine Zl rfl fun a B _ _ C A => ?_;have e19 : a (.tmp 19) = _ := Zh A 3 rfl;have e23 : a (.tmp 23) = _ := Zh A 7 rfl;have e30 : a (.tmp 30) = _ := Zh A 14 rfl;have e35 : (Zkj w1.heap.size ((l.drop 6).take (at' l 5).toNat)) (a (.tmp 35)) B := Zh A 19 rfl;obtain ⟨ao', cp', hv35⟩ := Z4 e35;refine Zk (v := .agg #[.int .i64 ((at' l 0).toNat : Int), .int .i64 ((at' l 2).toNat : Int), .int .i64 (((at' l 3).toNat : Int) * 256 + ((at' l 4).toNat : Int)), a (.tmp 35)]) ?_ C ⟨_, rfl, e35⟩;clear A C e35;go_simp;all_goals go_arith
  ·refine Zl rfl fun a w' _ _ B A => ?_;refine Qf (v := .pointer (some ⟨w'.heap.size, 0, none⟩)) (w' := w'.alloc (.cells #[.int .i64 0, .int .i64 0, .int .i64 0, .slice none 0 0] 51)) ?_ (Zd _ _) (B.trans (Zd _ _)) ⟨_, _, rfl, B.size, Zj _ _ _, rfl⟩;clear A B;go_simp;all_goals go_arith
  ·refine Zl rfl fun a w' _ _ B A => ?_;have e7 : (Zkm 51 4 w1.heap.size) (a (.tmp 7)) w' := Zh A 21 rfl;have e36 : (Zsj w1.heap.size (Yv l)) (a (.tmp 36)) w' := Zh A 20 rfl;obtain ⟨g, c, h7, hgB, hh, hsz⟩ := e7;obtain ⟨d, h36, hown⟩ := e36;obtain ⟨ao', cp', rfl⟩ := Z4 hown;obtain ⟨x0, x1, x2, x3, rfl⟩ := Zze hsz;obtain ⟨hp1, hp2⟩ := Ym hh (.int .i64 (Yv l).kind) (.int .i64 (Yv l).key) (.int .i64 (Yv l).ver) (.slice ao' (Yv l).data.length cp');have hstep : Yx 51 w' _ := .inr ⟨g, _, _, hp2, hh, hp1, rfl⟩;refine Yn (w' := _) ?_ hstep (Z2 (Z2 (Z2 (Z2 B (by exact hgB) _) (by exact hgB) _) (by exact hgB) _) (by exact hgB) _) ⟨g, _, h7, hgB, hp1, Qi (by decide) hstep hown⟩;have y0 := Ze hh 0 x0 rfl;have y1 := Ze hh 1 x1 rfl;have y2 := Ze hh 2 x2 rfl;have y3 := Ze hh 3 x3 rfl;obtain ⟨f0, f1, f2, f3⟩ := Yt hh;have cs := Zx;clear A B hp1 hp2 hstep hown hh;generalize Yv l = rr at *;go_simp;all_goals go_arith
 ·intro vs w' hg ht;obtain ⟨q16, q17, q18, q19, q20, q21, q22, q23, q24, q25, q26, q27, q28, q29, q30, q31, q32, q33, q34, q35, q36, q7, qo22, -⟩ := ht;have r16 : vs 0 = _ := q16;have r17 : vs 1 = _ := q17;have r18 : vs 2 = _ := q18;have r19 : vs 3 = _ := q19;have r20 : vs 4 = _ := q20;have r21 : vs 5 = _ := q21;have r22 : vs 6 = _ := q22;have r23 : vs 7 = _ := q23;have r24 : vs 8 = _ := q24;have r25 : vs 9 = _ := q25;have r26 : vs 10 = _ := q26;have r27 : vs 11 = _ := q27;have r28 : vs 12 = _ := q28;have r29 : vs 13 = _ := q29;have r30 : vs 14 = _ := q30;have r31 : vs 15 = _ := q31;have r32 : vs 16 = _ := q32;have r33 : vs 17 = _ := q33;have r34 : vs 18 = _ := q34;replace q35 : (Zkj w1.heap.size ((l.drop 6).take (at' l 5).toNat)) (vs 19) w' := q35;replace q36 : (Zsj w1.heap.size (Yv l)) (vs 20) w' := q36;replace q7 : (Zkm 51 4 w1.heap.size) (vs 21) w' := q7;replace qo22 : ((fun _ p w => Zmz w1.heap.size (Yv l) p w)) (vs 22) (vs 21) w' := qo22;clear q16 q17 q18 q19 q20 q21 q22 q23 q24 q25 q26 q27 q28 q29 q30 q31 q32 q33 q34;simp only [Yc, Act.put, List.setIfInBounds_toArray, List.set_cons_zero, List.set_cons_succ, Nat.reduceAdd, r16, r17, r18, r19, r20, r21, r22, r23, r24, r25, r26, r27, r28, r29, r30, r31, r32, r33, r34];clear r16 r17 r18 r19 r20 r21 r22 r23 r24 r25 r26 r27 r28 r29 r30 r31 r32 r33 r34;obtain ⟨g, d, h7, hgB, hh, hown⟩ := qo22;rw [h7];obtain ⟨ao', cp', rfl⟩ := Z4 hown;have hz : w.heap.size < g := by have := g1.size; simp at this; omega
  have hbox' := (hg.block _ (Za hbox)).trans hbox;have gw' := gw.trans hg;have hbs : w.heap.size < w1.heap.size := by have := g1.size; simp at this; omega
  clear q35 q36 q7 hg hbox gw g1 k0 k2 k3 k4 b0 b2 hc1 hd h7;generalize vs 19 = u19;generalize vs 20 = u20;obtain ⟨y0, y1, y2, y3⟩ := Z7 hh rfl rfl rfl rfl;go_wp2_with fail;refine (Zce _ _ _ (Yv l).data _ _ (Q1 hown)).mono ?_;rintro e w2 ⟨rfl, g2⟩;have hh2 := (g2.block _ (Za hh)).trans hh;have hb2 := (g2.block _ (Za hbox')).trans hbox';have hown2 := Z6 hown g2;have gw2 := gw'.trans g2;clear y0 y1 y2 y3 hown gw' hbox' hh;obtain ⟨y0, y1, y2, y3⟩ := Z7 hh2 rfl rfl rfl rfl;obtain ⟨z0, z1, z2, z3⟩ := Z7 hb2 rfl rfl rfl rfl;obtain ⟨f0, f1, f2, f3⟩ := Yt hb2;have cs := Zx;by_cases hw0 : Yd (Yv l) = 0
  ·have HQ : Hid (Y4 l at_ = Yv l) := by show Y4 _ _ = _; rw [HR.out, if_pos hw0]
   have HW : Hid (Yd (Yv l) = 0) := hw0;have d0 : (Yd (Yv l) != 0) = false := by rw [hw0]; rfl
   clear hw0 HR HE HS;go_wp2_with fail;refine bodyPost_ret (v := .tuple #[.agg #[.int .i64 (Yv l).kind, .int .i64 (Yv l).key, .int .i64 (Yv l).ver, .slice ao' (Yv l).data.length cp'], .int .i64 0]) (by simp [results, Tryz.results142, go_sem, z0, z1, z2, z3, cs]) rfl ⟨.slice ao' (Yv l).data.length cp', ?_, ?_, ?_⟩
   ·rw [HQ.out, HW.out]
   ·rw [HQ.out];exact Yf (Xk (Xk (Xk (Xk hown2 (by exact hbs) _) (by exact hbs) _) (by exact hbs) _) (by exact hbs) _) (Nat.le_of_lt hbs)
   ·exact Z2 (Z2 (Z2 (Z2 gw2 (by simp) _) (by simp) _) (by simp) _) (by simp) _
  ·have HQ : Hid (Y4 l at_ = Rec.none) := by show Y4 _ _ = _; rw [HR.out, if_neg hw0]
   have d0 : (Yd (Yv l) != 0) = true := by simpa using hw0
   clear hw0 HR HE HS y0 y1 y2 y3;go_wp2_with fail;refine bodyPost_ret (v := .tuple #[.agg #[.int .i64 0, .int .i64 0, .int .i64 0, .slice none 0 0], .int .i64 (Yd (Yv l))]) (by simp [results, Tryz.results142, go_sem, z0, z1, z2, z3, cs]) rfl ⟨.slice none 0 0, ?_, ?_, ?_⟩
   ·rw [HQ.out]; rfl
   ·rw [HQ.out];exact World.ownsRow_nil _ _ _ _
   ·exact Z2 (Z2 (Z2 (Z2 gw2 (by simp) _) (by simp) _) (by simp) _) (by simp) _
theorem Zts (l : List UInt8) (at_ : Int) (v : Value) (w : World) (h : Bytes w v l) :
  Calls Tryz.prog 142 #[v, .int .i64 at_] w fun e w' => ∃ d, e = .returned (.tuple #[.agg #[.int .i64 (Y4 l at_).kind, .int .i64 (Y4 l at_).key, .int .i64 (Y4 l at_).ver, d], .int .i64 (X0 l at_)]) ∧ w'.ownsRow w.heap.size 5 1 d (Y4 l at_).data.length ((Y4 l at_).data.map bv) ∧ Zo w w' := by
 by_cases hs : spoilt l at_ = 0
 ·have hl := (J3 hs).1;rcases h with ⟨ao, cap, rfl, rfl, _⟩ | ⟨b, off, cap, rfl, h1, hc⟩
  ·simp at hl
  ·rw [show (Value.slice (some ⟨b, off, none⟩) l.length cap) = .slice (some ⟨b, off, none⟩) 16 cap from by rw [hl]];exact Zwt l at_ b off cap w (by omega) hc hs
 ·exact Ztr l at_ v w h hs
end Go.Proofs.YtpdnapbchcdhlabGreat
