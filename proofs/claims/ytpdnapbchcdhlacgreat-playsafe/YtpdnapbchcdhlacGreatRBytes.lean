import Derived.Test.YtpdnapbchcdhlacGreatWrong
set_option maxHeartbeats 8000000
namespace Go.Proofs.YtpdnapbchcdhlacGreat
set_option maxRecDepth 100000
open Go.RowKit
open Plain Reg
variable {W w : World} {c : UInt8} {g : Nat} {x : Value} {xs ys : List UInt8}
theorem Zyn (n : Int) (h0 : 0 ≤ n) (h1 : n < 65536) : bv (hi n) = .int .u8 (n / 256) := by unfold bv; rw [Zgo]; exact Ze1 (by omega)
theorem Zxz (n : Int) : bv (lo n) = .int .u8 (n % 256) := by unfold bv; rw [Kk]
def Zbe (g i : Nat) (c : UInt8) (w w' : World) : Prop := w' = w ∨ w' = w.setCell ⟨g, i, none⟩ (bv c)
theorem Xd {i j : Nat} {w' : World} (hij : i ≠ j) (h : Zbe g j c w w') (hq : w.cell? ⟨g, i, none⟩ = some x) : w'.cell? ⟨g, i, none⟩ = some x := by
 rcases h with rfl | rfl
 ·exact hq
 ·rw [World.cell?_setCell_other _ _ _ _ (by intro e; cases e; exact hij rfl)]; exact hq
theorem Zhn (g i : Nat) (x : Value) : Xv (fun _ w => w.cell? ⟨g, i, none⟩ = some x) := fun _ _ _ hg h => (Below.cell hg (Zv h)).trans h
theorem Zar {a : Addr} {u : Value} (h : w.cell? a = some u) : (w.setCell a x).cell? a = some x := World.cell?_setCell_same w a x h
def Zhj (g : Nat) (W : World) (xs ys : List UInt8) (w : World) : Prop := Zo g W w ∧ ∃ zs, Qy w g zs ∧ zs.length = xs.length ∧ ∀ i : Nat, zs[i]? = xs[i]? ∨ zs[i]? = ys[i]?
theorem Zhj.start (h : Qy W g xs) : Zhj g W xs ys W.drew := ⟨(Zo.refl _ _).drew, xs, h, rfl, fun _ => .inl rfl⟩
theorem Zhj.store (h : Zhj g W xs ys w) (i : Nat) (hi : i < xs.length) (hc : ys[i]? = some c) :
  (∃ u : Int, w.cell? ⟨g, i, none⟩ = some (.int .u8 u)) ∧ w.frozen? ⟨g, i, none⟩ = false ∧ Zhj g W xs ys (w.setCell ⟨g, i, none⟩ (bv c)) := by
 obtain ⟨zs, h1, h2, h3⟩ := h.2;refine ⟨⟨_, h1.cell i (by omega)⟩, h1.frozen i, h.1.set _ _ _, zs.set i c, h1.set i c, by simp [h2], fun j => ?_⟩;by_cases hj : i = j
 ·subst hj;right;rw [List.getElem?_set_self (by omega), hc]
 ·rw [List.getElem?_set_ne hj];exact h3 j
theorem Zhj.done (h : Zhj g W xs ys w) (hl : ys.length = xs.length) (hd : ∀ (i : Nat) (hi : i < ys.length), xs[i]? ≠ ys[i]? → w.cell? ⟨g, i, none⟩ = some (bv ys[i])) : Qy w g ys := by
 obtain ⟨_, zs, h1, h2, h3⟩ := h;have e : zs = ys := by
  refine List.ext_getElem? fun i => ?_;by_cases hi : i < ys.length
  ·by_cases hx : xs[i]? = ys[i]?
   ·rcases h3 i with h | h
    ·rw [h, hx]
    ·exact h
   ·have h4 := hd i hi hx;rw [h1.cell i (by omega)] at h4;have h5 : zs[i].toNat = ys[i].toNat := by
     have h6 : (zs[i].toNat : Int) = (ys[i].toNat : Int) := by simpa [bv] using h4
     omega
    rw [List.getElem?_eq_getElem (by omega), List.getElem?_eq_getElem hi, UInt8.toNat_inj.1 h5]
  ·rw [List.getElem?_eq_none (by omega), List.getElem?_eq_none (by omega)]
 rw [← e]; exact h1
def Zv8 (k y n at_ : Int) (l : List UInt8) : List UInt8 := [lo k, lo at_, lo y, hi n, lo n, lo (l.length : Int)] ++ List.replicate 8 0
def Zck (k y n at_ : Int) (l : List UInt8) (j : Nat) : List UInt8 := [lo k, lo at_, lo y, hi n, lo n, lo (l.length : Int)] ++ (l.take j ++ List.replicate (8 - j) 0)
theorem Zmr (k y n at_ : Int) (l : List UInt8) : Zck k y n at_ l 0 = Zv8 k y n at_ l := rfl
theorem Zmt (k y n at_ : Int) (l : List UInt8) : Zck k y n at_ l l.length = Zat ⟨k, y, n, l⟩ at_ := by simp [Zck, Zat]
theorem Ziq (k y n at_ : Int) (l : List UInt8) (j : Nat) (hj : j ≤ l.length) (hl : l.length ≤ 8) : (Zck k y n at_ l j).length = 14 := by simp [Zck]; omega
theorem Zms (k y n at_ : Int) (l : List UInt8) (j : Nat) (hj : j < l.length) (hl : l.length ≤ 8) : (Zck k y n at_ l j).set (6 + j) l[j] = Zck k y n at_ l (j + 1) := by
 unfold Zck;have e : 8 - j = (8 - (j + 1)) + 1 := by omega
 have e2 : 6 + j - [lo k, lo at_, lo y, hi n, lo n, lo (l.length : Int)].length - (l.take j).length = 0 := by simp; omega
 rw [List.take_succ_eq_append_getElem hj, List.set_append_right _ _ (by simp), List.set_append_right _ _ (by simp; omega), e2, e, List.replicate_succ, List.set_cons_zero, List.append_assoc (l.take j)];rfl
theorem Zd2 (k y n at_ : Int) (l : List UInt8) (v : Value) (w : World) (hv : Bytes w v l) (hr : Z9 ⟨k, y, n, l⟩ = 0) (h0 : 0 ≤ at_) (h1 : at_ ≤ 255) :
  Calls Tryz.prog 95 #[.agg #[.int .i64 k, .int .i64 y, .int .i64 n, v], .int .i64 at_] w fun e w' => ∃ v', e = .returned v' ∧ w'.ownsRow w.heap.size 5 1 v' 16 ((blk ⟨k, y, n, l⟩ at_).map bv) ∧ Zn w w' := by
 obtain ⟨hk0, hk1, hy0, hy1, hn0, hn1, hl⟩ := Vr hr;clear hr;simp only at hk0 hk1 hy0 hy1 hn0 hn1 hl;obtain ⟨ao, cap, rfl, hnone, hcells⟩ := Yn hv;have mk := Ztk;go_enter Tryz.func95, Tryz.ntmps95;go_wp2_with fail;clear mk;have hrow := Qy.alloc (w.alloc (.cells #[.int .i64 k, .int .i64 y, .int .i64 n, .slice ao l.length cap] 61)) (List.replicate 14 0);have eR : ((List.replicate 14 (0 : UInt8)).map bv).toArray = #[.int .u8 0, .int .u8 0, .int .u8 0, .int .u8 0, .int .u8 0, .int .u8 0, .int .u8 0, .int .u8 0, .int .u8 0, .int .u8 0, .int .u8 0, .int .u8 0, .int .u8 0, .int .u8 0] := by kernel_rfl
 rw [eR] at hrow;clear eR;have c0 : ((w.alloc (.cells #[.int .i64 k, .int .i64 y, .int .i64 n, .slice ao l.length cap] 61)).alloc (.cells #[.int .u8 0, .int .u8 0, .int .u8 0, .int .u8 0, .int .u8 0, .int .u8 0, .int .u8 0, .int .u8 0, .int .u8 0, .int .u8 0, .int .u8 0, .int .u8 0, .int .u8 0, .int .u8 0] 5)).cell? ⟨w.heap.size, 0, none⟩ = some (.int .i64 k) := by
  rw [World.cell?_alloc_past _ _ _ (by simp)]; simp
 have c1 : ((w.alloc (.cells #[.int .i64 k, .int .i64 y, .int .i64 n, .slice ao l.length cap] 61)).alloc (.cells #[.int .u8 0, .int .u8 0, .int .u8 0, .int .u8 0, .int .u8 0, .int .u8 0, .int .u8 0, .int .u8 0, .int .u8 0, .int .u8 0, .int .u8 0, .int .u8 0, .int .u8 0, .int .u8 0] 5)).cell? ⟨w.heap.size, 1, none⟩ = some (.int .i64 y) := by
  rw [World.cell?_alloc_past _ _ _ (by simp)]; simp
 have c2 : ((w.alloc (.cells #[.int .i64 k, .int .i64 y, .int .i64 n, .slice ao l.length cap] 61)).alloc (.cells #[.int .u8 0, .int .u8 0, .int .u8 0, .int .u8 0, .int .u8 0, .int .u8 0, .int .u8 0, .int .u8 0, .int .u8 0, .int .u8 0, .int .u8 0, .int .u8 0, .int .u8 0, .int .u8 0] 5)).cell? ⟨w.heap.size, 2, none⟩ = some (.int .i64 n) := by
  rw [World.cell?_alloc_past _ _ _ (by simp)]; simp
 have c3 : ((w.alloc (.cells #[.int .i64 k, .int .i64 y, .int .i64 n, .slice ao l.length cap] 61)).alloc (.cells #[.int .u8 0, .int .u8 0, .int .u8 0, .int .u8 0, .int .u8 0, .int .u8 0, .int .u8 0, .int .u8 0, .int .u8 0, .int .u8 0, .int .u8 0, .int .u8 0, .int .u8 0, .int .u8 0] 5)).cell? ⟨w.heap.size, 3, none⟩ = some (.slice ao l.length cap) := by
  rw [World.cell?_alloc_past _ _ _ (by simp)]; simp
 have gW := Zp w (.cells #[.int .i64 k, .int .i64 y, .int .i64 n, .slice ao l.length cap] 61) (.cells #[.int .u8 0, .int .u8 0, .int .u8 0, .int .u8 0, .int .u8 0, .int .u8 0, .int .u8 0, .int .u8 0, .int .u8 0, .int .u8 0, .int .u8 0, .int .u8 0, .int .u8 0, .int .u8 0] 5);simp only [World.size_alloc] at hrow;have hbW := Z1 hv gW;generalize World.alloc (World.alloc w _) _ = W at hrow gW c0 c1 c2 c3 hbW ⊢;have hz : w.heap.size < w.heap.size + 1 := by omega
 generalize w.heap.size + 1 = g at hrow hz ⊢;clear hcells
 refine Qj [px (.slice (some ⟨g, 0, none⟩) 14 14), px (.slice (some ⟨g, 0, none⟩) 14 14), px (.slice (some ⟨g, 0, none⟩) 14 14), px (.slice (some ⟨g, 0, none⟩) 14 14), px (.slice (some ⟨g, 0, none⟩) 14 14), px (.slice (some ⟨g, 0, none⟩) 14 14), px (.pointer (some ⟨w.heap.size, 0, none⟩)), px (.int .i64 k), px (.int .u8 k), px (.int .i64 at_), px (.int .u8 at_), px (.pointer (some ⟨w.heap.size, 1, none⟩)), px (.int .i64 y), px (.int .u8 y), px (.pointer (some ⟨w.heap.size, 2, none⟩)), px (.int .i64 n), px (.int .i64 (n / 256)), px (.int .u8 (n / 256)), px (.pointer (some ⟨w.heap.size, 2, none⟩)), px (.int .i64 n), px (.int .i64 (n % 256)), px (.int .u8 (n % 256)), px (.pointer (some ⟨w.heap.size, 3, none⟩)), px (.slice ao l.length cap), px (.int .i64 l.length), px (.int .u8 l.length), px (.pointer (some ⟨g, 0, none⟩)), pl ((fun _ w => w.cell? ⟨g, 0, none⟩ = some (bv (lo k)))), px (.pointer (some ⟨g, 1, none⟩)), pl ((fun _ w => w.cell? ⟨g, 1, none⟩ = some (bv (lo at_)))), px (.pointer (some ⟨g, 2, none⟩)), pl ((fun _ w => w.cell? ⟨g, 2, none⟩ = some (bv (lo y)))), px (.pointer (some ⟨g, 3, none⟩)), pl ((fun _ w => w.cell? ⟨g, 3, none⟩ = some (bv (hi n)))), px (.pointer (some ⟨g, 4, none⟩)), pl ((fun _ w => w.cell? ⟨g, 4, none⟩ = some (bv (lo n)))), px (.pointer (some ⟨g, 5, none⟩)), pl ((fun _ w => w.cell? ⟨g, 5, none⟩ = some (bv (lo (l.length : Int)))))] [none, none, none, none, none, none, none, none, none, none, none, none, none, none, none, none, none, none, none, none, none, none, none, none, none, none, none, some ((Zbe g 0 (lo k))), none, some ((Zbe g 1 (lo at_))), none, some ((Zbe g 2 (lo y))), none, some ((Zbe g 3 (hi n))), none, some ((Zbe g 4 (lo n))), none, some ((Zbe g 5 (lo (l.length : Int))))] (Zhj g W (List.replicate 14 0) (Zv8 k y n at_ l)) (by kernel_rfl) (by kernel_rfl) ⟨se, se, se, se, se, se, se, se, se, se, se, se, se, se, se, se, se, se, se, se, se, se, se, se, se, se, se, Yj (Zhn g 0 _), se, Yj (Zhn g 1 _), se, Yj (Zhn g 2 _), se, Yj (Zhn g 3 _), se, Yj (Zhn g 4 _), se, Yj (Zhn g 5 _), trivial⟩ ⟨⟨(fun w => .inl rfl), ⟨x5, x5, x5, x5, x5, x5, x5, x5, x5, x5, x5, x5, x5, x5, x5, x5, x5, x5, x5, x5, x5, x5, x5, x5, x5, x5, x5, .inl (by kernel_rfl), .inl (by kernel_rfl), .inl (by kernel_rfl), .inl (by kernel_rfl), .inl (by kernel_rfl), .inl (by kernel_rfl), .inl (by kernel_rfl), .inl (by kernel_rfl), .inl (by kernel_rfl), .inl (by kernel_rfl), .inl (by kernel_rfl), trivial⟩⟩, ⟨(fun w => .inl rfl), ⟨x5, x5, x5, x5, x5, x5, x5, x5, x5, x5, x5, x5, x5, x5, x5, x5, x5, x5, x5, x5, x5, x5, x5, x5, x5, x5, x5, .inr ((fun _ _ _ _ hs hq => Xd (by decide) hs hq)), x5, .inl (by kernel_rfl), .inl (by kernel_rfl), .inl (by kernel_rfl), .inl (by kernel_rfl), .inl (by kernel_rfl), .inl (by kernel_rfl), .inl (by kernel_rfl), .inl (by kernel_rfl), .inl (by kernel_rfl), trivial⟩⟩, ⟨(fun w => .inl rfl), ⟨x5, x5, x5, x5, x5, x5, x5, x5, x5, x5, x5, x5, x5, x5, x5, x5, x5, x5, x5, x5, x5, x5, x5, x5, x5, x5, x5, .inr ((fun _ _ _ _ hs hq => Xd (by decide) hs hq)), x5, .inr ((fun _ _ _ _ hs hq => Xd (by decide) hs hq)), x5, .inl (by kernel_rfl), .inl (by kernel_rfl), .inl (by kernel_rfl), .inl (by kernel_rfl), .inl (by kernel_rfl), .inl (by kernel_rfl), .inl (by kernel_rfl), trivial⟩⟩, ⟨(fun w => .inl rfl), ⟨x5, x5, x5, x5, x5, x5, x5, x5, x5, x5, x5, x5, x5, x5, x5, x5, x5, x5, x5, x5, x5, x5, x5, x5, x5, x5, x5, .inr ((fun _ _ _ _ hs hq => Xd (by decide) hs hq)), x5, .inr ((fun _ _ _ _ hs hq => Xd (by decide) hs hq)), x5, .inr ((fun _ _ _ _ hs hq => Xd (by decide) hs hq)), x5, .inl (by kernel_rfl), .inl (by kernel_rfl), .inl (by kernel_rfl), .inl (by kernel_rfl), .inl (by kernel_rfl), trivial⟩⟩, ⟨(fun w => .inl rfl), ⟨x5, x5, x5, x5, x5, x5, x5, x5, x5, x5, x5, x5, x5, x5, x5, x5, x5, x5, x5, x5, x5, x5, x5, x5, x5, x5, x5, .inr ((fun _ _ _ _ hs hq => Xd (by decide) hs hq)), x5, .inr ((fun _ _ _ _ hs hq => Xd (by decide) hs hq)), x5, .inr ((fun _ _ _ _ hs hq => Xd (by decide) hs hq)), x5, .inr ((fun _ _ _ _ hs hq => Xd (by decide) hs hq)), x5, .inl (by kernel_rfl), .inl (by kernel_rfl), .inl (by kernel_rfl), trivial⟩⟩, ⟨(fun w => .inl rfl), ⟨x5, x5, x5, x5, x5, x5, x5, x5, x5, x5, x5, x5, x5, x5, x5, x5, x5, x5, x5, x5, x5, x5, x5, x5, x5, x5, x5, .inr ((fun _ _ _ _ hs hq => Xd (by decide) hs hq)), x5, .inr ((fun _ _ _ _ hs hq => Xd (by decide) hs hq)), x5, .inr ((fun _ _ _ _ hs hq => Xd (by decide) hs hq)), x5, .inr ((fun _ _ _ _ hs hq => Xd (by decide) hs hq)), x5, .inr ((fun _ _ _ _ hs hq => Xd (by decide) hs hq)), x5, .inl (by kernel_rfl), trivial⟩⟩, trivial⟩ ⟨n5, n5, n5, n5, n5, n5, n5, n5, n5, n5, n5, n5, n5, n5, n5, n5, n5, n5, n5, n5, n5, n5, n5, n5, n5, n5, n5, fun _ _ _ _ h => h, n5, fun _ _ _ _ h => h, n5, fun _ _ _ _ h => h, n5, fun _ _ _ _ h => h, n5, fun _ _ _ _ h => h, n5, fun _ _ _ _ h => h, trivial⟩ (Zhj.start hrow) ?_ ?_
 ·refine ⟨?_, ?_, ?_, ?_, ?_, ?_, ?_, ?_, ?_, ?_, ?_, ?_, ?_, ?_, ?_, ?_, ?_, ?_, ?_, ?_, ?_, ?_, ?_, ?_, ?_, ?_, ?_, ?_, ?_, ?_, ?_, ?_, ?_, ?_, ?_, ?_, ?_, ?_, trivial⟩
  ·exact Zk rfl fun a _ _ _ B A => Z6 rfl B (Zl A 5 rfl)
  ·exact Zk rfl fun a _ _ _ B A => Z6 rfl B (Zl A 5 rfl)
  ·exact Zk rfl fun a _ _ _ B A => Z6 rfl B (Zl A 5 rfl)
  ·exact Zk rfl fun a _ _ _ B A => Z6 rfl B (Zl A 5 rfl)
  ·exact Zk rfl fun a _ _ _ B A => Z6 rfl B (Zl A 5 rfl)
  ·exact Zk rfl fun a _ _ _ B A => Z6 rfl B (Zl A 5 rfl)
  ·refine Zk rfl fun a _ _ _ B A => ?_;have e2 : a (.tmp 2) = .pointer (some ⟨w.heap.size, 0, none⟩) := Zl A 2 rfl;refine Zh ?_ B rfl;clear A B;go_simp;all_goals go_arith
  ·refine Zk rfl fun a _ _ _ B A => ?_;have e15 : a (.tmp 15) = _ := Ze A 6 rfl;have h1 := (B.1.cell (p := ⟨w.heap.size, 0, none⟩) (Zv c0) (by show w.heap.size ≠ g; omega)).trans c0;refine Zh ?_ B rfl;clear A B;go_simp;all_goals go_arith
  ·refine Zk rfl fun a _ _ _ B A => ?_;have e16 : a (.tmp 16) = _ := Ze A 7 rfl;refine Zh ?_ B rfl;clear A B;go_simp;all_goals go_arith
  ·exact Zk rfl fun a _ _ _ B A => Z6 rfl B (Zl A 1 rfl)
  ·refine Zk rfl fun a _ _ _ B A => ?_;have e18 : a (.tmp 18) = _ := Ze A 9 rfl;refine Zh ?_ B rfl;clear A B;go_simp;all_goals go_arith
  ·refine Zk rfl fun a _ _ _ B A => ?_;have e2 : a (.tmp 2) = .pointer (some ⟨w.heap.size, 0, none⟩) := Zl A 2 rfl;refine Zh ?_ B rfl;clear A B;go_simp;all_goals go_arith
  ·refine Zk rfl fun a _ _ _ B A => ?_;have e20 : a (.tmp 20) = _ := Ze A 11 rfl;have h1 := (B.1.cell (p := ⟨w.heap.size, 1, none⟩) (Zv c1) (by show w.heap.size ≠ g; omega)).trans c1;refine Zh ?_ B rfl;clear A B;go_simp;all_goals go_arith
  ·refine Zk rfl fun a _ _ _ B A => ?_;have e21 : a (.tmp 21) = _ := Ze A 12 rfl;refine Zh ?_ B rfl;clear A B;go_simp;all_goals go_arith
  ·refine Zk rfl fun a _ _ _ B A => ?_;have e2 : a (.tmp 2) = .pointer (some ⟨w.heap.size, 0, none⟩) := Zl A 2 rfl;refine Zh ?_ B rfl;clear A B;go_simp;all_goals go_arith
  ·refine Zk rfl fun a _ _ _ B A => ?_;have e23 : a (.tmp 23) = _ := Ze A 14 rfl;have h1 := (B.1.cell (p := ⟨w.heap.size, 2, none⟩) (Zv c2) (by show w.heap.size ≠ g; omega)).trans c2;refine Zh ?_ B rfl;clear A B;go_simp;all_goals go_arith
  ·refine Zk rfl fun a _ _ _ B A => ?_;have e24 : a (.tmp 24) = _ := Ze A 15 rfl;have hd : n.tdiv 256 = n / 256 := Int.tdiv_eq_ediv_of_nonneg hn0;refine Zh ?_ B rfl;clear A B;go_simp;all_goals go_arith
  ·refine Zk rfl fun a _ _ _ B A => ?_;have e25 : a (.tmp 25) = _ := Ze A 16 rfl;refine Zh ?_ B rfl;clear A B;go_simp;all_goals go_arith
  ·refine Zk rfl fun a _ _ _ B A => ?_;have e2 : a (.tmp 2) = .pointer (some ⟨w.heap.size, 0, none⟩) := Zl A 2 rfl;refine Zh ?_ B rfl;clear A B;go_simp;all_goals go_arith
  ·refine Zk rfl fun a _ _ _ B A => ?_;have e27 : a (.tmp 27) = _ := Ze A 18 rfl;have h1 := (B.1.cell (p := ⟨w.heap.size, 2, none⟩) (Zv c2) (by show w.heap.size ≠ g; omega)).trans c2;refine Zh ?_ B rfl;clear A B;go_simp;all_goals go_arith
  ·refine Zk rfl fun a _ _ _ B A => ?_;have e28 : a (.tmp 28) = _ := Ze A 19 rfl;have hd : n.tmod 256 = n % 256 := Int.tmod_eq_emod_of_nonneg hn0;refine Zh ?_ B rfl;clear A B;go_simp;all_goals go_arith
  ·refine Zk rfl fun a _ _ _ B A => ?_;have e29 : a (.tmp 29) = _ := Ze A 20 rfl;refine Zh ?_ B rfl;clear A B;go_simp;all_goals go_arith
  ·refine Zk rfl fun a _ _ _ B A => ?_;have e2 : a (.tmp 2) = .pointer (some ⟨w.heap.size, 0, none⟩) := Zl A 2 rfl;refine Zh ?_ B rfl;clear A B;go_simp;all_goals go_arith
  ·refine Zk rfl fun a _ _ _ B A => ?_;have e31 : a (.tmp 31) = _ := Ze A 22 rfl;have h1 := (B.1.cell (p := ⟨w.heap.size, 3, none⟩) (Zv c3) (by show w.heap.size ≠ g; omega)).trans c3;refine Zh ?_ B rfl;clear A B;go_simp;all_goals go_arith
  ·refine Zk rfl fun a _ _ _ B A => ?_;have e32 : a (.tmp 32) = _ := Ze A 23 rfl;refine Zh ?_ B rfl;clear A B;go_simp;all_goals go_arith
  ·refine Zk rfl fun a _ _ _ B A => ?_;have e33 : a (.tmp 33) = _ := Ze A 24 rfl;refine Zh ?_ B rfl;clear A B;go_simp;all_goals go_arith
  ·refine Zk rfl fun a _ _ _ B A => ?_;have e9 : a (.tmp 9) = _ := Ze A 0 rfl;refine Zh ?_ B rfl;clear A B;go_simp;all_goals go_arith
  ·refine Zk rfl fun a w' _ _ B A => ?_;have e35 : a (.tmp 35) = _ := Ze A 26 rfl;have e17 : a (.tmp 17) = _ := Ze A 8 rfl;obtain ⟨⟨u, h1⟩, h2, h3⟩ := B.store 0 (by simp) rfl;refine Yg (w' := w'.setCell ⟨g, 0, none⟩ (bv (lo k))) ?_ (.inr rfl) h3 (Zar h1);have e1 : bv (lo k) = a (.tmp 17) := by rw [e17]; exact Zgz _ (by omega) (by omega)
   rw [e1];clear e1 A B h3;go_simp;all_goals go_arith
  ·refine Zk rfl fun a _ _ _ B A => ?_;have e10 : a (.tmp 10) = _ := Ze A 1 rfl;refine Zh ?_ B rfl;clear A B;go_simp;all_goals go_arith
  ·refine Zk rfl fun a w' _ _ B A => ?_;have e36 : a (.tmp 36) = _ := Ze A 28 rfl;have e19 : a (.tmp 19) = _ := Ze A 10 rfl;obtain ⟨⟨u, h1⟩, h2, h3⟩ := B.store 1 (by simp) rfl;refine Yg (w' := w'.setCell ⟨g, 1, none⟩ (bv (lo at_))) ?_ (.inr rfl) h3 (Zar h1);have e1 : bv (lo at_) = a (.tmp 19) := by rw [e19]; exact Zgz _ (by omega) (by omega)
   rw [e1];clear e1 A B h3;go_simp;all_goals go_arith
  ·refine Zk rfl fun a _ _ _ B A => ?_;have e11 : a (.tmp 11) = _ := Ze A 2 rfl;refine Zh ?_ B rfl;clear A B;go_simp;all_goals go_arith
  ·refine Zk rfl fun a w' _ _ B A => ?_;have e37 : a (.tmp 37) = _ := Ze A 30 rfl;have e22 : a (.tmp 22) = _ := Ze A 13 rfl;obtain ⟨⟨u, h1⟩, h2, h3⟩ := B.store 2 (by simp) rfl;refine Yg (w' := w'.setCell ⟨g, 2, none⟩ (bv (lo y))) ?_ (.inr rfl) h3 (Zar h1);have e1 : bv (lo y) = a (.tmp 22) := by rw [e22]; exact Zgz _ (by omega) (by omega)
   rw [e1];clear e1 A B h3;go_simp;all_goals go_arith
  ·refine Zk rfl fun a _ _ _ B A => ?_;have e12 : a (.tmp 12) = _ := Ze A 3 rfl;refine Zh ?_ B rfl;clear A B;go_simp;all_goals go_arith
  ·refine Zk rfl fun a w' _ _ B A => ?_;have e38 : a (.tmp 38) = _ := Ze A 32 rfl;have e26 : a (.tmp 26) = _ := Ze A 17 rfl;obtain ⟨⟨u, h1⟩, h2, h3⟩ := B.store 3 (by simp) rfl;refine Yg (w' := w'.setCell ⟨g, 3, none⟩ (bv (hi n))) ?_ (.inr rfl) h3 (Zar h1);have e1 : bv (hi n) = a (.tmp 26) := by rw [e26]; exact Zyn n hn0 (by omega)
   rw [e1];clear e1 A B h3;go_simp;all_goals go_arith
  ·refine Zk rfl fun a _ _ _ B A => ?_;have e13 : a (.tmp 13) = _ := Ze A 4 rfl;refine Zh ?_ B rfl;clear A B;go_simp;all_goals go_arith
  ·refine Zk rfl fun a w' _ _ B A => ?_;have e39 : a (.tmp 39) = _ := Ze A 34 rfl;have e30 : a (.tmp 30) = _ := Ze A 21 rfl;obtain ⟨⟨u, h1⟩, h2, h3⟩ := B.store 4 (by simp) rfl;refine Yg (w' := w'.setCell ⟨g, 4, none⟩ (bv (lo n))) ?_ (.inr rfl) h3 (Zar h1);have e1 : bv (lo n) = a (.tmp 30) := by rw [e30]; exact Zxz n
   rw [e1];clear e1 A B h3;go_simp;all_goals go_arith
  ·refine Zk rfl fun a _ _ _ B A => ?_;have e14 : a (.tmp 14) = _ := Ze A 5 rfl;refine Zh ?_ B rfl;clear A B;go_simp;all_goals go_arith
  ·refine Zk rfl fun a w' _ _ B A => ?_;have e40 : a (.tmp 40) = _ := Ze A 36 rfl;have e34 : a (.tmp 34) = _ := Ze A 25 rfl;obtain ⟨⟨u, h1⟩, h2, h3⟩ := B.store 5 (by simp) rfl;refine Yg (w' := w'.setCell ⟨g, 5, none⟩ (bv (lo (l.length : Int)))) ?_ (.inr rfl) h3 (Zar h1);have e1 : bv (lo (l.length : Int)) = a (.tmp 34) := by rw [e34]; exact Zgz _ (by omega) (by omega)
   rw [e1];clear e1 A B h3;go_simp;all_goals go_arith
 ·intro vs w' hg ht;obtain ⟨q9, q10, q11, q12, q13, q14, q15, q16, q17, q18, q19, q20, q21, q22, q23, q24, q25, q26, q27, q28, q29, q30, q31, q32, q33, q34, q35, qo27, q36, qo29, q37, qo31, q38, qo33, q39, qo35, q40, qo37, -⟩ := ht;have r9 : vs 0 = _ := q9;have r10 : vs 1 = _ := q10;have r11 : vs 2 = _ := q11;have r12 : vs 3 = _ := q12;have r13 : vs 4 = _ := q13;have r14 : vs 5 = _ := q14;have r15 : vs 6 = _ := q15;have r16 : vs 7 = _ := q16;have r17 : vs 8 = _ := q17;have r18 : vs 9 = _ := q18;have r19 : vs 10 = _ := q19;have r20 : vs 11 = _ := q20;have r21 : vs 12 = _ := q21;have r22 : vs 13 = _ := q22;have r23 : vs 14 = _ := q23;have r24 : vs 15 = _ := q24;have r25 : vs 16 = _ := q25;have r26 : vs 17 = _ := q26;have r27 : vs 18 = _ := q27;have r28 : vs 19 = _ := q28;have r29 : vs 20 = _ := q29;have r30 : vs 21 = _ := q30;have r31 : vs 22 = _ := q31;have r32 : vs 23 = _ := q32;have r33 : vs 24 = _ := q33;have r34 : vs 25 = _ := q34;have r35 : vs 26 = _ := q35;replace qo27 : ((fun _ w => w.cell? ⟨g, 0, none⟩ = some (bv (lo k)))) (vs 27) w' := qo27;have r36 : vs 28 = _ := q36;replace qo29 : ((fun _ w => w.cell? ⟨g, 1, none⟩ = some (bv (lo at_)))) (vs 29) w' := qo29;have r37 : vs 30 = _ := q37;replace qo31 : ((fun _ w => w.cell? ⟨g, 2, none⟩ = some (bv (lo y)))) (vs 31) w' := qo31;have r38 : vs 32 = _ := q38;replace qo33 : ((fun _ w => w.cell? ⟨g, 3, none⟩ = some (bv (hi n)))) (vs 33) w' := qo33;have r39 : vs 34 = _ := q39
  replace qo35 : ((fun _ w => w.cell? ⟨g, 4, none⟩ = some (bv (lo n)))) (vs 35) w' := qo35;have r40 : vs 36 = _ := q40;replace qo37 : ((fun _ w => w.cell? ⟨g, 5, none⟩ = some (bv (lo (l.length : Int))))) (vs 37) w' := qo37;clear q9 q10 q11 q12 q13 q14 q15 q16 q17 q18 q19 q20 q21 q22 q23 q24 q25 q26 q27 q28 q29 q30 q31 q32 q33 q34 q35 q36 q37 q38 q39 q40;simp only [Yi, Act.put, List.setIfInBounds_toArray, List.set_cons_zero, List.set_cons_succ, r9, r10, r11, r12, r13, r14, r15, r16, r17, r18, r19, r20, r21, r22, r23, r24, r25, r26, r27, r28, r29, r30, r31, r32, r33, r34, r35, r36, r37, r38, r39, r40];clear r9 r10 r11 r12 r13 r14 r15 r16 r17 r18 r19 r20 r21 r22 r23 r24 r25 r26 r27 r28 r29 r30 r31 r32 r33 r34 r35 r36 r37 r38 r39 r40;have hR : Qy w' g (Zck k y n at_ l 0) := by
   rw [Zmr];refine Zhj.done hg (by simp [Zv8]) fun i hi hne => ?_
   match i with
   | 0 => exact qo27
   | 1 => exact qo29
   | 2 => exact qo31
   | 3 => exact qo33
   | 4 => exact qo35
   | 5 => exact qo37
   | i + 6 =>
    exfalso;apply hne;have : i < 8 := by simp [Zv8] at hi; omega
    rw [List.getElem?_replicate, if_pos (by omega)];show _ = (List.replicate 8 (0 : UInt8))[i]?;rw [List.getElem?_replicate, if_pos (by omega)]
  have hvb : ∀ b o n c, Value.slice ao l.length cap = .slice (some ⟨b, o, none⟩) n c → l.length ≠ 0 → b < w.heap.size := by
   intro b o n c e hne;cases e;rcases hv with ⟨ao, cp, h2, h3, _⟩ | ⟨b', o', cp, h2, h3, h4⟩
   ·rw [h3] at hne; exact absurd rfl hne
   ·cases h2;exact Zv (h4 0 (by omega))
  have c3' := (hg.1.cell (p := ⟨w.heap.size, 3, none⟩) (Zv c3) (by show w.heap.size ≠ g; omega)).trans c3;have gw' : Zn w w' := hg.1.grow gW (by omega);clear qo27 qo29 qo31 qo33 qo35 qo37 hg c0 c1 c2 c3 gW hbW hrow hnone;go_wp2_with fail;go_loopw [44] (fun i wr => ∃ j : Nat, j ≤ l.length ∧ i = .int .i64 j ∧ Zn w wr ∧ Qy wr g (Zck k y n at_ l j)) (fun i _ => l.length - (intOf i).toNat)
  case atStart => exact ⟨0, Nat.zero_le _, rfl, gw', hR⟩
  case round =>
   obtain ⟨j, hj, rfl, hgr, hrw⟩ := hrel;by_cases hlt : j < l.length
   ·rcases hv with ⟨_, _, _, h3, _⟩ | ⟨b, off, cp, h2, h3, h4⟩
    ·rw [h3] at hlt; simp at hlt
    ·cases h2;have hcell := (Below.cell hgr (Zv (h4 j hlt))).trans (h4 j hlt);have hcg := hrw.cell (6 + j) (by rw [Ziq _ _ _ _ _ _ hj hl]; omega);have hfg := hrw.frozen (6 + j);have HR := hrw.set (6 + j) l[j];rw [Zms _ _ _ _ _ _ hlt hl] at HR;have hG := Zx hgr (a := ⟨g, 6 + j, none⟩) (by show w.heap.size ≤ g; omega) (.int .u8 (l[j].toNat : Int));clear h4 hrw hgr;go_wp2;go_roundw
     case rel => exact ⟨j + 1, by omega, by go_num, hG, HR⟩
     case measure => simp [intOf]; omega
   ·have ej : j = l.length := by omega
    subst ej;rw [Zmt] at hrw;have hB := hrw.bytes 0 14 14 (by rw [Qq _ _ hl]; omega) (by omega);rw [List.drop_zero, List.take_of_length_le (by rw [Qq _ _ hl]; omega)] at hB;clear hv hvb hrw;go_wp2_with fail;refine (Zhs _ _ _ (by rw [Qq _ _ hl]; omega) hB).mono ?_;rintro e w3 ⟨v', rfl, ho, g3⟩;rw [Qq _ _ hl] at ho;go_wp2;go_ret;exact ⟨_, rfl, Yk ho hgr.size, hgr.trans g3⟩
end Go.Proofs.YtpdnapbchcdhlacGreat
