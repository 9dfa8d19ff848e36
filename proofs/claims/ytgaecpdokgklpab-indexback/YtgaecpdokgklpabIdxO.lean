/-
  How the program's order tells two entries apart; and its own, which copies an entry.
  Condition: the entry lies in memory.
-/
import Derived.Test.YtgaecpdokgklpabREnt
import Derived.Test.YtgaecpdokgklpabRowApp
import Derived.Test.YtgaecpdokgklpabOwn
namespace Go.Proofs.Ytgaecpdokgklpab
set_option maxRecDepth 100000
open Go.RowKit
open Go.Proofs.Ytgaecpdokgklpab.Plain Go.Proofs.Ytgaecpdokgklpab.Reg

/-- How two entries stand to each other. -/
def cmpI (x y : Int) : Int := if x < y then -1 else if y < x then 1 else 0
def ordI (x y : Ent) : Int := if cmpI x.rc.key y.rc.key ≠ 0 then cmpI x.rc.key y.rc.key else if cmpI x.rc.ver y.rc.ver ≠ 0 then cmpI x.rc.ver y.rc.ver else cmpI x.pair y.pair
theorem cmpI_bd (x y : Int) : -1 ≤ cmpI x y ∧ cmpI x y ≤ 1 := by unfold cmpI; split <;> (try split) <;> omega
theorem cmpI_eq (x y : Int) : cmpI x y = 0 ↔ x = y := by unfold cmpI; split <;> (try split) <;> omega
theorem cmpI_lt (x y : Int) : cmpI x y < 0 ↔ x < y := by unfold cmpI; split <;> (try split) <;> omega
theorem cmpI_gt (x y : Int) : 0 < cmpI x y ↔ y < x := by unfold cmpI; split <;> (try split) <;> omega
theorem ordI_bd (x y : Ent) : -1 ≤ ordI x y ∧ ordI x y ≤ 1 := by
 unfold ordI; split
 ·exact cmpI_bd _ _
 ·split <;> exact cmpI_bd _ _
theorem ordI_lt (x y : Ent) : (decide (ordI x y < 0)) = lessB x y := by
 rw [Bool.eq_iff_iff, decide_eq_true_eq]
 unfold ordI lessB
 by_cases hk : x.rc.key = y.rc.key
 ·rw [if_neg (by simpa using (cmpI_eq _ _).2 hk), if_pos hk]
  by_cases hv : x.rc.ver = y.rc.ver
  ·rw [if_neg (by simpa using (cmpI_eq _ _).2 hv), if_pos hv, cmpI_lt, decide_eq_true_eq]
  ·rw [if_pos (fun h => hv ((cmpI_eq _ _).1 h)), if_neg hv, cmpI_lt, decide_eq_true_eq]
 ·rw [if_pos (fun h => hk ((cmpI_eq _ _).1 h)), if_neg hk, cmpI_lt, decide_eq_true_eq]
theorem ordI_gt (x y : Ent) : (decide (0 < ordI x y)) = lessB y x := by
 rw [Bool.eq_iff_iff, decide_eq_true_eq]
 unfold ordI lessB
 by_cases hk : x.rc.key = y.rc.key
 ·rw [if_neg (by simpa using (cmpI_eq _ _).2 hk), if_pos hk.symm]
  by_cases hv : x.rc.ver = y.rc.ver
  ·rw [if_neg (by simpa using (cmpI_eq _ _).2 hv), if_pos hv.symm, cmpI_gt, decide_eq_true_eq]
  ·rw [if_pos (fun h => hv ((cmpI_eq _ _).1 h)), if_neg (fun h => hv h.symm), cmpI_gt, decide_eq_true_eq]
 ·rw [if_pos (fun h => hk ((cmpI_eq _ _).1 h)), if_neg (fun h => hk h.symm), cmpI_gt, decide_eq_true_eq]

theorem upon_make {P : Program} {w w' : World} {R : Value → World → Prop} {o : Oper} {ev : Operand → Value} {v : Value} (h : (execOp ev o).run P w = .ok (.value v) w') (hg : Grow w w') (hv : R v w') : upon P w R ((execOp ev o).run P w) := by
 rw [h]; exact ⟨hg, hv⟩
theorem nan_any (x : Int) (w : World) : Calls Try.prog 101 #[.int .i64 x] w fun e w' => e = .returned (.bool false) ∧ w' = w := by
 have d0 : (x != x) = false := by simp
 go_enter Try.func101, Try.ntmps101
 go_wp2_with fail
 go_ret
 exact ⟨rfl, rfl⟩
theorem cmp_any (x y : Int) (w : World) : Calls Try.prog 77 #[.int .i64 x, .int .i64 y] w fun e w' => e = .returned (.int .i64 (cmpI x y)) ∧ w' = w := by
 by_cases h1 : x < y
 ·have HC : Hid (cmpI x y = -1) := by show _ = _; unfold cmpI; rw [if_pos h1]
  rw [HC.out]
  go_enter Try.func77, Try.ntmps77
  go_wp2_with fail
  refine (nan_any _ _).mono ?_
  rintro e w1 ⟨rfl, rfl⟩
  go_wp2_with fail
  refine (nan_any _ _).mono ?_
  rintro e w1 ⟨rfl, rfl⟩
  go_wp2_with fail
  go_ret
  exact ⟨rfl, rfl⟩
 ·by_cases h2 : y < x
  ·have HC : Hid (cmpI x y = 1) := by show _ = _; unfold cmpI; rw [if_neg h1, if_pos h2]
   rw [HC.out]
   go_enter Try.func77, Try.ntmps77
   go_wp2_with fail
   refine (nan_any _ _).mono ?_
   rintro e w1 ⟨rfl, rfl⟩
   go_wp2_with fail
   refine (nan_any _ _).mono ?_
   rintro e w1 ⟨rfl, rfl⟩
   go_wp2_with fail
   go_ret
   exact ⟨rfl, rfl⟩
  ·have HC : Hid (cmpI x y = 0) := by show _ = _; unfold cmpI; rw [if_neg h1, if_neg h2]
   rw [HC.out]
   go_enter Try.func77, Try.ntmps77
   go_wp2_with fail
   refine (nan_any _ _).mono ?_
   rintro e w1 ⟨rfl, rfl⟩
   go_wp2_with fail
   refine (nan_any _ _).mono ?_
   rintro e w1 ⟨rfl, rfl⟩
   go_wp2_with fail
   go_ret
   exact ⟨rfl, rfl⟩
def orN : List Int → Int
 | [] => 0
 | v :: l => if v ≠ 0 then v else orN l
set_option maxHeartbeats 1000000 in
theorem or_any (vs : List Int) (b cap : Nat) (w : World) (hn : vs.length ≤ 1000) (hc : ∀ (j : Nat) (h : j < vs.length), w.cell? ⟨b, j, none⟩ = some (.int .i64 vs[j])) :
  Calls Try.prog 76 #[.slice (some ⟨b, 0, none⟩) vs.length cap] w fun e w' => e = .returned (.int .i64 (orN vs)) ∧ Grow w w' := by
 obtain ⟨R, hR⟩ : ∃ R, R = orN vs := ⟨_, rfl⟩
 rw [← hR]
 have HR : Hid _ := hR
 clear hR
 go_enter Try.func76, Try.ntmps76
 go_wp2_with fail
 go_loopw [8] (fun i wr => ∃ k : Nat, k ≤ vs.length ∧ i = .int .i64 k ∧ R = orN (vs.drop k) ∧ Grow w wr) (fun i _ => vs.length - (intOf i).toNat)
 case atStart => exact ⟨0, Nat.zero_le _, rfl, HR.out, Grow.refl _⟩
 case round =>
  obtain ⟨k, hk, rfl, hRk, hg⟩ := hrel
  have HK : Hid (R = orN (vs.drop k)) := hRk
  clear hRk
  by_cases hlt : k < vs.length
  ·have q0 := (Below.cell hg (cell_lt (hc k hlt))).trans (hc k hlt)
   have HX : Hid (R = if vs[k] ≠ 0 then vs[k] else orN (vs.drop (k + 1))) := by show R = _; rw [HK.out, List.drop_eq_getElem_cons hlt]; rfl
   generalize vs[k] = x at *
   clear HK
   by_cases hx : x = 0
   ·have HY : Hid (R = orN (vs.drop (k + 1))) := by show R = _; rw [HX.out, if_neg (by simpa using hx)]
    have d0 : (x != 0) = false := by simp [hx]
    clear HX hx
    go_wp2_with fail
    go_roundw
    case rel => exact ⟨k + 1, by omega, by go_num, HY.out, hg⟩
    case measure => simp [intOf]; omega
   ·have HY : Hid (R = x) := by show R = _; rw [HX.out, if_pos hx]
    have d0 : (x != 0) = true := by simp [hx]
    clear HX hx
    go_wp2_with fail
    go_ret
    exact ⟨by rw [HY.out]; rfl, hg⟩
  ·have HY : Hid (R = 0) := by show R = _; rw [HK.out, List.drop_eq_nil_of_le (by omega)]; rfl
   clear HK
   go_wp2_with fail
   go_ret
   exact ⟨by rw [HY.out]; rfl, hg⟩
theorem or_three (x y : Ent) : orN [cmpI x.rc.key y.rc.key, cmpI x.rc.ver y.rc.ver, cmpI x.pair y.pair] = ordI x y := by
 unfold ordI
 simp only [orN]
 split
 ·rfl
 ·split
  ·rfl
  ·split
   ·rfl
   ·rename_i h; exact (Decidable.of_not_not h).symm
/-- A row of three numbers. -/
def ThreeI (n0 n1 n2 : Int) (v : Value) (w : World) : Prop := ∃ g, v = .slice (some ⟨g, 0, none⟩) 3 3 ∧ w.heap[g]? = some (.cells #[.int .i64 n0, .int .i64 n1, .int .i64 n2] 3 (0, 0))
theorem st_threeI (n0 n1 n2 : Int) : Stable (ThreeI n0 n1 n2) := by
 rintro v w w' hg ⟨g, h1, h2⟩; exact ⟨g, h1, (hg.block _ (heap_lt h2)).trans h2⟩

set_option maxHeartbeats 4000000 in
theorem order_any (x y : Ent) (a0 a1 : Option Addr) (c0 c1 : Nat) (w : World) :
  Calls Try.prog 39 #[.agg #[.int .i64 x.rc.kind, .int .i64 x.rc.key, .int .i64 x.rc.ver, .slice a0 x.rc.data.length c0, .int .i64 x.pair], .agg #[.int .i64 y.rc.kind, .int .i64 y.rc.key, .int .i64 y.rc.ver, .slice a1 y.rc.data.length c1, .int .i64 y.pair]] w fun e w' => e = .returned (.int .i64 (ordI x y)) ∧ Grow w w' := by
 have g0 := grow_alloc2 w (.cells #[.int .i64 x.rc.kind, .int .i64 x.rc.key, .int .i64 x.rc.ver, .slice a0 x.rc.data.length c0, .int .i64 x.pair] 37) (.cells #[.int .i64 y.rc.kind, .int .i64 y.rc.key, .int .i64 y.rc.ver, .slice a1 y.rc.data.length c1, .int .i64 y.pair] 37)
 have hx0 := heap_new w #[.int .i64 x.rc.kind, .int .i64 x.rc.key, .int .i64 x.rc.ver, .slice a0 x.rc.data.length c0, .int .i64 x.pair] 37
 have hy0 := heap_new (w.alloc (.cells #[.int .i64 x.rc.kind, .int .i64 x.rc.key, .int .i64 x.rc.ver, .slice a0 x.rc.data.length c0, .int .i64 x.pair] 37)) #[.int .i64 y.rc.kind, .int .i64 y.rc.key, .int .i64 y.rc.ver, .slice a1 y.rc.data.length c1, .int .i64 y.pair] 37
 have hx1 := ((grow_alloc (w.alloc (.cells #[.int .i64 x.rc.kind, .int .i64 x.rc.key, .int .i64 x.rc.ver, .slice a0 x.rc.data.length c0, .int .i64 x.pair] 37)) (.cells #[.int .i64 y.rc.kind, .int .i64 y.rc.key, .int .i64 y.rc.ver, .slice a1 y.rc.data.length c1, .int .i64 y.pair] 37)).block _ (heap_lt hx0)).trans hx0
 rw [World.size_alloc] at hy0
 clear hx0
 obtain ⟨R, hR⟩ : ∃ R, R = ordI x y := ⟨_, rfl⟩
 rw [← hR]
 have HR : Hid _ := hR
 clear hR
 go_enter Try.func39, Try.ntmps39
 go_wp2_with fail
 generalize World.alloc (World.alloc w _) _ = W at *
 refine wp_region_told [ex (.pointer (some ⟨w.heap.size, 0, none⟩)), ex (.pointer (some ⟨w.heap.size, 1, none⟩)), ex (.int .i64 x.rc.key), ex (.pointer (some ⟨w.heap.size + 1, 0, none⟩)), ex (.pointer (some ⟨w.heap.size + 1, 1, none⟩)), ex (.int .i64 y.rc.key), ex (.int .i64 (cmpI x.rc.key y.rc.key)), ex (.pointer (some ⟨w.heap.size, 0, none⟩)), ex (.pointer (some ⟨w.heap.size, 2, none⟩)), ex (.int .i64 x.rc.ver), ex (.pointer (some ⟨w.heap.size + 1, 0, none⟩)), ex (.pointer (some ⟨w.heap.size + 1, 2, none⟩)), ex (.int .i64 y.rc.ver), ex (.int .i64 (cmpI x.rc.ver y.rc.ver)), ex (.pointer (some ⟨w.heap.size, 4, none⟩)), ex (.int .i64 x.pair), ex (.pointer (some ⟨w.heap.size + 1, 4, none⟩)), ex (.int .i64 y.pair), ex (.int .i64 (cmpI x.pair y.pair)), ((ThreeI (cmpI x.rc.key y.rc.key) (cmpI x.rc.ver y.rc.ver) (cmpI x.pair y.pair))), ex (.int .i64 R), ex (.int .i64 R)] (by kernel_rfl) (by kernel_rfl) ⟨st_ex _, st_ex _, st_ex _, st_ex _, st_ex _, st_ex _, st_ex _, st_ex _, st_ex _, st_ex _, st_ex _, st_ex _, st_ex _, st_ex _, st_ex _, st_ex _, st_ex _, st_ex _, st_ex _, st_threeI _ _ _, st_ex _, st_ex _, trivial⟩ ?_ ?_
 ·refine ⟨?_, ?_, ?_, ?_, ?_, ?_, ?_, ?_, ?_, ?_, ?_, ?_, ?_, ?_, ?_, ?_, ?_, ?_, ?_, ?_, ?_, ?_, trivial⟩
  ·refine need_plain rfl (fun a w' hg hin => ?_)
   have e2 : a.eval (.tmp 2) = .pointer (some ⟨w.heap.size, 0, none⟩) := ins_ext hin 2 (by kernel_rfl)
   refine upon_val ?_ rfl
   clear hin hg
   obtain ⟨ek, ef⟩ := evs a
   generalize a.eval = ev at *
   go_simp
   all_goals first | omega | (intro _; omega) | go_arith
  ·refine need_plain rfl (fun a w' hg hin => ?_)
   have e5 : a.eval (.tmp 5) = _ := ins_on hin 0 (by kernel_rfl)
   refine upon_val ?_ rfl
   clear hin hg
   obtain ⟨ek, ef⟩ := evs a
   generalize a.eval = ev at *
   go_simp
   all_goals first | omega | (intro _; omega) | go_arith
  ·refine need_plain rfl (fun a w' hg hin => ?_)
   have e6 : a.eval (.tmp 6) = _ := ins_on hin 1 (by kernel_rfl)
   have h1 := box_cell ((hg.block _ (heap_lt hx1)).trans hx1) 1 _ rfl
   refine upon_val ?_ rfl
   clear hin hg
   obtain ⟨ek, ef⟩ := evs a
   generalize a.eval = ev at *
   go_simp
   all_goals first | omega | (intro _; omega) | go_arith
  ·refine need_plain rfl (fun a w' hg hin => ?_)
   have e3 : a.eval (.tmp 3) = .pointer (some ⟨w.heap.size + 1, 0, none⟩) := ins_ext hin 3 (by kernel_rfl)
   refine upon_val ?_ rfl
   clear hin hg
   obtain ⟨ek, ef⟩ := evs a
   generalize a.eval = ev at *
   go_simp
   all_goals first | omega | (intro _; omega) | go_arith
  ·refine need_plain rfl (fun a w' hg hin => ?_)
   have e8 : a.eval (.tmp 8) = _ := ins_on hin 3 (by kernel_rfl)
   refine upon_val ?_ rfl
   clear hin hg
   obtain ⟨ek, ef⟩ := evs a
   generalize a.eval = ev at *
   go_simp
   all_goals first | omega | (intro _; omega) | go_arith
  ·refine need_plain rfl (fun a w' hg hin => ?_)
   have e9 : a.eval (.tmp 9) = _ := ins_on hin 4 (by kernel_rfl)
   have h1 := box_cell ((hg.block _ (heap_lt hy0)).trans hy0) 1 _ rfl
   refine upon_val ?_ rfl
   clear hin hg
   obtain ⟨ek, ef⟩ := evs a
   generalize a.eval = ev at *
   go_simp
   all_goals first | omega | (intro _; omega) | go_arith
  ·refine need_plain rfl (fun a w' hg hin => ?_)
   have e7 : a.eval (.tmp 7) = _ := ins_on hin 2 (by kernel_rfl)
   have e10 : a.eval (.tmp 10) = _ := ins_on hin 5 (by kernel_rfl)
   refine upon_call (f := 77) (args := #[.int .i64 x.rc.key, .int .i64 y.rc.key]) ?_ ((cmp_any _ _ w').mono ?_)
   ·clear hin hg
    obtain ⟨ek, ef⟩ := evs a
    generalize a.eval = ev at *
    go_simp
    all_goals first | omega | (intro _; omega) | go_arith
   ·rintro e w2 ⟨rfl, rfl⟩
    exact ⟨_, rfl, Grow.refl _, rfl⟩
  ·refine need_plain rfl (fun a w' hg hin => ?_)
   have e2 : a.eval (.tmp 2) = .pointer (some ⟨w.heap.size, 0, none⟩) := ins_ext hin 2 (by kernel_rfl)
   refine upon_val ?_ rfl
   clear hin hg
   obtain ⟨ek, ef⟩ := evs a
   generalize a.eval = ev at *
   go_simp
   all_goals first | omega | (intro _; omega) | go_arith
  ·refine need_plain rfl (fun a w' hg hin => ?_)
   have e12 : a.eval (.tmp 12) = _ := ins_on hin 7 (by kernel_rfl)
   refine upon_val ?_ rfl
   clear hin hg
   obtain ⟨ek, ef⟩ := evs a
   generalize a.eval = ev at *
   go_simp
   all_goals first | omega | (intro _; omega) | go_arith
  ·refine need_plain rfl (fun a w' hg hin => ?_)
   have e13 : a.eval (.tmp 13) = _ := ins_on hin 8 (by kernel_rfl)
   have h1 := box_cell ((hg.block _ (heap_lt hx1)).trans hx1) 2 _ rfl
   refine upon_val ?_ rfl
   clear hin hg
   obtain ⟨ek, ef⟩ := evs a
   generalize a.eval = ev at *
   go_simp
   all_goals first | omega | (intro _; omega) | go_arith
  ·refine need_plain rfl (fun a w' hg hin => ?_)
   have e3 : a.eval (.tmp 3) = .pointer (some ⟨w.heap.size + 1, 0, none⟩) := ins_ext hin 3 (by kernel_rfl)
   refine upon_val ?_ rfl
   clear hin hg
   obtain ⟨ek, ef⟩ := evs a
   generalize a.eval = ev at *
   go_simp
   all_goals first | omega | (intro _; omega) | go_arith
  ·refine need_plain rfl (fun a w' hg hin => ?_)
   have e15 : a.eval (.tmp 15) = _ := ins_on hin 10 (by kernel_rfl)
   refine upon_val ?_ rfl
   clear hin hg
   obtain ⟨ek, ef⟩ := evs a
   generalize a.eval = ev at *
   go_simp
   all_goals first | omega | (intro _; omega) | go_arith
  ·refine need_plain rfl (fun a w' hg hin => ?_)
   have e16 : a.eval (.tmp 16) = _ := ins_on hin 11 (by kernel_rfl)
   have h1 := box_cell ((hg.block _ (heap_lt hy0)).trans hy0) 2 _ rfl
   refine upon_val ?_ rfl
   clear hin hg
   obtain ⟨ek, ef⟩ := evs a
   generalize a.eval = ev at *
   go_simp
   all_goals first | omega | (intro _; omega) | go_arith
  ·refine need_plain rfl (fun a w' hg hin => ?_)
   have e14 : a.eval (.tmp 14) = _ := ins_on hin 9 (by kernel_rfl)
   have e17 : a.eval (.tmp 17) = _ := ins_on hin 12 (by kernel_rfl)
   refine upon_call (f := 77) (args := #[.int .i64 x.rc.ver, .int .i64 y.rc.ver]) ?_ ((cmp_any _ _ w').mono ?_)
   ·clear hin hg
    obtain ⟨ek, ef⟩ := evs a
    generalize a.eval = ev at *
    go_simp
    all_goals first | omega | (intro _; omega) | go_arith
   ·rintro e w2 ⟨rfl, rfl⟩
    exact ⟨_, rfl, Grow.refl _, rfl⟩
  ·refine need_plain rfl (fun a w' hg hin => ?_)
   have e2 : a.eval (.tmp 2) = .pointer (some ⟨w.heap.size, 0, none⟩) := ins_ext hin 2 (by kernel_rfl)
   refine upon_val ?_ rfl
   clear hin hg
   obtain ⟨ek, ef⟩ := evs a
   generalize a.eval = ev at *
   go_simp
   all_goals first | omega | (intro _; omega) | go_arith
  ·refine need_plain rfl (fun a w' hg hin => ?_)
   have e19 : a.eval (.tmp 19) = _ := ins_on hin 14 (by kernel_rfl)
   have h1 := box_cell ((hg.block _ (heap_lt hx1)).trans hx1) 4 _ rfl
   refine upon_val ?_ rfl
   clear hin hg
   obtain ⟨ek, ef⟩ := evs a
   generalize a.eval = ev at *
   go_simp
   all_goals first | omega | (intro _; omega) | go_arith
  ·refine need_plain rfl (fun a w' hg hin => ?_)
   have e3 : a.eval (.tmp 3) = .pointer (some ⟨w.heap.size + 1, 0, none⟩) := ins_ext hin 3 (by kernel_rfl)
   refine upon_val ?_ rfl
   clear hin hg
   obtain ⟨ek, ef⟩ := evs a
   generalize a.eval = ev at *
   go_simp
   all_goals first | omega | (intro _; omega) | go_arith
  ·refine need_plain rfl (fun a w' hg hin => ?_)
   have e21 : a.eval (.tmp 21) = _ := ins_on hin 16 (by kernel_rfl)
   have h1 := box_cell ((hg.block _ (heap_lt hy0)).trans hy0) 4 _ rfl
   refine upon_val ?_ rfl
   clear hin hg
   obtain ⟨ek, ef⟩ := evs a
   generalize a.eval = ev at *
   go_simp
   all_goals first | omega | (intro _; omega) | go_arith
  ·refine need_plain rfl (fun a w' hg hin => ?_)
   have e20 : a.eval (.tmp 20) = _ := ins_on hin 15 (by kernel_rfl)
   have e22 : a.eval (.tmp 22) = _ := ins_on hin 17 (by kernel_rfl)
   refine upon_call (f := 77) (args := #[.int .i64 x.pair, .int .i64 y.pair]) ?_ ((cmp_any _ _ w').mono ?_)
   ·clear hin hg
    obtain ⟨ek, ef⟩ := evs a
    generalize a.eval = ev at *
    go_simp
    all_goals first | omega | (intro _; omega) | go_arith
   ·rintro e w2 ⟨rfl, rfl⟩
    exact ⟨_, rfl, Grow.refl _, rfl⟩
  ·refine need_plain rfl (fun a w' hg hin => ?_)
   have e11 : a.eval (.tmp 11) = _ := ins_on hin 6 (by kernel_rfl)
   have e18 : a.eval (.tmp 18) = _ := ins_on hin 13 (by kernel_rfl)
   have e23 : a.eval (.tmp 23) = _ := ins_on hin 18 (by kernel_rfl)
   refine upon_make (v := .slice (some ⟨w'.heap.size, 0, none⟩) 3 3) (w' := w'.alloc (.cells #[.int .i64 (cmpI x.rc.key y.rc.key), .int .i64 (cmpI x.rc.ver y.rc.ver), .int .i64 (cmpI x.pair y.pair)] 3)) ?_ (grow_alloc _ _) ⟨_, rfl, heap_new _ _ _⟩
   clear hin hg
   obtain ⟨ek, ef⟩ := evs a
   generalize a.eval = ev at *
   go_simp
   all_goals first | omega | (intro _; omega) | go_arith
  ·refine need_plain rfl (fun a w' hg hin => ?_)
   have e24 : ((ThreeI (cmpI x.rc.key y.rc.key) (cmpI x.rc.ver y.rc.ver) (cmpI x.pair y.pair))) (a.eval (.tmp 24)) w' := ins_on hin 19 (by kernel_rfl)
   obtain ⟨g, h24, h3⟩ := e24
   refine upon_call (f := 76) (args := #[.slice (some ⟨g, 0, none⟩) 3 3]) ?_ ((or_any [cmpI x.rc.key y.rc.key, cmpI x.rc.ver y.rc.ver, cmpI x.pair y.pair] g 3 w' (by simp) (fun j hj => by
    have hj3 : j < 3 := hj
    match j, hj3 with
    | 0, _ => exact box_cell h3 0 _ rfl
    | 1, _ => exact box_cell h3 1 _ rfl
    | 2, _ => exact box_cell h3 2 _ rfl)).mono ?_)
   ·clear hin hg h3
    obtain ⟨ek, ef⟩ := evs a
    generalize a.eval = ev at *
    go_simp
    all_goals first | omega | (intro _; omega) | go_arith
   ·rw [or_three, ← HR.out]
    rintro e w2 ⟨rfl, g2⟩
    exact ⟨_, rfl, g2, rfl⟩
  ·refine need_plain rfl (fun a w' hg hin => ?_)
   have e : a.eval (.tmp 25) = _ := ins_on hin 20 (by kernel_rfl)
   exact upon_assign rfl e
 ·intro vs w' hg ht
  obtain ⟨q5, q6, q7, q8, q9, q10, q11, q12, q13, q14, q15, q16, q17, q18, q19, q20, q21, q22, q23, q24, q25, q4, -⟩ := ht
  have r5 : vs 0 = .pointer (some ⟨w.heap.size, 0, none⟩) := q5
  have r6 : vs 1 = .pointer (some ⟨w.heap.size, 1, none⟩) := q6
  have r7 : vs 2 = .int .i64 x.rc.key := q7
  have r8 : vs 3 = .pointer (some ⟨w.heap.size + 1, 0, none⟩) := q8
  have r9 : vs 4 = .pointer (some ⟨w.heap.size + 1, 1, none⟩) := q9
  have r10 : vs 5 = .int .i64 y.rc.key := q10
  have r11 : vs 6 = .int .i64 (cmpI x.rc.key y.rc.key) := q11
  have r12 : vs 7 = .pointer (some ⟨w.heap.size, 0, none⟩) := q12
  have r13 : vs 8 = .pointer (some ⟨w.heap.size, 2, none⟩) := q13
  have r14 : vs 9 = .int .i64 x.rc.ver := q14
  have r15 : vs 10 = .pointer (some ⟨w.heap.size + 1, 0, none⟩) := q15
  have r16 : vs 11 = .pointer (some ⟨w.heap.size + 1, 2, none⟩) := q16
  have r17 : vs 12 = .int .i64 y.rc.ver := q17
  have r18 : vs 13 = .int .i64 (cmpI x.rc.ver y.rc.ver) := q18
  have r19 : vs 14 = .pointer (some ⟨w.heap.size, 4, none⟩) := q19
  have r20 : vs 15 = .int .i64 x.pair := q20
  have r21 : vs 16 = .pointer (some ⟨w.heap.size + 1, 4, none⟩) := q21
  have r22 : vs 17 = .int .i64 y.pair := q22
  have r23 : vs 18 = .int .i64 (cmpI x.pair y.pair) := q23
  have r25 : vs 20 = .int .i64 R := q25
  have r4 : vs 21 = .int .i64 R := q4
  clear q5 q6 q7 q8 q9 q10 q11 q12 q13 q14 q15 q16 q17 q18 q19 q20 q21 q22 q23 q25 q4
  simp only [putAll, Act.put, List.setIfInBounds_toArray, List.set_cons_zero, List.set_cons_succ, r5, r6, r7, r8, r9, r10, r11, r12, r13, r14, r15, r16, r17, r18, r19, r20, r21, r22, r23, r25, r4]
  clear r5 r6 r7 r8 r9 r10 r11 r12 r13 r14 r15 r16 r17 r18 r19 r20 r21 r22 r23 r25 r4
  have gE := g0.trans hg
  clear q24 hg hx1 hy0 g0
  go_wp2_with fail
  go_ret
  exact ⟨rfl, gE⟩
end Go.Proofs.Ytgaecpdokgklpab
