import Derived.Test.YtgaecpdokgklpadGreatDoorRNew
set_option maxHeartbeats 8000000
namespace Go.Proofs.YtgaecpdokgklpadGreatDoor
set_option maxRecDepth 100000
open Go.RowKit
open Plain Reg
def Qa (x y : Int) : Int := if x < y then -1 else if y < x then 1 else 0
def Zd1 (x y : Ent) : Int := if Qa x.rc.key y.rc.key ≠ 0 then Qa x.rc.key y.rc.key else if Qa x.rc.ver y.rc.ver ≠ 0 then Qa x.rc.ver y.rc.ver else Qa x.pair y.pair
theorem Jh (x y : Int) : Qa x y = 0 ↔ x = y := by unfold Qa; split <;> (try split) <;> omega
theorem Zi2 (x y : Int) : Qa x y < 0 ↔ x < y := by unfold Qa; split <;> (try split) <;> omega
theorem Zi3 (x y : Int) : 0 < Qa x y ↔ y < x := by unfold Qa; split <;> (try split) <;> omega
theorem Zod (x y : Ent) : (decide (Zd1 x y < 0)) = Yv x y := by
 rw [Bool.eq_iff_iff, decide_eq_true_eq];unfold Zd1 Yv;by_cases hk : x.rc.key = y.rc.key
 ·rw [if_neg (by simpa using (Jh _ _).2 hk), if_pos hk];by_cases hv : x.rc.ver = y.rc.ver
  ·rw [if_neg (by simpa using (Jh _ _).2 hv), if_pos hv, Zi2, decide_eq_true_eq]
  ·rw [if_pos (fun h => hv ((Jh _ _).1 h)), if_neg hv, Zi2, decide_eq_true_eq]
 ·rw [if_pos (fun h => hk ((Jh _ _).1 h)), if_neg hk, Zi2, decide_eq_true_eq]
theorem Zvo (x y : Ent) : (decide (0 < Zd1 x y)) = Yv y x := by
 rw [Bool.eq_iff_iff, decide_eq_true_eq];unfold Zd1 Yv;by_cases hk : x.rc.key = y.rc.key
 ·rw [if_neg (by simpa using (Jh _ _).2 hk), if_pos hk.symm];by_cases hv : x.rc.ver = y.rc.ver
  ·rw [if_neg (by simpa using (Jh _ _).2 hv), if_pos hv.symm, Zi3, decide_eq_true_eq]
  ·rw [if_pos (fun h => hv ((Jh _ _).1 h)), if_neg (fun h => hv h.symm), Zi3, decide_eq_true_eq]
 ·rw [if_pos (fun h => hk ((Jh _ _).1 h)), if_neg (fun h => hk h.symm), Zi3, decide_eq_true_eq]
theorem Zox {P : Program} {w w' : World} {R : Value → World → Prop} {o : Oper} {ev : Operand → Value} {v : Value} (h : (execOp ev o).run P w = .ok (.value v) w') (hg : Zj w w') (hv : R v w') : upon P w R ((execOp ev o).run P w) := by
 rw [h]; exact ⟨hg, hv⟩
theorem Zab (x : Int) (w : World) : Calls Tryz.prog 116 #[.int .i64 x] w fun e w' => e = .returned (.bool false) ∧ w' = w := by
 have d0 : (x != x) = false := by simp
 go_enter Tryz.func116, Tryz.ntmps116;go_wp2_with fail;go_ret;exact ⟨rfl, rfl⟩
theorem Zi1 (x y : Int) (w : World) : Calls Tryz.prog 105 #[.int .i64 x, .int .i64 y] w fun e w' => e = .returned (.int .i64 (Qa x y)) ∧ w' = w := by
 by_cases h1 : x < y
 ·have HC : Hid (Qa x y = -1) := by show _ = _; unfold Qa; rw [if_pos h1]
  rw [HC.out];go_enter Tryz.func105, Tryz.ntmps105;go_wp2_with fail;refine (Zab _ _).mono ?_;rintro e w1 ⟨rfl, rfl⟩;go_wp2_with fail;refine (Zab _ _).mono ?_;rintro e w1 ⟨rfl, rfl⟩;go_wp2_with fail;go_ret;exact ⟨rfl, rfl⟩
 ·by_cases h2 : y < x
  ·have HC : Hid (Qa x y = 1) := by show _ = _; unfold Qa; rw [if_neg h1, if_pos h2]
   rw [HC.out];go_enter Tryz.func105, Tryz.ntmps105;go_wp2_with fail;refine (Zab _ _).mono ?_;rintro e w1 ⟨rfl, rfl⟩;go_wp2_with fail;refine (Zab _ _).mono ?_;rintro e w1 ⟨rfl, rfl⟩;go_wp2_with fail;go_ret;exact ⟨rfl, rfl⟩
  ·have HC : Hid (Qa x y = 0) := by show _ = _; unfold Qa; rw [if_neg h1, if_neg h2]
   rw [HC.out];go_enter Tryz.func105, Tryz.ntmps105;go_wp2_with fail;refine (Zab _ _).mono ?_;rintro e w1 ⟨rfl, rfl⟩;go_wp2_with fail;refine (Zab _ _).mono ?_;rintro e w1 ⟨rfl, rfl⟩;go_wp2_with fail;go_ret;exact ⟨rfl, rfl⟩
def orN : List Int → Int
 | [] => 0
 | v :: l => if v ≠ 0 then v else orN l
theorem Zw9 (vs : List Int) (b cap : Nat) (w : World) (hn : vs.length ≤ 1000) (hc : ∀ (j : Nat) (h : j < vs.length), w.cell? ⟨b, j, none⟩ = some (.int .i64 vs[j])) :
  Calls Tryz.prog 104 #[.slice (some ⟨b, 0, none⟩) vs.length cap] w fun e w' => e = .returned (.int .i64 (orN vs)) ∧ Zj w w' := by
 obtain ⟨R, hR⟩ : ∃ R, R = orN vs := ⟨_, rfl⟩;rw [← hR];have HR : Hid _ := hR;clear hR;go_enter Tryz.func104, Tryz.ntmps104;go_wp2_with fail;go_loopw [8] (fun i wr => ∃ k : Nat, k ≤ vs.length ∧ i = .int .i64 k ∧ R = orN (vs.drop k) ∧ Zj w wr) (fun i _ => vs.length - (intOf i).toNat)
 case atStart => exact ⟨0, Nat.zero_le _, rfl, HR.out, Zj.refl _⟩
 case round =>
  obtain ⟨k, hk, rfl, hRk, hg⟩ := hrel;have HK : Hid (R = orN (vs.drop k)) := hRk;clear hRk;by_cases hlt : k < vs.length
  ·have q0 := (Below.cell hg (Zs (hc k hlt))).trans (hc k hlt);have HX : Hid (R = if vs[k] ≠ 0 then vs[k] else orN (vs.drop (k + 1))) := by show R = _; rw [HK.out, List.drop_eq_getElem_cons hlt]; rfl
   generalize vs[k] = x at *;clear HK;by_cases hx : x = 0
   ·have HY : Hid (R = orN (vs.drop (k + 1))) := by show R = _; rw [HX.out, if_neg (by simpa using hx)]
    have d0 : (x != 0) = false := by simp [hx]
    clear HX hx;go_wp2_with fail;go_roundw
    case rel => exact ⟨k + 1, by omega, by go_num, HY.out, hg⟩
    case measure => simp [intOf]; omega
   ·have HY : Hid (R = x) := by show R = _; rw [HX.out, if_pos hx]
    have d0 : (x != 0) = true := by simp [hx]
    clear HX hx;go_wp2_with fail;go_ret;exact ⟨by rw [HY.out]; rfl, hg⟩
  ·have HY : Hid (R = 0) := by show R = _; rw [HK.out, List.drop_eq_nil_of_le (by omega)]; rfl
   clear HK;go_wp2_with fail;go_ret;exact ⟨by rw [HY.out]; rfl, hg⟩
theorem Zs9 (x y : Ent) : orN [Qa x.rc.key y.rc.key, Qa x.rc.ver y.rc.ver, Qa x.pair y.pair] = Zd1 x y := by
 unfold Zd1;simp only [orN];split
 ·rfl
 ·split
  ·rfl
  ·split
   ·rfl
   ·rename_i h; exact (Decidable.of_not_not h).symm
def Znr (n0 n1 n2 : Int) (v : Value) (w : World) : Prop := ∃ g, v = .slice (some ⟨g, 0, none⟩) 3 3 ∧ w.heap[g]? = some (.cells #[.int .i64 n0, .int .i64 n1, .int .i64 n2] 3 (0, 0))
theorem Zo4 (n0 n1 n2 : Int) : Xy (Znr n0 n1 n2) := by
 rintro v w w' hg ⟨g, h1, h2⟩; exact ⟨g, h1, (hg.block _ (Zb h2)).trans h2⟩
theorem Zbk (x y : Ent) (a0 a1 : Option Addr) (c0 c1 : Nat) (w : World) :
  Calls Tryz.prog 63 #[.agg #[.int .i64 x.rc.kind, .int .i64 x.rc.key, .int .i64 x.rc.ver, .slice a0 x.rc.data.length c0, .int .i64 x.pair], .agg #[.int .i64 y.rc.kind, .int .i64 y.rc.key, .int .i64 y.rc.ver, .slice a1 y.rc.data.length c1, .int .i64 y.pair]] w fun e w' => e = .returned (.int .i64 (Zd1 x y)) ∧ Zj w w' := by
 have g0 := Zx w (.cells #[.int .i64 x.rc.kind, .int .i64 x.rc.key, .int .i64 x.rc.ver, .slice a0 x.rc.data.length c0, .int .i64 x.pair] 61) (.cells #[.int .i64 y.rc.kind, .int .i64 y.rc.key, .int .i64 y.rc.ver, .slice a1 y.rc.data.length c1, .int .i64 y.pair] 61);have hx0 := Zk w #[.int .i64 x.rc.kind, .int .i64 x.rc.key, .int .i64 x.rc.ver, .slice a0 x.rc.data.length c0, .int .i64 x.pair] 61;have hy0 := Zk (w.alloc (.cells #[.int .i64 x.rc.kind, .int .i64 x.rc.key, .int .i64 x.rc.ver, .slice a0 x.rc.data.length c0, .int .i64 x.pair] 61)) #[.int .i64 y.rc.kind, .int .i64 y.rc.key, .int .i64 y.rc.ver, .slice a1 y.rc.data.length c1, .int .i64 y.pair] 61;have hx1 := ((Zd (w.alloc (.cells #[.int .i64 x.rc.kind, .int .i64 x.rc.key, .int .i64 x.rc.ver, .slice a0 x.rc.data.length c0, .int .i64 x.pair] 61)) (.cells #[.int .i64 y.rc.kind, .int .i64 y.rc.key, .int .i64 y.rc.ver, .slice a1 y.rc.data.length c1, .int .i64 y.pair] 61)).block _ (Zb hx0)).trans hx0;rw [World.size_alloc] at hy0;clear hx0;obtain ⟨R, hR⟩ : ∃ R, R = Zd1 x y := ⟨_, rfl⟩;rw [← hR];have HR : Hid _ := hR;clear hR;go_enter Tryz.func63, Tryz.ntmps63;go_wp2_with fail;generalize World.alloc (World.alloc w _) _ = W at *
 refine Zy [ex (.pointer (some ⟨w.heap.size, 0, none⟩)), ex (.pointer (some ⟨w.heap.size, 1, none⟩)), ex (.int .i64 x.rc.key), ex (.pointer (some ⟨w.heap.size + 1, 0, none⟩)), ex (.pointer (some ⟨w.heap.size + 1, 1, none⟩)), ex (.int .i64 y.rc.key), ex (.int .i64 (Qa x.rc.key y.rc.key)), ex (.pointer (some ⟨w.heap.size, 0, none⟩)), ex (.pointer (some ⟨w.heap.size, 2, none⟩)), ex (.int .i64 x.rc.ver), ex (.pointer (some ⟨w.heap.size + 1, 0, none⟩)), ex (.pointer (some ⟨w.heap.size + 1, 2, none⟩)), ex (.int .i64 y.rc.ver), ex (.int .i64 (Qa x.rc.ver y.rc.ver)), ex (.pointer (some ⟨w.heap.size, 4, none⟩)), ex (.int .i64 x.pair), ex (.pointer (some ⟨w.heap.size + 1, 4, none⟩)), ex (.int .i64 y.pair), ex (.int .i64 (Qa x.pair y.pair)), ((Znr (Qa x.rc.key y.rc.key) (Qa x.rc.ver y.rc.ver) (Qa x.pair y.pair))), ex (.int .i64 R), ex (.int .i64 R)] (by kernel_rfl) (by kernel_rfl) ⟨Zf _, Zf _, Zf _, Zf _, Zf _, Zf _, Zf _, Zf _, Zf _, Zf _, Zf _, Zf _, Zf _, Zf _, Zf _, Zf _, Zf _, Zf _, Zf _, Zo4 _ _ _, Zf _, Zf _, trivial⟩ ?_ ?_
 ·refine ⟨?_, ?_, ?_, ?_, ?_, ?_, ?_, ?_, ?_, ?_, ?_, ?_, ?_, ?_, ?_, ?_, ?_, ?_, ?_, ?_, ?_, ?_, trivial⟩
  ·refine Za rfl fun a w' ek ef hg hin => ?_;have e2 : a (.tmp 2) = .pointer (some ⟨w.heap.size, 0, none⟩) := Zq hin 2 rfl;refine Zi ?_ rfl;clear hin hg;go_simp;all_goals go_arith
  ·refine Za rfl fun a w' ek ef hg hin => ?_;have e5 : a (.tmp 5) = _ := Zc hin 0 rfl;refine Zi ?_ rfl;clear hin hg;go_simp;all_goals go_arith
  ·refine Za rfl fun a w' ek ef hg hin => ?_;have e6 : a (.tmp 6) = _ := Zc hin 1 rfl;have h1 := Zh ((hg.block _ (Zb hx1)).trans hx1) 1 _ rfl;refine Zi ?_ rfl;clear hin hg;go_simp;all_goals go_arith
  ·refine Za rfl fun a w' ek ef hg hin => ?_;have e3 : a (.tmp 3) = .pointer (some ⟨w.heap.size + 1, 0, none⟩) := Zq hin 3 rfl;refine Zi ?_ rfl;clear hin hg;go_simp;all_goals go_arith
  ·refine Za rfl fun a w' ek ef hg hin => ?_;have e8 : a (.tmp 8) = _ := Zc hin 3 rfl;refine Zi ?_ rfl;clear hin hg;go_simp;all_goals go_arith
  ·refine Za rfl fun a w' ek ef hg hin => ?_;have e9 : a (.tmp 9) = _ := Zc hin 4 rfl;have h1 := Zh ((hg.block _ (Zb hy0)).trans hy0) 1 _ rfl;refine Zi ?_ rfl;clear hin hg;go_simp;all_goals go_arith
  ·refine Za rfl fun a w' ek ef hg hin => ?_;have e7 : a (.tmp 7) = _ := Zc hin 2 rfl;have e10 : a (.tmp 10) = _ := Zc hin 5 rfl;refine Yq (f := 105) (args := #[.int .i64 x.rc.key, .int .i64 y.rc.key]) ?_ ((Zi1 _ _ w').mono ?_)
   ·clear hin hg;go_simp;all_goals go_arith
   ·rintro e w2 ⟨rfl, rfl⟩;exact ⟨_, rfl, Zj.refl _, rfl⟩
  ·refine Za rfl fun a w' ek ef hg hin => ?_;have e2 : a (.tmp 2) = .pointer (some ⟨w.heap.size, 0, none⟩) := Zq hin 2 rfl;refine Zi ?_ rfl;clear hin hg;go_simp;all_goals go_arith
  ·refine Za rfl fun a w' ek ef hg hin => ?_;have e12 : a (.tmp 12) = _ := Zc hin 7 rfl;refine Zi ?_ rfl;clear hin hg;go_simp;all_goals go_arith
  ·refine Za rfl fun a w' ek ef hg hin => ?_;have e13 : a (.tmp 13) = _ := Zc hin 8 rfl;have h1 := Zh ((hg.block _ (Zb hx1)).trans hx1) 2 _ rfl;refine Zi ?_ rfl;clear hin hg;go_simp;all_goals go_arith
  ·refine Za rfl fun a w' ek ef hg hin => ?_;have e3 : a (.tmp 3) = .pointer (some ⟨w.heap.size + 1, 0, none⟩) := Zq hin 3 rfl;refine Zi ?_ rfl;clear hin hg;go_simp;all_goals go_arith
  ·refine Za rfl fun a w' ek ef hg hin => ?_;have e15 : a (.tmp 15) = _ := Zc hin 10 rfl;refine Zi ?_ rfl;clear hin hg;go_simp;all_goals go_arith
  ·refine Za rfl fun a w' ek ef hg hin => ?_;have e16 : a (.tmp 16) = _ := Zc hin 11 rfl;have h1 := Zh ((hg.block _ (Zb hy0)).trans hy0) 2 _ rfl;refine Zi ?_ rfl;clear hin hg;go_simp;all_goals go_arith
  ·refine Za rfl fun a w' ek ef hg hin => ?_;have e14 : a (.tmp 14) = _ := Zc hin 9 rfl;have e17 : a (.tmp 17) = _ := Zc hin 12 rfl;refine Yq (f := 105) (args := #[.int .i64 x.rc.ver, .int .i64 y.rc.ver]) ?_ ((Zi1 _ _ w').mono ?_)
   ·clear hin hg;go_simp;all_goals go_arith
   ·rintro e w2 ⟨rfl, rfl⟩;exact ⟨_, rfl, Zj.refl _, rfl⟩
  ·refine Za rfl fun a w' ek ef hg hin => ?_;have e2 : a (.tmp 2) = .pointer (some ⟨w.heap.size, 0, none⟩) := Zq hin 2 rfl;refine Zi ?_ rfl;clear hin hg;go_simp;all_goals go_arith
  ·refine Za rfl fun a w' ek ef hg hin => ?_;have e19 : a (.tmp 19) = _ := Zc hin 14 rfl;have h1 := Zh ((hg.block _ (Zb hx1)).trans hx1) 4 _ rfl;refine Zi ?_ rfl;clear hin hg;go_simp;all_goals go_arith
  ·refine Za rfl fun a w' ek ef hg hin => ?_;have e3 : a (.tmp 3) = .pointer (some ⟨w.heap.size + 1, 0, none⟩) := Zq hin 3 rfl;refine Zi ?_ rfl;clear hin hg;go_simp;all_goals go_arith
  ·refine Za rfl fun a w' ek ef hg hin => ?_;have e21 : a (.tmp 21) = _ := Zc hin 16 rfl;have h1 := Zh ((hg.block _ (Zb hy0)).trans hy0) 4 _ rfl;refine Zi ?_ rfl;clear hin hg;go_simp;all_goals go_arith
  ·refine Za rfl fun a w' ek ef hg hin => ?_;have e20 : a (.tmp 20) = _ := Zc hin 15 rfl;have e22 : a (.tmp 22) = _ := Zc hin 17 rfl;refine Yq (f := 105) (args := #[.int .i64 x.pair, .int .i64 y.pair]) ?_ ((Zi1 _ _ w').mono ?_)
   ·clear hin hg;go_simp;all_goals go_arith
   ·rintro e w2 ⟨rfl, rfl⟩;exact ⟨_, rfl, Zj.refl _, rfl⟩
  ·refine Za rfl fun a w' ek ef hg hin => ?_;have e11 : a (.tmp 11) = _ := Zc hin 6 rfl;have e18 : a (.tmp 18) = _ := Zc hin 13 rfl;have e23 : a (.tmp 23) = _ := Zc hin 18 rfl;refine Zox (v := .slice (some ⟨w'.heap.size, 0, none⟩) 3 3) (w' := w'.alloc (.cells #[.int .i64 (Qa x.rc.key y.rc.key), .int .i64 (Qa x.rc.ver y.rc.ver), .int .i64 (Qa x.pair y.pair)] 3)) ?_ (Zd _ _) ⟨_, rfl, Zk _ _ _⟩;clear hin hg;go_simp;all_goals go_arith
  ·refine Za rfl fun a w' ek ef hg hin => ?_;have e24 : ((Znr (Qa x.rc.key y.rc.key) (Qa x.rc.ver y.rc.ver) (Qa x.pair y.pair))) (a (.tmp 24)) w' := Zc hin 19 rfl;obtain ⟨g, h24, h3⟩ := e24;refine Yq (f := 104) (args := #[.slice (some ⟨g, 0, none⟩) 3 3]) ?_ ((Zw9 [Qa x.rc.key y.rc.key, Qa x.rc.ver y.rc.ver, Qa x.pair y.pair] g 3 w' (by simp) (fun j hj => by
    have hj3 : j < 3 := hj
    match j, hj3 with
    | 0, _ => exact Zh h3 0 _ rfl
    | 1, _ => exact Zh h3 1 _ rfl
    | 2, _ => exact Zh h3 2 _ rfl)).mono ?_)
   ·clear hin hg h3;go_simp;all_goals go_arith
   ·rw [Zs9, ← HR.out];rintro e w2 ⟨rfl, g2⟩;exact ⟨_, rfl, g2, rfl⟩
  ·refine Za rfl fun a w' ek ef hg hin => ?_;have e : a (.tmp 25) = _ := Zc hin 20 rfl;exact Yk rfl e
 ·intro vs w' hg ht;obtain ⟨q5, q6, q7, q8, q9, q10, q11, q12, q13, q14, q15, q16, q17, q18, q19, q20, q21, q22, q23, q24, q25, q4, -⟩ := ht;have r5 : vs 0 = .pointer (some ⟨w.heap.size, 0, none⟩) := q5;have r6 : vs 1 = .pointer (some ⟨w.heap.size, 1, none⟩) := q6;have r7 : vs 2 = .int .i64 x.rc.key := q7;have r8 : vs 3 = .pointer (some ⟨w.heap.size + 1, 0, none⟩) := q8;have r9 : vs 4 = .pointer (some ⟨w.heap.size + 1, 1, none⟩) := q9;have r10 : vs 5 = .int .i64 y.rc.key := q10;have r11 : vs 6 = .int .i64 (Qa x.rc.key y.rc.key) := q11;have r12 : vs 7 = .pointer (some ⟨w.heap.size, 0, none⟩) := q12;have r13 : vs 8 = .pointer (some ⟨w.heap.size, 2, none⟩) := q13;have r14 : vs 9 = .int .i64 x.rc.ver := q14;have r15 : vs 10 = .pointer (some ⟨w.heap.size + 1, 0, none⟩) := q15;have r16 : vs 11 = .pointer (some ⟨w.heap.size + 1, 2, none⟩) := q16;have r17 : vs 12 = .int .i64 y.rc.ver := q17;have r18 : vs 13 = .int .i64 (Qa x.rc.ver y.rc.ver) := q18;have r19 : vs 14 = .pointer (some ⟨w.heap.size, 4, none⟩) := q19;have r20 : vs 15 = .int .i64 x.pair := q20;have r21 : vs 16 = .pointer (some ⟨w.heap.size + 1, 4, none⟩) := q21;have r22 : vs 17 = .int .i64 y.pair := q22;have r23 : vs 18 = .int .i64 (Qa x.pair y.pair) := q23;have r25 : vs 20 = .int .i64 R := q25;have r4 : vs 21 = .int .i64 R := q4;clear q5 q6 q7 q8 q9 q10 q11 q12 q13 q14 q15 q16 q17 q18 q19 q20 q21 q22 q23 q25 q4
  simp only [Z9, Act.put, List.setIfInBounds_toArray, List.set_cons_zero, List.set_cons_succ, r5, r6, r7, r8, r9, r10, r11, r12, r13, r14, r15, r16, r17, r18, r19, r20, r21, r22, r23, r25, r4];clear r5 r6 r7 r8 r9 r10 r11 r12 r13 r14 r15 r16 r17 r18 r19 r20 r21 r22 r23 r25 r4;have gE := g0.trans hg;clear q24 hg hx1 hy0 g0;go_wp2_with fail;go_ret;exact ⟨rfl, gE⟩
end Go.Proofs.YtgaecpdokgklpadGreatDoor
