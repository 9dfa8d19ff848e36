import Derived.Test.YtpdnapbchcdhlaaREnt
import Derived.Test.YtpdnapbchcdhlaaRowApp
set_option maxHeartbeats 8000000
namespace Go.Proofs.Ytpdnapbchcdhlaa
set_option maxRecDepth 100000
open Go.RowKit
open Plain Reg
def Xw (x y : Int) : Int := if x < y then -1 else if y < x then 1 else 0
def Jn (x y : Ent) : Int := if Xw x.rc.key y.rc.key ≠ 0 then Xw x.rc.key y.rc.key else if Xw x.rc.ver y.rc.ver ≠ 0 then Xw x.rc.ver y.rc.ver else Xw x.pair y.pair
theorem Va (x y : Int) : Xw x y = 0 ↔ x = y := by unfold Xw; split <;> (try split) <;> omega
theorem Zb4 (x y : Int) : Xw x y < 0 ↔ x < y := by unfold Xw; split <;> (try split) <;> omega
theorem Zb5 (x y : Int) : 0 < Xw x y ↔ y < x := by unfold Xw; split <;> (try split) <;> omega
theorem Zfc (x y : Ent) : (decide (Jn x y < 0)) = Ya x y := by
 rw [Bool.eq_iff_iff, decide_eq_true_eq];unfold Jn Ya;by_cases hk : x.rc.key = y.rc.key
 ·rw [if_neg (by simpa using (Va _ _).2 hk), if_pos hk];by_cases hv : x.rc.ver = y.rc.ver
  ·rw [if_neg (by simpa using (Va _ _).2 hv), if_pos hv, Zb4, decide_eq_true_eq]
  ·rw [if_pos (fun h => hv ((Va _ _).1 h)), if_neg hv, Zb4, decide_eq_true_eq]
 ·rw [if_pos (fun h => hk ((Va _ _).1 h)), if_neg hk, Zb4, decide_eq_true_eq]
theorem Zjq (x y : Ent) : (decide (0 < Jn x y)) = Ya y x := by
 rw [Bool.eq_iff_iff, decide_eq_true_eq];unfold Jn Ya;by_cases hk : x.rc.key = y.rc.key
 ·rw [if_neg (by simpa using (Va _ _).2 hk), if_pos hk.symm];by_cases hv : x.rc.ver = y.rc.ver
  ·rw [if_neg (by simpa using (Va _ _).2 hv), if_pos hv.symm, Zb5, decide_eq_true_eq]
  ·rw [if_pos (fun h => hv ((Va _ _).1 h)), if_neg (fun h => hv h.symm), Zb5, decide_eq_true_eq]
 ·rw [if_pos (fun h => hk ((Va _ _).1 h)), if_neg (fun h => hk h.symm), Zb5, decide_eq_true_eq]
theorem Zfp {P : Program} {w w' : World} {R : Value → World → Prop} {o : Oper} {ev : Operand → Value} {v : Value} (h : (execOp ev o).run P w = .ok (.value v) w') (hg : Zm w w') (hv : R v w') : upon P w R ((execOp ev o).run P w) := by
 rw [h]; exact ⟨hg, hv⟩
theorem Kd (x : Int) (w : World) : Calls Try.prog 117 #[.int .i64 x] w fun e w' => e = .returned (.bool false) ∧ w' = w := by
 have d0 : (x != x) = false := by simp
 go_enter Try.func117, Try.ntmps117;go_wp2_with fail;go_ret;exact ⟨rfl, rfl⟩
theorem Zb3 (x y : Int) (w : World) : Calls Try.prog 104 #[.int .i64 x, .int .i64 y] w fun e w' => e = .returned (.int .i64 (Xw x y)) ∧ w' = w := by
 by_cases h1 : x < y
 ·have HC : Hid (Xw x y = -1) := by show _ = _; unfold Xw; rw [if_pos h1]
  rw [HC.out];go_enter Try.func104, Try.ntmps104;go_wp2_with fail;refine (Kd _ _).mono ?_;rintro e w1 ⟨rfl, rfl⟩;go_wp2_with fail;refine (Kd _ _).mono ?_;rintro e w1 ⟨rfl, rfl⟩;go_wp2_with fail;go_ret;exact ⟨rfl, rfl⟩
 ·by_cases h2 : y < x
  ·have HC : Hid (Xw x y = 1) := by show _ = _; unfold Xw; rw [if_neg h1, if_pos h2]
   rw [HC.out];go_enter Try.func104, Try.ntmps104;go_wp2_with fail;refine (Kd _ _).mono ?_;rintro e w1 ⟨rfl, rfl⟩;go_wp2_with fail;refine (Kd _ _).mono ?_;rintro e w1 ⟨rfl, rfl⟩;go_wp2_with fail;go_ret;exact ⟨rfl, rfl⟩
  ·have HC : Hid (Xw x y = 0) := by show _ = _; unfold Xw; rw [if_neg h1, if_neg h2]
   rw [HC.out];go_enter Try.func104, Try.ntmps104;go_wp2_with fail;refine (Kd _ _).mono ?_;rintro e w1 ⟨rfl, rfl⟩;go_wp2_with fail;refine (Kd _ _).mono ?_;rintro e w1 ⟨rfl, rfl⟩;go_wp2_with fail;go_ret;exact ⟨rfl, rfl⟩
def orN : List Int → Int
 | [] => 0
 | v :: l => if v ≠ 0 then v else orN l
theorem Zkl (vs : List Int) (b cap : Nat) (w : World) (hn : vs.length ≤ 1000) (hc : ∀ (j : Nat) (h : j < vs.length), w.cell? ⟨b, j, none⟩ = some (.int .i64 vs[j])) :
  Calls Try.prog 103 #[.slice (some ⟨b, 0, none⟩) vs.length cap] w fun e w' => e = .returned (.int .i64 (orN vs)) ∧ Zm w w' := by
 obtain ⟨R, hR⟩ : ∃ R, R = orN vs := ⟨_, rfl⟩;rw [← hR];have HR : Hid _ := hR;clear hR;go_enter Try.func103, Try.ntmps103;go_wp2_with fail;go_loopw [8] (fun i wr => ∃ k : Nat, k ≤ vs.length ∧ i = .int .i64 k ∧ R = orN (vs.drop k) ∧ Zm w wr) (fun i _ => vs.length - (intOf i).toNat)
 case atStart => exact ⟨0, Nat.zero_le _, rfl, HR.out, Zm.refl _⟩
 case round =>
  obtain ⟨k, hk, rfl, hRk, hg⟩ := hrel;have HK : Hid (R = orN (vs.drop k)) := hRk;clear hRk;by_cases hlt : k < vs.length
  ·have q0 := (Below.cell hg (Zn (hc k hlt))).trans (hc k hlt);have HX : Hid (R = if vs[k] ≠ 0 then vs[k] else orN (vs.drop (k + 1))) := by show R = _; rw [HK.out, List.drop_eq_getElem_cons hlt]; rfl
   generalize vs[k] = x at *;clear HK;by_cases hx : x = 0
   ·have HY : Hid (R = orN (vs.drop (k + 1))) := by show R = _; rw [HX.out, if_neg (by simpa using hx)]
    have d0 : (x != 0) = false := by simp [hx]
    clear HX hx;go_wp2_with fail;go_roundw
    case rel => exact ⟨k + 1, by omega, by go_num, HY.out, hg⟩
    case measure => simp [intOf]; omega
   ·have HY : Hid (R = x) := by show R = _; rw [HX.out, if_pos hx]
    have d0 : (x != 0) = true := by simp [hx]
    clear HX hx;go_wp2_with fail;go_ret;exact ⟨by rw [HY.out]; rfl, hg⟩
  ·have HY : Hid (R = 0) := by show R = _; rw [HK.out, List.drop_eq_nil_of_le (by omega)]; rfl
   clear HK;go_wp2_with fail;go_ret;exact ⟨by rw [HY.out]; rfl, hg⟩
theorem Zh7 (x y : Ent) : orN [Xw x.rc.key y.rc.key, Xw x.rc.ver y.rc.ver, Xw x.pair y.pair] = Jn x y := by
 unfold Jn;simp only [orN];split
 ·rfl
 ·split
  ·rfl
  ·split
   ·rfl
   ·rename_i h; exact (Decidable.of_not_not h).symm
def Zev (n0 n1 n2 : Int) (v : Value) (w : World) : Prop := ∃ g, v = .slice (some ⟨g, 0, none⟩) 3 3 ∧ w.heap[g]? = some (.cells #[.int .i64 n0, .int .i64 n1, .int .i64 n2] 3 (0, 0))
theorem Zfu (n0 n1 n2 : Int) : X2 (Zev n0 n1 n2) := by
 rintro v w w' hg ⟨g, h1, h2⟩; exact ⟨g, h1, (hg.block _ (Zg h2)).trans h2⟩
theorem Kc (x y : Ent) (a0 a1 : Option Addr) (c0 c1 : Nat) (w : World) :
  Calls Try.prog 88 #[.agg #[.int .i64 x.rc.kind, .int .i64 x.rc.key, .int .i64 x.rc.ver, .slice a0 x.rc.data.length c0, .int .i64 x.pair], .agg #[.int .i64 y.rc.kind, .int .i64 y.rc.key, .int .i64 y.rc.ver, .slice a1 y.rc.data.length c1, .int .i64 y.pair]] w fun e w' => e = .returned (.int .i64 (Jn x y)) ∧ Zm w w' := by
 have g0 := Yb w (.cells #[.int .i64 x.rc.kind, .int .i64 x.rc.key, .int .i64 x.rc.ver, .slice a0 x.rc.data.length c0, .int .i64 x.pair] 71) (.cells #[.int .i64 y.rc.kind, .int .i64 y.rc.key, .int .i64 y.rc.ver, .slice a1 y.rc.data.length c1, .int .i64 y.pair] 71);have hx0 := Zu w #[.int .i64 x.rc.kind, .int .i64 x.rc.key, .int .i64 x.rc.ver, .slice a0 x.rc.data.length c0, .int .i64 x.pair] 71;have hy0 := Zu (w.alloc (.cells #[.int .i64 x.rc.kind, .int .i64 x.rc.key, .int .i64 x.rc.ver, .slice a0 x.rc.data.length c0, .int .i64 x.pair] 71)) #[.int .i64 y.rc.kind, .int .i64 y.rc.key, .int .i64 y.rc.ver, .slice a1 y.rc.data.length c1, .int .i64 y.pair] 71;have hx1 := ((Zh (w.alloc (.cells #[.int .i64 x.rc.kind, .int .i64 x.rc.key, .int .i64 x.rc.ver, .slice a0 x.rc.data.length c0, .int .i64 x.pair] 71)) (.cells #[.int .i64 y.rc.kind, .int .i64 y.rc.key, .int .i64 y.rc.ver, .slice a1 y.rc.data.length c1, .int .i64 y.pair] 71)).block _ (Zg hx0)).trans hx0;rw [World.size_alloc] at hy0;clear hx0;obtain ⟨R, hR⟩ : ∃ R, R = Jn x y := ⟨_, rfl⟩;rw [← hR];have HR : Hid _ := hR;clear hR;go_enter Try.func88, Try.ntmps88;go_wp2_with fail;generalize World.alloc (World.alloc w _) _ = W at *
 refine Zr [ex (.pointer (some ⟨w.heap.size, 0, none⟩)), ex (.pointer (some ⟨w.heap.size, 1, none⟩)), ex (.int .i64 x.rc.key), ex (.pointer (some ⟨w.heap.size + 1, 0, none⟩)), ex (.pointer (some ⟨w.heap.size + 1, 1, none⟩)), ex (.int .i64 y.rc.key), ex (.int .i64 (Xw x.rc.key y.rc.key)), ex (.pointer (some ⟨w.heap.size, 0, none⟩)), ex (.pointer (some ⟨w.heap.size, 2, none⟩)), ex (.int .i64 x.rc.ver), ex (.pointer (some ⟨w.heap.size + 1, 0, none⟩)), ex (.pointer (some ⟨w.heap.size + 1, 2, none⟩)), ex (.int .i64 y.rc.ver), ex (.int .i64 (Xw x.rc.ver y.rc.ver)), ex (.pointer (some ⟨w.heap.size, 4, none⟩)), ex (.int .i64 x.pair), ex (.pointer (some ⟨w.heap.size + 1, 4, none⟩)), ex (.int .i64 y.pair), ex (.int .i64 (Xw x.pair y.pair)), ((Zev (Xw x.rc.key y.rc.key) (Xw x.rc.ver y.rc.ver) (Xw x.pair y.pair))), ex (.int .i64 R), ex (.int .i64 R)] (by kernel_rfl) (by kernel_rfl) ⟨Zc _, Zc _, Zc _, Zc _, Zc _, Zc _, Zc _, Zc _, Zc _, Zc _, Zc _, Zc _, Zc _, Zc _, Zc _, Zc _, Zc _, Zc _, Zc _, Zfu _ _ _, Zc _, Zc _, trivial⟩ ?_ ?_
 ·refine ⟨?_, ?_, ?_, ?_, ?_, ?_, ?_, ?_, ?_, ?_, ?_, ?_, ?_, ?_, ?_, ?_, ?_, ?_, ?_, ?_, ?_, ?_, trivial⟩
  ·refine Za rfl fun a _ _ _ B A => ?_;have e2 : a (.tmp 2) = .pointer (some ⟨w.heap.size, 0, none⟩) := Zj A 2 rfl;refine Ze ?_ rfl;clear A B;go_simp;all_goals go_arith
  ·refine Za rfl fun a _ _ _ B A => ?_;have e5 : a (.tmp 5) = _ := Zb A 0 rfl;refine Ze ?_ rfl;clear A B;go_simp;all_goals go_arith
  ·refine Za rfl fun a _ _ _ B A => ?_;have e6 : a (.tmp 6) = _ := Zb A 1 rfl;have h1 := Zk ((B.block _ (Zg hx1)).trans hx1) 1 _ rfl;refine Ze ?_ rfl;clear A B;go_simp;all_goals go_arith
  ·refine Za rfl fun a _ _ _ B A => ?_;have e3 : a (.tmp 3) = .pointer (some ⟨w.heap.size + 1, 0, none⟩) := Zj A 3 rfl;refine Ze ?_ rfl;clear A B;go_simp;all_goals go_arith
  ·refine Za rfl fun a _ _ _ B A => ?_;have e8 : a (.tmp 8) = _ := Zb A 3 rfl;refine Ze ?_ rfl;clear A B;go_simp;all_goals go_arith
  ·refine Za rfl fun a _ _ _ B A => ?_;have e9 : a (.tmp 9) = _ := Zb A 4 rfl;have h1 := Zk ((B.block _ (Zg hy0)).trans hy0) 1 _ rfl;refine Ze ?_ rfl;clear A B;go_simp;all_goals go_arith
  ·refine Za rfl fun a B _ _ C A => ?_;have e7 : a (.tmp 7) = _ := Zb A 2 rfl;have e10 : a (.tmp 10) = _ := Zb A 5 rfl;refine Zx (f := 104) (args := #[.int .i64 x.rc.key, .int .i64 y.rc.key]) ?_ ((Zb3 _ _ B).mono ?_)
   ·clear A C;go_simp;all_goals go_arith
   ·rintro e w2 ⟨rfl, rfl⟩;exact ⟨_, rfl, Zm.refl _, rfl⟩
  ·refine Za rfl fun a _ _ _ B A => ?_;have e2 : a (.tmp 2) = .pointer (some ⟨w.heap.size, 0, none⟩) := Zj A 2 rfl;refine Ze ?_ rfl;clear A B;go_simp;all_goals go_arith
  ·refine Za rfl fun a _ _ _ B A => ?_;have e12 : a (.tmp 12) = _ := Zb A 7 rfl;refine Ze ?_ rfl;clear A B;go_simp;all_goals go_arith
  ·refine Za rfl fun a _ _ _ B A => ?_;have e13 : a (.tmp 13) = _ := Zb A 8 rfl;have h1 := Zk ((B.block _ (Zg hx1)).trans hx1) 2 _ rfl;refine Ze ?_ rfl;clear A B;go_simp;all_goals go_arith
  ·refine Za rfl fun a _ _ _ B A => ?_;have e3 : a (.tmp 3) = .pointer (some ⟨w.heap.size + 1, 0, none⟩) := Zj A 3 rfl;refine Ze ?_ rfl;clear A B;go_simp;all_goals go_arith
  ·refine Za rfl fun a _ _ _ B A => ?_;have e15 : a (.tmp 15) = _ := Zb A 10 rfl;refine Ze ?_ rfl;clear A B;go_simp;all_goals go_arith
  ·refine Za rfl fun a _ _ _ B A => ?_;have e16 : a (.tmp 16) = _ := Zb A 11 rfl;have h1 := Zk ((B.block _ (Zg hy0)).trans hy0) 2 _ rfl;refine Ze ?_ rfl;clear A B;go_simp;all_goals go_arith
  ·refine Za rfl fun a B _ _ C A => ?_;have e14 : a (.tmp 14) = _ := Zb A 9 rfl;have e17 : a (.tmp 17) = _ := Zb A 12 rfl;refine Zx (f := 104) (args := #[.int .i64 x.rc.ver, .int .i64 y.rc.ver]) ?_ ((Zb3 _ _ B).mono ?_)
   ·clear A C;go_simp;all_goals go_arith
   ·rintro e w2 ⟨rfl, rfl⟩;exact ⟨_, rfl, Zm.refl _, rfl⟩
  ·refine Za rfl fun a _ _ _ B A => ?_;have e2 : a (.tmp 2) = .pointer (some ⟨w.heap.size, 0, none⟩) := Zj A 2 rfl;refine Ze ?_ rfl;clear A B;go_simp;all_goals go_arith
  ·refine Za rfl fun a _ _ _ B A => ?_;have e19 : a (.tmp 19) = _ := Zb A 14 rfl;have h1 := Zk ((B.block _ (Zg hx1)).trans hx1) 4 _ rfl;refine Ze ?_ rfl;clear A B;go_simp;all_goals go_arith
  ·refine Za rfl fun a _ _ _ B A => ?_;have e3 : a (.tmp 3) = .pointer (some ⟨w.heap.size + 1, 0, none⟩) := Zj A 3 rfl;refine Ze ?_ rfl;clear A B;go_simp;all_goals go_arith
  ·refine Za rfl fun a _ _ _ B A => ?_;have e21 : a (.tmp 21) = _ := Zb A 16 rfl;have h1 := Zk ((B.block _ (Zg hy0)).trans hy0) 4 _ rfl;refine Ze ?_ rfl;clear A B;go_simp;all_goals go_arith
  ·refine Za rfl fun a B _ _ C A => ?_;have e20 : a (.tmp 20) = _ := Zb A 15 rfl;have e22 : a (.tmp 22) = _ := Zb A 17 rfl;refine Zx (f := 104) (args := #[.int .i64 x.pair, .int .i64 y.pair]) ?_ ((Zb3 _ _ B).mono ?_)
   ·clear A C;go_simp;all_goals go_arith
   ·rintro e w2 ⟨rfl, rfl⟩;exact ⟨_, rfl, Zm.refl _, rfl⟩
  ·refine Za rfl fun a w' _ _ B A => ?_;have e11 : a (.tmp 11) = _ := Zb A 6 rfl;have e18 : a (.tmp 18) = _ := Zb A 13 rfl;have e23 : a (.tmp 23) = _ := Zb A 18 rfl;refine Zfp (v := .slice (some ⟨w'.heap.size, 0, none⟩) 3 3) (w' := w'.alloc (.cells #[.int .i64 (Xw x.rc.key y.rc.key), .int .i64 (Xw x.rc.ver y.rc.ver), .int .i64 (Xw x.pair y.pair)] 3)) ?_ (Zh _ _) ⟨_, rfl, Zu _ _ _⟩;clear A B;go_simp;all_goals go_arith
  ·refine Za rfl fun a B _ _ C A => ?_;have e24 : ((Zev (Xw x.rc.key y.rc.key) (Xw x.rc.ver y.rc.ver) (Xw x.pair y.pair))) (a (.tmp 24)) B := Zb A 19 rfl;obtain ⟨g, h24, h3⟩ := e24;refine Zx (f := 103) (args := #[.slice (some ⟨g, 0, none⟩) 3 3]) ?_ ((Zkl [Xw x.rc.key y.rc.key, Xw x.rc.ver y.rc.ver, Xw x.pair y.pair] g 3 B (by simp) (fun j hj => by
    have hj3 : j < 3 := hj
    match j, hj3 with
    | 0, _ => exact Zk h3 0 _ rfl
    | 1, _ => exact Zk h3 1 _ rfl
    | 2, _ => exact Zk h3 2 _ rfl)).mono ?_)
   ·clear A C h3;go_simp;all_goals go_arith
   ·rw [Zh7, ← HR.out];rintro e w2 ⟨rfl, g2⟩;exact ⟨_, rfl, g2, rfl⟩
  ·exact Za rfl fun a _ _ _ _ A => Ym rfl (Zb A 20 rfl)
 ·intro vs w' hg ht;obtain ⟨(r5 : vs 0 = _), (r6 : vs 1 = _), (r7 : vs 2 = _), (r8 : vs 3 = _), (r9 : vs 4 = _), (r10 : vs 5 = _), (r11 : vs 6 = _), (r12 : vs 7 = _), (r13 : vs 8 = _), (r14 : vs 9 = _), (r15 : vs 10 = _), (r16 : vs 11 = _), (r17 : vs 12 = _), (r18 : vs 13 = _), (r19 : vs 14 = _), (r20 : vs 15 = _), (r21 : vs 16 = _), (r22 : vs 17 = _), (r23 : vs 18 = _), q24, (r25 : vs 20 = _), (r4 : vs 21 = _), -⟩ := ht;simp only [Z3, Act.put, List.setIfInBounds_toArray, List.set_cons_zero, List.set_cons_succ, r5, r6, r7, r8, r9, r10, r11, r12, r13, r14, r15, r16, r17, r18, r19, r20, r21, r22, r23, r25, r4];clear r5 r6 r7 r8 r9 r10 r11 r12 r13 r14 r15 r16 r17 r18 r19 r20 r21 r22 r23 r25 r4;have gE := g0.trans hg;clear q24 hg hx1 hy0 g0;go_wp2_with fail;go_ret;exact ⟨rfl, gE⟩
end Go.Proofs.Ytpdnapbchcdhlaa
