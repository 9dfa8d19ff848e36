import Derived.Test.YtpdnapbchcdhlaaRScan
set_option maxHeartbeats 8000000
namespace Go.Proofs.Ytpdnapbchcdhlaa
set_option maxRecDepth 100000
open Go.RowKit
open Plain Reg
def Qe (pre : List Ent) (e : Ent) : Bool := match pre.getLast? with | none => true | some x => Ya x e
def okE (pre : List Ent) (e : Ent) : Bool := decide (Z2 e.rc = 0 ∧ e.rc.kind ≠ 1 ∧ 0 ≤ e.pair ∧ e.pair ≤ 1000) && Qe pre e && pre.all (fun x => decide (x.pair ≠ e.pair))
def Y4 (pre : List Ent) : List Ent → Bool
 | [] => true
 | e :: l => okE pre e && Y4 (pre ++ [e]) l
def Xq (l : List Ent) : Bool := Y4 [] l
theorem Zbr (l : List Ent) (k : Nat) (h : k < l.length) : Y4 (l.take k) (l.drop k) = (okE (l.take k) l[k] && Y4 (l.take (k + 1)) (l.drop (k + 1))) := by
 rw [List.drop_eq_getElem_cons h, List.take_succ_eq_append_getElem h]; rfl
theorem Zcr (S : Nat → Prop) (l : List Ent) (v : Value) (w : World) (hs : Yl S w v l) (hm : l.length ≤ 140737488355328) :
  Calls Try.prog 61 #[v] w fun r w' => r = .returned (.bool (Xq l)) ∧ Zm w w' := by
 obtain ⟨ao, cp, rfl⟩ := hs.form;obtain ⟨R, hR⟩ : ∃ R, R = Xq l := ⟨_, rfl⟩;rw [← hR];have HR0 : Hid (R = Y4 (l.take 0) (l.drop 0)) := by show R = _; rw [hR]; rfl
 clear hR;go_enter Try.func61, Try.ntmps61;go_wp2_with fail;go_loopw [9] (fun i wr => ∃ k : Nat, k ≤ l.length ∧ i = .int .i64 k ∧ Hid (R = Y4 (l.take k) (l.drop k)) ∧ Zm w wr) (fun i _ => l.length - (intOf i).toNat)
 case atStart => exact ⟨0, Nat.zero_le _, rfl, HR0, Zm.refl _⟩
 case round =>
  clear HR0;obtain ⟨k, hk, rfl, HK, hgr⟩ := hrel;by_cases hlt : k < l.length
  ·obtain ⟨b, off, a1, c1, hv1, q0, q1, q2, q3, q4, hu⟩ := X4 (hs.grow hgr) k hlt;cases hv1;have HE : Hid (R = (okE (l.take k) l[k] && Y4 (l.take (k + 1)) (l.drop (k + 1)))) := HK.out.trans (Zbr l k hlt);have HSL := hs.grow hgr;generalize l[k] = e at *;have g1 := Zh wr (.cells #[.int .i64 e.rc.kind, .int .i64 e.rc.key, .int .i64 e.rc.ver, .slice a1 e.rc.data.length c1, .int .i64 e.pair] 71);have hX1 := Zu wr #[.int .i64 e.rc.kind, .int .i64 e.rc.key, .int .i64 e.rc.ver, .slice a1 e.rc.data.length c1, .int .i64 e.pair] 71;have hu1 := hu.grow g1;obtain ⟨W, hW⟩ : ∃ W, W = Z2 e.rc := ⟨_, rfl⟩;have HW : Hid (W = Z2 e.rc) := hW;clear hW HK;have HX : Hid (okE (l.take k) e = false → R = false) := fun h => by rw [HE.out, h]; rfl
   by_cases hw : W = 0
   ·have d0 : (W != 0) = false := by simp [hw]
    have HW0 : Hid (Z2 e.rc = 0) := by show _ = _; rw [← HW.out]; exact hw
    clear hw;by_cases hk1 : e.rc.kind = 1
    ·have hRf : R = false := HX.out (by unfold okE; simp [hk1]);subst hRf;have d1 : (e.rc.kind == 1) = true := by simp [hk1]
     clear HX HE hk1;go_wp2_with fail;clear q0 q1 q2 q3 q4 HSL;generalize World.alloc wr _ = W1 at *;generalize wr.heap.size = g at *;refine Zr [ex (.pointer (some ⟨g, 0, none⟩)), ex (.agg #[.int .i64 e.rc.kind, .int .i64 e.rc.key, .int .i64 e.rc.ver, .slice a1 e.rc.data.length c1]), ex (.int .i64 W), ex (.bool false), ex (.bool false), ex (.pointer (some ⟨g, 0, none⟩)), ex (.pointer (some ⟨g, 0, none⟩)), ex (.int .i64 e.rc.kind), ex (.bool true), ex (.bool true), ex (.bool true), ex (undef), ex (undef), ex (undef), ex (.bool true), ex (.bool true), ex (undef), ex (undef), ex (undef), ex (.bool true), ex (.bool true), ex (undef), ex (undef), ex (undef), ex (undef), ex (undef), ex (undef), ex (undef), ex (undef), ex (undef), ex (undef), ex (undef), ex (undef), ex (.bool true)] (by kernel_rfl) (by kernel_rfl) ⟨Zc _, Zc _, Zc _, Zc _, Zc _, Zc _, Zc _, Zc _, Zc _, Zc _, Zc _, Zc _, Zc _, Zc _, Zc _, Zc _, Zc _, Zc _, Zc _, Zc _, Zc _, Zc _, Zc _, Zc _, Zc _, Zc _, Zc _, Zc _, Zc _, Zc _, Zc _, Zc _, Zc _, Zc _, trivial⟩ ?_ ?_
     ·refine ⟨?_, ?_, ?_, ?_, ?_, ?_, ?_, ?_, ?_, ?_, ?_, ?_, ?_, ?_, ?_, ?_, ?_, ?_, ?_, ?_, ?_, ?_, ?_, ?_, ?_, ?_, ?_, ?_, ?_, ?_, ?_, ?_, ?_, ?_, trivial⟩
      ·refine Za rfl fun a _ _ _ B A => ?_;have e4 : a (.tmp 4) = .pointer (some ⟨g, 0, none⟩) := Zj A 4 rfl;refine Ze ?_ rfl;clear A B;go_simp;all_goals go_arith
      ·refine Za rfl fun a _ _ _ B A => ?_;have e14 : a (.tmp 14) = _ := Zb A 0 rfl;have hX := (B.block _ (Zg hX1)).trans hX1;obtain ⟨y0, y1, y2, y3⟩ := Xm hX rfl rfl rfl rfl;refine Ze ?_ rfl;clear A B hX;go_simp;all_goals go_arith
      ·refine Za rfl fun a B _ _ C A => ?_;have e15 : a (.tmp 15) = _ := Zb A 1 rfl;refine Zx (f := 27) (args := #[.agg #[.int .i64 e.rc.kind, .int .i64 e.rc.key, .int .i64 e.rc.ver, .slice a1 e.rc.data.length c1]]) ?_ ((Xo _ _ _ e.rc.data _ B (Zw hu1.p C)).mono ?_)
       ·clear A C;go_simp;all_goals go_arith
       ·rintro e w2 ⟨rfl, g2⟩;exact ⟨_, rfl, g2, by rw [HW.out]; rfl⟩
      ·refine Za rfl fun a _ _ _ B A => ?_;have e16 : a (.tmp 16) = _ := Zb A 2 rfl;refine Ze ?_ rfl;clear A B;go_simp;all_goals go_arith
      ·exact Za rfl fun a _ _ _ _ A => Zf rfl (Zb A 3 rfl)
      ·refine Zd 4 false rfl rfl rfl fun a _ _ _ B A => ?_;have e4 : a (.tmp 4) = .pointer (some ⟨g, 0, none⟩) := Zj A 4 rfl;refine Ze ?_ rfl;clear A B;go_simp;all_goals go_arith
      ·refine Zd 4 false rfl rfl rfl fun a _ _ _ B A => ?_;have e19 : a (.tmp 19) = _ := Zb A 5 rfl;refine Ze ?_ rfl;clear A B;go_simp;all_goals go_arith
      ·refine Zd 4 false rfl rfl rfl fun a _ _ _ B A => ?_;have e20 : a (.tmp 20) = _ := Zb A 6 rfl;have hX := (B.block _ (Zg hX1)).trans hX1;have y0 := Zk hX 0 _ rfl;refine Ze ?_ rfl;clear A B hX;go_simp;all_goals go_arith
      ·refine Zd 4 false rfl rfl rfl fun a _ _ _ B A => ?_;have e21 : a (.tmp 21) = _ := Zb A 7 rfl;refine Ze ?_ rfl;clear A B;go_simp;all_goals go_arith
      ·refine Za rfl fun a _ _ _ _ A => ?_;have ec : a (.tmp 18) = _ := Zb A 4 rfl;have e : a (.tmp 22) = _ := Zb A 8 rfl;exact Zp rfl ec e
      ·exact Za rfl fun a _ _ _ _ A => Zf rfl (Zb A 9 rfl)
      ·refine Zi 10 false rfl rfl rfl (fun _ => rfl)
      ·refine Zi 10 false rfl rfl rfl (fun _ => rfl)
      ·refine Zi 10 false rfl rfl rfl (fun _ => rfl)
      ·refine Za rfl fun a _ B _ _ A => ?_;have ec : a (.tmp 24) = _ := Zb A 10 rfl;exact Zp rfl ec (B _)
      ·exact Za rfl fun a _ _ _ _ A => Zf rfl (Zb A 14 rfl)
      ·refine Zi 15 false rfl rfl rfl (fun _ => rfl)
      ·refine Zi 15 false rfl rfl rfl (fun _ => rfl)
      ·refine Zi 15 false rfl rfl rfl (fun _ => rfl)
      ·refine Za rfl fun a _ B _ _ A => ?_;have ec : a (.tmp 29) = _ := Zb A 15 rfl;exact Zp rfl ec (B _)
      ·exact Za rfl fun a _ _ _ _ A => Zf rfl (Zb A 19 rfl)
      ·refine Zi 20 false rfl rfl rfl (fun _ => rfl)
      ·refine Zi 20 false rfl rfl rfl (fun _ => rfl)
      ·refine Zi 20 false rfl rfl rfl (fun _ => rfl)
      ·refine Zy 23 true rfl rfl rfl (fun _ => rfl)
      ·refine Zy 23 true rfl rfl rfl (fun _ => rfl)
      ·refine Zy 23 true rfl rfl rfl (fun _ => rfl)
      ·refine Zy 23 true rfl rfl rfl (fun _ => rfl)
      ·refine Zy 23 true rfl rfl rfl (fun _ => rfl)
      ·refine Zy 23 true rfl rfl rfl (fun _ => rfl)
      ·refine Zy 23 true rfl rfl rfl (fun _ => rfl)
      ·refine Zy 23 true rfl rfl rfl (fun _ => rfl)
      ·refine Zi 20 false rfl rfl rfl (fun _ => rfl)
      ·refine Za rfl fun a _ B _ _ A => ?_;have ec : a (.tmp 34) = _ := Zb A 20 rfl;exact Zp rfl ec (B _)
     ·intro vs w' hg ht;obtain ⟨(r14 : vs 0 = _), (r15 : vs 1 = _), (r16 : vs 2 = _), (r17 : vs 3 = _), (r18 : vs 4 = _), (r19 : vs 5 = _), (r20 : vs 6 = _), (r21 : vs 7 = _), (r22 : vs 8 = _), (r23 : vs 9 = _), (r24 : vs 10 = _), (r25 : vs 11 = _), (r26 : vs 12 = _), (r27 : vs 13 = _), (r28 : vs 14 = _), (r29 : vs 15 = _), (r30 : vs 16 = _), (r31 : vs 17 = _), (r32 : vs 18 = _), (r33 : vs 19 = _), (r34 : vs 20 = _), (r35 : vs 21 = _), (r36 : vs 22 = _), (r37 : vs 23 = _), (r38 : vs 24 = _), (r39 : vs 25 = _), (r40 : vs 26 = _), (r41 : vs 27 = _), (r42 : vs 28 = _), (r43 : vs 29 = _), (r44 : vs 30 = _), (r45 : vs 31 = _), (r46 : vs 32 = _), (r47 : vs 33 = _), -⟩ := ht;simp only [Z3, Act.put, List.setIfInBounds_toArray, List.set_cons_zero, List.set_cons_succ, r14, r15, r16, r17, r18, r19, r20, r21, r22, r23, r24, r25, r26, r27, r28, r29, r30, r31, r32, r33, r34, r35, r36, r37, r38, r39, r40, r41, r42, r43, r44, r45, r46, r47];clear r14 r15 r16 r17 r18 r19 r20 r21 r22 r23 r24 r25 r26 r27 r28 r29 r30 r31 r32 r33 r34 r35 r36 r37 r38 r39 r40 r41 r42 r43 r44 r45 r46 r47;have gr2 := hgr.trans (g1.trans hg);clear hg hX1 hu1;go_wp2_with fail;go_ret;exact ⟨rfl, gr2⟩
    ·have d1 : (e.rc.kind == 1) = false := by simp [hk1]
     by_cases hp0 : e.pair < 0
     ·have hRf : R = false := HX.out (by unfold okE; rw [decide_eq_false (by omega)]; rfl);subst hRf;clear HX HE hk1;go_wp2_with fail;clear q0 q1 q2 q3 q4 HSL;generalize World.alloc wr _ = W1 at *;generalize wr.heap.size = g at *;refine Zr [ex (.pointer (some ⟨g, 0, none⟩)), ex (.agg #[.int .i64 e.rc.kind, .int .i64 e.rc.key, .int .i64 e.rc.ver, .slice a1 e.rc.data.length c1]), ex (.int .i64 W), ex (.bool false), ex (.bool false), ex (.pointer (some ⟨g, 0, none⟩)), ex (.pointer (some ⟨g, 0, none⟩)), ex (.int .i64 e.rc.kind), ex (.bool false), ex (.bool false), ex (.bool false), ex (.pointer (some ⟨g, 4, none⟩)), ex (.int .i64 e.pair), ex (.bool true), ex (.bool true), ex (.bool true), ex (undef), ex (undef), ex (undef), ex (.bool true), ex (.bool true), ex (undef), ex (undef), ex (undef), ex (undef), ex (undef), ex (undef), ex (undef), ex (undef), ex (undef), ex (undef), ex (undef), ex (undef), ex (.bool true)] (by kernel_rfl) (by kernel_rfl) ⟨Zc _, Zc _, Zc _, Zc _, Zc _, Zc _, Zc _, Zc _, Zc _, Zc _, Zc _, Zc _, Zc _, Zc _, Zc _, Zc _, Zc _, Zc _, Zc _, Zc _, Zc _, Zc _, Zc _, Zc _, Zc _, Zc _, Zc _, Zc _, Zc _, Zc _, Zc _, Zc _, Zc _, Zc _, trivial⟩ ?_ ?_
      ·refine ⟨?_, ?_, ?_, ?_, ?_, ?_, ?_, ?_, ?_, ?_, ?_, ?_, ?_, ?_, ?_, ?_, ?_, ?_, ?_, ?_, ?_, ?_, ?_, ?_, ?_, ?_, ?_, ?_, ?_, ?_, ?_, ?_, ?_, ?_, trivial⟩
       ·refine Za rfl fun a _ _ _ B A => ?_;have e4 : a (.tmp 4) = .pointer (some ⟨g, 0, none⟩) := Zj A 4 rfl;refine Ze ?_ rfl;clear A B;go_simp;all_goals go_arith
       ·refine Za rfl fun a _ _ _ B A => ?_;have e14 : a (.tmp 14) = _ := Zb A 0 rfl;have hX := (B.block _ (Zg hX1)).trans hX1;obtain ⟨y0, y1, y2, y3⟩ := Xm hX rfl rfl rfl rfl;refine Ze ?_ rfl;clear A B hX;go_simp;all_goals go_arith
       ·refine Za rfl fun a B _ _ C A => ?_;have e15 : a (.tmp 15) = _ := Zb A 1 rfl;refine Zx (f := 27) (args := #[.agg #[.int .i64 e.rc.kind, .int .i64 e.rc.key, .int .i64 e.rc.ver, .slice a1 e.rc.data.length c1]]) ?_ ((Xo _ _ _ e.rc.data _ B (Zw hu1.p C)).mono ?_)
        ·clear A C;go_simp;all_goals go_arith
        ·rintro e w2 ⟨rfl, g2⟩;exact ⟨_, rfl, g2, by rw [HW.out]; rfl⟩
       ·refine Za rfl fun a _ _ _ B A => ?_;have e16 : a (.tmp 16) = _ := Zb A 2 rfl;refine Ze ?_ rfl;clear A B;go_simp;all_goals go_arith
       ·exact Za rfl fun a _ _ _ _ A => Zf rfl (Zb A 3 rfl)
       ·refine Zd 4 false rfl rfl rfl fun a _ _ _ B A => ?_;have e4 : a (.tmp 4) = .pointer (some ⟨g, 0, none⟩) := Zj A 4 rfl;refine Ze ?_ rfl;clear A B;go_simp;all_goals go_arith
       ·refine Zd 4 false rfl rfl rfl fun a _ _ _ B A => ?_;have e19 : a (.tmp 19) = _ := Zb A 5 rfl;refine Ze ?_ rfl;clear A B;go_simp;all_goals go_arith
       ·refine Zd 4 false rfl rfl rfl fun a _ _ _ B A => ?_;have e20 : a (.tmp 20) = _ := Zb A 6 rfl;have hX := (B.block _ (Zg hX1)).trans hX1;have y0 := Zk hX 0 _ rfl;refine Ze ?_ rfl;clear A B hX;go_simp;all_goals go_arith
       ·refine Zd 4 false rfl rfl rfl fun a _ _ _ B A => ?_;have e21 : a (.tmp 21) = _ := Zb A 7 rfl;refine Ze ?_ rfl;clear A B;go_simp;all_goals go_arith
       ·refine Za rfl fun a _ _ _ _ A => ?_;have ec : a (.tmp 18) = _ := Zb A 4 rfl;have e : a (.tmp 22) = _ := Zb A 8 rfl;exact Zp rfl ec e
       ·exact Za rfl fun a _ _ _ _ A => Zf rfl (Zb A 9 rfl)
       ·refine Zd 10 false rfl rfl rfl fun a _ _ _ B A => ?_;have e4 : a (.tmp 4) = .pointer (some ⟨g, 0, none⟩) := Zj A 4 rfl;refine Ze ?_ rfl;clear A B;go_simp;all_goals go_arith
       ·refine Zd 10 false rfl rfl rfl fun a _ _ _ B A => ?_;have e25 : a (.tmp 25) = _ := Zb A 11 rfl;have hX := (B.block _ (Zg hX1)).trans hX1;have y0 := Zk hX 4 _ rfl;refine Ze ?_ rfl;clear A B hX;go_simp;all_goals go_arith
       ·refine Zd 10 false rfl rfl rfl fun a _ _ _ B A => ?_;have e26 : a (.tmp 26) = _ := Zb A 12 rfl;refine Ze ?_ rfl;clear A B;go_simp;all_goals go_arith
       ·refine Za rfl fun a _ _ _ _ A => ?_;have ec : a (.tmp 24) = _ := Zb A 10 rfl;have e : a (.tmp 27) = _ := Zb A 13 rfl;exact Zp rfl ec e
       ·exact Za rfl fun a _ _ _ _ A => Zf rfl (Zb A 14 rfl)
       ·refine Zi 15 false rfl rfl rfl (fun _ => rfl)
       ·refine Zi 15 false rfl rfl rfl (fun _ => rfl)
       ·refine Zi 15 false rfl rfl rfl (fun _ => rfl)
       ·refine Za rfl fun a _ B _ _ A => ?_;have ec : a (.tmp 29) = _ := Zb A 15 rfl;exact Zp rfl ec (B _)
       ·exact Za rfl fun a _ _ _ _ A => Zf rfl (Zb A 19 rfl)
       ·refine Zi 20 false rfl rfl rfl (fun _ => rfl)
       ·refine Zi 20 false rfl rfl rfl (fun _ => rfl)
       ·refine Zi 20 false rfl rfl rfl (fun _ => rfl)
       ·refine Zy 23 true rfl rfl rfl (fun _ => rfl)
       ·refine Zy 23 true rfl rfl rfl (fun _ => rfl)
       ·refine Zy 23 true rfl rfl rfl (fun _ => rfl)
       ·refine Zy 23 true rfl rfl rfl (fun _ => rfl)
       ·refine Zy 23 true rfl rfl rfl (fun _ => rfl)
       ·refine Zy 23 true rfl rfl rfl (fun _ => rfl)
       ·refine Zy 23 true rfl rfl rfl (fun _ => rfl)
       ·refine Zy 23 true rfl rfl rfl (fun _ => rfl)
       ·refine Zi 20 false rfl rfl rfl (fun _ => rfl)
       ·refine Za rfl fun a _ B _ _ A => ?_;have ec : a (.tmp 34) = _ := Zb A 20 rfl;exact Zp rfl ec (B _)
      ·intro vs w' hg ht;obtain ⟨(r14 : vs 0 = _), (r15 : vs 1 = _), (r16 : vs 2 = _), (r17 : vs 3 = _), (r18 : vs 4 = _), (r19 : vs 5 = _), (r20 : vs 6 = _), (r21 : vs 7 = _), (r22 : vs 8 = _), (r23 : vs 9 = _), (r24 : vs 10 = _), (r25 : vs 11 = _), (r26 : vs 12 = _), (r27 : vs 13 = _), (r28 : vs 14 = _), (r29 : vs 15 = _), (r30 : vs 16 = _), (r31 : vs 17 = _), (r32 : vs 18 = _), (r33 : vs 19 = _), (r34 : vs 20 = _), (r35 : vs 21 = _), (r36 : vs 22 = _), (r37 : vs 23 = _), (r38 : vs 24 = _), (r39 : vs 25 = _), (r40 : vs 26 = _), (r41 : vs 27 = _), (r42 : vs 28 = _), (r43 : vs 29 = _), (r44 : vs 30 = _), (r45 : vs 31 = _), (r46 : vs 32 = _), (r47 : vs 33 = _), -⟩ := ht;simp only [Z3, Act.put, List.setIfInBounds_toArray, List.set_cons_zero, List.set_cons_succ, r14, r15, r16, r17, r18, r19, r20, r21, r22, r23, r24, r25, r26, r27, r28, r29, r30, r31, r32, r33, r34, r35, r36, r37, r38, r39, r40, r41, r42, r43, r44, r45, r46, r47];clear r14 r15 r16 r17 r18 r19 r20 r21 r22 r23 r24 r25 r26 r27 r28 r29 r30 r31 r32 r33 r34 r35 r36 r37 r38 r39 r40 r41 r42 r43 r44 r45 r46 r47;have gr2 := hgr.trans (g1.trans hg);clear hg hX1 hu1;go_wp2_with fail;go_ret;exact ⟨rfl, gr2⟩
     ·by_cases hp1 : 1000 < e.pair
      ·have hRf : R = false := HX.out (by unfold okE; rw [decide_eq_false (by omega)]; rfl);subst hRf;clear HX HE hk1;go_wp2_with fail;clear q0 q1 q2 q3 q4 HSL;generalize World.alloc wr _ = W1 at *;generalize wr.heap.size = g at *;refine Zr [ex (.pointer (some ⟨g, 0, none⟩)), ex (.agg #[.int .i64 e.rc.kind, .int .i64 e.rc.key, .int .i64 e.rc.ver, .slice a1 e.rc.data.length c1]), ex (.int .i64 W), ex (.bool false), ex (.bool false), ex (.pointer (some ⟨g, 0, none⟩)), ex (.pointer (some ⟨g, 0, none⟩)), ex (.int .i64 e.rc.kind), ex (.bool false), ex (.bool false), ex (.bool false), ex (.pointer (some ⟨g, 4, none⟩)), ex (.int .i64 e.pair), ex (.bool false), ex (.bool false), ex (.bool false), ex (.pointer (some ⟨g, 4, none⟩)), ex (.int .i64 e.pair), ex (.bool true), ex (.bool true), ex (.bool true), ex (undef), ex (undef), ex (undef), ex (undef), ex (undef), ex (undef), ex (undef), ex (undef), ex (undef), ex (undef), ex (undef), ex (undef), ex (.bool true)] (by kernel_rfl) (by kernel_rfl) ⟨Zc _, Zc _, Zc _, Zc _, Zc _, Zc _, Zc _, Zc _, Zc _, Zc _, Zc _, Zc _, Zc _, Zc _, Zc _, Zc _, Zc _, Zc _, Zc _, Zc _, Zc _, Zc _, Zc _, Zc _, Zc _, Zc _, Zc _, Zc _, Zc _, Zc _, Zc _, Zc _, Zc _, Zc _, trivial⟩ ?_ ?_
       ·refine ⟨?_, ?_, ?_, ?_, ?_, ?_, ?_, ?_, ?_, ?_, ?_, ?_, ?_, ?_, ?_, ?_, ?_, ?_, ?_, ?_, ?_, ?_, ?_, ?_, ?_, ?_, ?_, ?_, ?_, ?_, ?_, ?_, ?_, ?_, trivial⟩
        ·refine Za rfl fun a _ _ _ B A => ?_;have e4 : a (.tmp 4) = .pointer (some ⟨g, 0, none⟩) := Zj A 4 rfl;refine Ze ?_ rfl;clear A B;go_simp;all_goals go_arith
        ·refine Za rfl fun a _ _ _ B A => ?_;have e14 : a (.tmp 14) = _ := Zb A 0 rfl;have hX := (B.block _ (Zg hX1)).trans hX1;obtain ⟨y0, y1, y2, y3⟩ := Xm hX rfl rfl rfl rfl;refine Ze ?_ rfl;clear A B hX;go_simp;all_goals go_arith
        ·refine Za rfl fun a B _ _ C A => ?_;have e15 : a (.tmp 15) = _ := Zb A 1 rfl;refine Zx (f := 27) (args := #[.agg #[.int .i64 e.rc.kind, .int .i64 e.rc.key, .int .i64 e.rc.ver, .slice a1 e.rc.data.length c1]]) ?_ ((Xo _ _ _ e.rc.data _ B (Zw hu1.p C)).mono ?_)
         ·clear A C;go_simp;all_goals go_arith
         ·rintro e w2 ⟨rfl, g2⟩;exact ⟨_, rfl, g2, by rw [HW.out]; rfl⟩
        ·refine Za rfl fun a _ _ _ B A => ?_;have e16 : a (.tmp 16) = _ := Zb A 2 rfl;refine Ze ?_ rfl;clear A B;go_simp;all_goals go_arith
        ·exact Za rfl fun a _ _ _ _ A => Zf rfl (Zb A 3 rfl)
        ·refine Zd 4 false rfl rfl rfl fun a _ _ _ B A => ?_;have e4 : a (.tmp 4) = .pointer (some ⟨g, 0, none⟩) := Zj A 4 rfl;refine Ze ?_ rfl;clear A B;go_simp;all_goals go_arith
        ·refine Zd 4 false rfl rfl rfl fun a _ _ _ B A => ?_;have e19 : a (.tmp 19) = _ := Zb A 5 rfl;refine Ze ?_ rfl;clear A B;go_simp;all_goals go_arith
        ·refine Zd 4 false rfl rfl rfl fun a _ _ _ B A => ?_;have e20 : a (.tmp 20) = _ := Zb A 6 rfl;have hX := (B.block _ (Zg hX1)).trans hX1;have y0 := Zk hX 0 _ rfl;refine Ze ?_ rfl;clear A B hX;go_simp;all_goals go_arith
        ·refine Zd 4 false rfl rfl rfl fun a _ _ _ B A => ?_;have e21 : a (.tmp 21) = _ := Zb A 7 rfl;refine Ze ?_ rfl;clear A B;go_simp;all_goals go_arith
        ·refine Za rfl fun a _ _ _ _ A => ?_;have ec : a (.tmp 18) = _ := Zb A 4 rfl;have e : a (.tmp 22) = _ := Zb A 8 rfl;exact Zp rfl ec e
        ·exact Za rfl fun a _ _ _ _ A => Zf rfl (Zb A 9 rfl)
        ·refine Zd 10 false rfl rfl rfl fun a _ _ _ B A => ?_;have e4 : a (.tmp 4) = .pointer (some ⟨g, 0, none⟩) := Zj A 4 rfl;refine Ze ?_ rfl;clear A B;go_simp;all_goals go_arith
        ·refine Zd 10 false rfl rfl rfl fun a _ _ _ B A => ?_;have e25 : a (.tmp 25) = _ := Zb A 11 rfl;have hX := (B.block _ (Zg hX1)).trans hX1;have y0 := Zk hX 4 _ rfl;refine Ze ?_ rfl;clear A B hX;go_simp;all_goals go_arith
        ·refine Zd 10 false rfl rfl rfl fun a _ _ _ B A => ?_;have e26 : a (.tmp 26) = _ := Zb A 12 rfl;refine Ze ?_ rfl;clear A B;go_simp;all_goals go_arith
        ·refine Za rfl fun a _ _ _ _ A => ?_;have ec : a (.tmp 24) = _ := Zb A 10 rfl;have e : a (.tmp 27) = _ := Zb A 13 rfl;exact Zp rfl ec e
        ·exact Za rfl fun a _ _ _ _ A => Zf rfl (Zb A 14 rfl)
        ·refine Zd 15 false rfl rfl rfl fun a _ _ _ B A => ?_;have e4 : a (.tmp 4) = .pointer (some ⟨g, 0, none⟩) := Zj A 4 rfl;refine Ze ?_ rfl;clear A B;go_simp;all_goals go_arith
        ·refine Zd 15 false rfl rfl rfl fun a _ _ _ B A => ?_;have e30 : a (.tmp 30) = _ := Zb A 16 rfl;have hX := (B.block _ (Zg hX1)).trans hX1;have y0 := Zk hX 4 _ rfl;refine Ze ?_ rfl;clear A B hX;go_simp;all_goals go_arith
        ·refine Zd 15 false rfl rfl rfl fun a _ _ _ B A => ?_;have e31 : a (.tmp 31) = _ := Zb A 17 rfl;refine Ze ?_ rfl;clear A B;go_simp;all_goals go_arith
        ·refine Za rfl fun a _ _ _ _ A => ?_;have ec : a (.tmp 29) = _ := Zb A 15 rfl;have e : a (.tmp 32) = _ := Zb A 18 rfl;exact Zp rfl ec e
        ·exact Za rfl fun a _ _ _ _ A => Zf rfl (Zb A 19 rfl)
        ·refine Zi 20 false rfl rfl rfl (fun _ => rfl)
        ·refine Zi 20 false rfl rfl rfl (fun _ => rfl)
        ·refine Zi 20 false rfl rfl rfl (fun _ => rfl)
        ·refine Zy 23 true rfl rfl rfl (fun _ => rfl)
        ·refine Zy 23 true rfl rfl rfl (fun _ => rfl)
        ·refine Zy 23 true rfl rfl rfl (fun _ => rfl)
        ·refine Zy 23 true rfl rfl rfl (fun _ => rfl)
        ·refine Zy 23 true rfl rfl rfl (fun _ => rfl)
        ·refine Zy 23 true rfl rfl rfl (fun _ => rfl)
        ·refine Zy 23 true rfl rfl rfl (fun _ => rfl)
        ·refine Zy 23 true rfl rfl rfl (fun _ => rfl)
        ·refine Zi 20 false rfl rfl rfl (fun _ => rfl)
        ·refine Za rfl fun a _ B _ _ A => ?_;have ec : a (.tmp 34) = _ := Zb A 20 rfl;exact Zp rfl ec (B _)
       ·intro vs w' hg ht;obtain ⟨(r14 : vs 0 = _), (r15 : vs 1 = _), (r16 : vs 2 = _), (r17 : vs 3 = _), (r18 : vs 4 = _), (r19 : vs 5 = _), (r20 : vs 6 = _), (r21 : vs 7 = _), (r22 : vs 8 = _), (r23 : vs 9 = _), (r24 : vs 10 = _), (r25 : vs 11 = _), (r26 : vs 12 = _), (r27 : vs 13 = _), (r28 : vs 14 = _), (r29 : vs 15 = _), (r30 : vs 16 = _), (r31 : vs 17 = _), (r32 : vs 18 = _), (r33 : vs 19 = _), (r34 : vs 20 = _), (r35 : vs 21 = _), (r36 : vs 22 = _), (r37 : vs 23 = _), (r38 : vs 24 = _), (r39 : vs 25 = _), (r40 : vs 26 = _), (r41 : vs 27 = _), (r42 : vs 28 = _), (r43 : vs 29 = _), (r44 : vs 30 = _), (r45 : vs 31 = _), (r46 : vs 32 = _), (r47 : vs 33 = _), -⟩ := ht;simp only [Z3, Act.put, List.setIfInBounds_toArray, List.set_cons_zero, List.set_cons_succ, r14, r15, r16, r17, r18, r19, r20, r21, r22, r23, r24, r25, r26, r27, r28, r29, r30, r31, r32, r33, r34, r35, r36, r37, r38, r39, r40, r41, r42, r43, r44, r45, r46, r47];clear r14 r15 r16 r17 r18 r19 r20 r21 r22 r23 r24 r25 r26 r27 r28 r29 r30 r31 r32 r33 r34 r35 r36 r37 r38 r39 r40 r41 r42 r43 r44 r45 r46 r47;have gr2 := hgr.trans (g1.trans hg);clear hg hX1 hu1;go_wp2_with fail;go_ret;exact ⟨rfl, gr2⟩
      ·have HOK : Hid (∀ B C : Bool, Qe (l.take k) e = B → (l.take k).all (fun x => decide (x.pair ≠ e.pair)) = C → okE (l.take k) e = (B && C)) := by
        rintro B C rfl rfl;unfold okE;rw [decide_eq_true (by exact ⟨HW0.out, hk1, by omega, by omega⟩), Bool.true_and]
       have hp0' : 0 ≤ e.pair := by omega
       have hp1' : e.pair ≤ 1000 := by omega
       clear hk1 hp0 hp1;by_cases hk0 : 0 < k
       ·obtain ⟨k1, hkk⟩ : ∃ k1, k = k1 + 1 := ⟨k - 1, by omega⟩;have hk1l : k1 < l.length := by omega
        have HSL1 := HSL.grow g1;obtain ⟨b', off', a2, c2, hv2, p0, p1, p2, p3, p4, hz⟩ := X4 HSL1 k1 hk1l;cases hv2;have HLL : Hid (Qe (l.take k) e = Ya l[k1] e) := by
         show Qe _ e = _;unfold Qe;rw [hkk, List.take_succ_eq_append_getElem hk1l, List.getLast?_append];simp
        have hka : k1 < k := by omega
        have hkb : k ≤ k1 + 1 := by omega
        clear hkk;generalize l[k1] = x at *;obtain ⟨L, hL⟩ : ∃ L, L = Ya x e := ⟨_, rfl⟩;have HL : Hid _ := hL;clear hL;cases L with
        | false =>
         have hRf : R = false := HX.out (by rw [HOK.out false _ (by rw [HLL.out, ← HL.out]) rfl]; rfl);subst hRf;clear HX HE HOK;go_wp2_with fail;clear q0 q1 q2 q3 q4 HSL;generalize World.alloc wr _ = W1 at *;generalize wr.heap.size = g at *
         refine Zr [ex (.pointer (some ⟨g, 0, none⟩)), ex (.agg #[.int .i64 e.rc.kind, .int .i64 e.rc.key, .int .i64 e.rc.ver, .slice a1 e.rc.data.length c1]), ex (.int .i64 W), ex (.bool false), ex (.bool false), ex (.pointer (some ⟨g, 0, none⟩)), ex (.pointer (some ⟨g, 0, none⟩)), ex (.int .i64 e.rc.kind), ex (.bool false), ex (.bool false), ex (.bool false), ex (.pointer (some ⟨g, 4, none⟩)), ex (.int .i64 e.pair), ex (.bool false), ex (.bool false), ex (.bool false), ex (.pointer (some ⟨g, 4, none⟩)), ex (.int .i64 e.pair), ex (.bool false), ex (.bool false), ex (.bool false), ex (.int .i64 k), ex (.bool true), ex (.bool true), ex (.slice (some ⟨b, off, none⟩) l.length cp), ex (.int .i64 k), ex (.int .i64 k1), ex (.pointer (some ⟨b, off + k1 * 5, none⟩)), ex (.agg #[.int .i64 x.rc.kind, .int .i64 x.rc.key, .int .i64 x.rc.ver, .slice a2 x.rc.data.length c2, .int .i64 x.pair]), ex (.agg #[.int .i64 e.rc.kind, .int .i64 e.rc.key, .int .i64 e.rc.ver, .slice a1 e.rc.data.length c1, .int .i64 e.pair]), ex (.bool false), ex (.bool true), ex (.bool true), ex (.bool true)] (by kernel_rfl) (by kernel_rfl) ⟨Zc _, Zc _, Zc _, Zc _, Zc _, Zc _, Zc _, Zc _, Zc _, Zc _, Zc _, Zc _, Zc _, Zc _, Zc _, Zc _, Zc _, Zc _, Zc _, Zc _, Zc _, Zc _, Zc _, Zc _, Zc _, Zc _, Zc _, Zc _, Zc _, Zc _, Zc _, Zc _, Zc _, Zc _, trivial⟩ ?_ ?_
         ·refine ⟨?_, ?_, ?_, ?_, ?_, ?_, ?_, ?_, ?_, ?_, ?_, ?_, ?_, ?_, ?_, ?_, ?_, ?_, ?_, ?_, ?_, ?_, ?_, ?_, ?_, ?_, ?_, ?_, ?_, ?_, ?_, ?_, ?_, ?_, trivial⟩
          ·refine Za rfl fun a _ _ _ B A => ?_;have e4 : a (.tmp 4) = .pointer (some ⟨g, 0, none⟩) := Zj A 4 rfl;refine Ze ?_ rfl;clear A B;go_simp;all_goals go_arith
          ·refine Za rfl fun a _ _ _ B A => ?_;have e14 : a (.tmp 14) = _ := Zb A 0 rfl;have hX := (B.block _ (Zg hX1)).trans hX1;obtain ⟨y0, y1, y2, y3⟩ := Xm hX rfl rfl rfl rfl;refine Ze ?_ rfl;clear A B hX;go_simp;all_goals go_arith
          ·refine Za rfl fun a B _ _ C A => ?_;have e15 : a (.tmp 15) = _ := Zb A 1 rfl;refine Zx (f := 27) (args := #[.agg #[.int .i64 e.rc.kind, .int .i64 e.rc.key, .int .i64 e.rc.ver, .slice a1 e.rc.data.length c1]]) ?_ ((Xo _ _ _ e.rc.data _ B (Zw hu1.p C)).mono ?_)
           ·clear A C;go_simp;all_goals go_arith
           ·rintro e w2 ⟨rfl, g2⟩;exact ⟨_, rfl, g2, by rw [HW.out]; rfl⟩
          ·refine Za rfl fun a _ _ _ B A => ?_;have e16 : a (.tmp 16) = _ := Zb A 2 rfl;refine Ze ?_ rfl;clear A B;go_simp;all_goals go_arith
          ·exact Za rfl fun a _ _ _ _ A => Zf rfl (Zb A 3 rfl)
          ·refine Zd 4 false rfl rfl rfl fun a _ _ _ B A => ?_;have e4 : a (.tmp 4) = .pointer (some ⟨g, 0, none⟩) := Zj A 4 rfl;refine Ze ?_ rfl;clear A B;go_simp;all_goals go_arith
          ·refine Zd 4 false rfl rfl rfl fun a _ _ _ B A => ?_;have e19 : a (.tmp 19) = _ := Zb A 5 rfl;refine Ze ?_ rfl;clear A B;go_simp;all_goals go_arith
          ·refine Zd 4 false rfl rfl rfl fun a _ _ _ B A => ?_;have e20 : a (.tmp 20) = _ := Zb A 6 rfl;have hX := (B.block _ (Zg hX1)).trans hX1;have y0 := Zk hX 0 _ rfl;refine Ze ?_ rfl;clear A B hX;go_simp;all_goals go_arith
          ·refine Zd 4 false rfl rfl rfl fun a _ _ _ B A => ?_;have e21 : a (.tmp 21) = _ := Zb A 7 rfl;refine Ze ?_ rfl;clear A B;go_simp;all_goals go_arith
          ·refine Za rfl fun a _ _ _ _ A => ?_;have ec : a (.tmp 18) = _ := Zb A 4 rfl;have e : a (.tmp 22) = _ := Zb A 8 rfl;exact Zp rfl ec e
          ·exact Za rfl fun a _ _ _ _ A => Zf rfl (Zb A 9 rfl)
          ·refine Zd 10 false rfl rfl rfl fun a _ _ _ B A => ?_;have e4 : a (.tmp 4) = .pointer (some ⟨g, 0, none⟩) := Zj A 4 rfl;refine Ze ?_ rfl;clear A B;go_simp;all_goals go_arith
          ·refine Zd 10 false rfl rfl rfl fun a _ _ _ B A => ?_;have e25 : a (.tmp 25) = _ := Zb A 11 rfl;have hX := (B.block _ (Zg hX1)).trans hX1;have y0 := Zk hX 4 _ rfl;refine Ze ?_ rfl;clear A B hX;go_simp;all_goals go_arith
          ·refine Zd 10 false rfl rfl rfl fun a _ _ _ B A => ?_;have e26 : a (.tmp 26) = _ := Zb A 12 rfl;refine Ze ?_ rfl;clear A B;go_simp;all_goals go_arith
          ·refine Za rfl fun a _ _ _ _ A => ?_;have ec : a (.tmp 24) = _ := Zb A 10 rfl;have e : a (.tmp 27) = _ := Zb A 13 rfl;exact Zp rfl ec e
          ·exact Za rfl fun a _ _ _ _ A => Zf rfl (Zb A 14 rfl)
          ·refine Zd 15 false rfl rfl rfl fun a _ _ _ B A => ?_;have e4 : a (.tmp 4) = .pointer (some ⟨g, 0, none⟩) := Zj A 4 rfl;refine Ze ?_ rfl;clear A B;go_simp;all_goals go_arith
          ·refine Zd 15 false rfl rfl rfl fun a _ _ _ B A => ?_;have e30 : a (.tmp 30) = _ := Zb A 16 rfl;have hX := (B.block _ (Zg hX1)).trans hX1;have y0 := Zk hX 4 _ rfl;refine Ze ?_ rfl;clear A B hX;go_simp;all_goals go_arith
          ·refine Zd 15 false rfl rfl rfl fun a _ _ _ B A => ?_;have e31 : a (.tmp 31) = _ := Zb A 17 rfl;refine Ze ?_ rfl;clear A B;go_simp;all_goals go_arith
          ·refine Za rfl fun a _ _ _ _ A => ?_;have ec : a (.tmp 29) = _ := Zb A 15 rfl;have e : a (.tmp 32) = _ := Zb A 18 rfl;exact Zp rfl ec e
          ·exact Za rfl fun a _ _ _ _ A => Zf rfl (Zb A 19 rfl)
          ·exact Zd 20 false rfl rfl rfl fun a _ _ _ _ A => Zf rfl (Zj A 3 rfl)
          ·refine Zd 20 false rfl rfl rfl fun a _ _ _ B A => ?_;have e35 : a (.tmp 35) = _ := Zb A 21 rfl;refine Ze ?_ rfl;clear A B;go_simp;all_goals go_arith
          ·exact Zd 20 false rfl rfl rfl fun a _ _ _ _ A => Zf rfl (Zb A 22 rfl)
          ·exact Zd 23 true rfl rfl rfl fun a _ _ _ _ A => Zf rfl (Zj A 0 rfl)
          ·exact Zd 23 true rfl rfl rfl fun a _ _ _ _ A => Zf rfl (Zj A 3 rfl)
          ·refine Zd 23 true rfl rfl rfl fun a _ _ _ B A => ?_;have e39 : a (.tmp 39) = _ := Zb A 25 rfl;refine Ze ?_ rfl;clear A B;go_simp;all_goals go_arith
          ·refine Zd 23 true rfl rfl rfl fun a _ _ _ B A => ?_;have e38 : a (.tmp 38) = _ := Zb A 24 rfl;have e40 : a (.tmp 40) = _ := Zb A 26 rfl;refine Ze ?_ rfl;clear A B;go_simp;all_goals go_arith
          ·refine Zd 23 true rfl rfl rfl fun a _ _ _ B A => ?_;have e41 : a (.tmp 41) = _ := Zb A 27 rfl;have h1 := (Below.cell B (Zn p0)).trans p0;have h2 := (Below.cell B (Zn p1)).trans p1;have h3 := (Below.cell B (Zn p2)).trans p2;have h4 := (Below.cell B (Zn p3)).trans p3;have h5 := (Below.cell B (Zn p4)).trans p4;refine Ze ?_ rfl;clear A B;go_simp;all_goals go_arith
          ·refine Zd 23 true rfl rfl rfl fun a _ _ _ B A => ?_;have e4 : a (.tmp 4) = .pointer (some ⟨g, 0, none⟩) := Zj A 4 rfl;have hX := (B.block _ (Zg hX1)).trans hX1;obtain ⟨y0, y1, y2, y3, y4⟩ := Qa hX rfl rfl rfl rfl rfl;refine Ze ?_ rfl;clear A B hX;go_simp;all_goals go_arith
          ·refine Zd 23 true rfl rfl rfl fun a B _ _ C A => ?_;have e42 : a (.tmp 42) = _ := Zb A 28 rfl;have e43 : a (.tmp 43) = _ := Zb A 29 rfl;refine Zx (f := 89) (args := #[.agg #[.int .i64 x.rc.kind, .int .i64 x.rc.key, .int .i64 x.rc.ver, .slice a2 x.rc.data.length c2, .int .i64 x.pair], .agg #[.int .i64 e.rc.kind, .int .i64 e.rc.key, .int .i64 e.rc.ver, .slice a1 e.rc.data.length c1, .int .i64 e.pair]]) ?_ ((Jh x e _ _ _ _ B).mono ?_)
           ·clear A C;go_simp;all_goals go_arith
           ·rintro e w2 ⟨rfl, g2⟩;exact ⟨_, rfl, g2, by rw [HL.out]; rfl⟩
          ·refine Zd 23 true rfl rfl rfl fun a _ _ _ B A => ?_;have e44 : a (.tmp 44) = _ := Zb A 30 rfl;refine Ze ?_ rfl;clear A B;go_simp;all_goals go_arith
          ·refine Zd 20 false rfl rfl rfl fun a _ _ _ _ A => ?_;have ec : a (.tmp 37) = _ := Zb A 23 rfl;have e : a (.tmp 45) = _ := Zb A 31 rfl;exact Zp rfl ec e
          ·refine Za rfl fun a _ _ _ _ A => ?_;have ec : a (.tmp 34) = _ := Zb A 20 rfl;have e : a (.tmp 46) = _ := Zb A 32 rfl;exact Zp rfl ec e
         ·intro vs w' hg ht;obtain ⟨(r14 : vs 0 = _), (r15 : vs 1 = _), (r16 : vs 2 = _), (r17 : vs 3 = _), (r18 : vs 4 = _), (r19 : vs 5 = _), (r20 : vs 6 = _), (r21 : vs 7 = _), (r22 : vs 8 = _), (r23 : vs 9 = _), (r24 : vs 10 = _), (r25 : vs 11 = _), (r26 : vs 12 = _), (r27 : vs 13 = _), (r28 : vs 14 = _), (r29 : vs 15 = _), (r30 : vs 16 = _), (r31 : vs 17 = _), (r32 : vs 18 = _), (r33 : vs 19 = _), (r34 : vs 20 = _), (r35 : vs 21 = _), (r36 : vs 22 = _), (r37 : vs 23 = _), (r38 : vs 24 = _), (r39 : vs 25 = _), (r40 : vs 26 = _), (r41 : vs 27 = _), (r42 : vs 28 = _), (r43 : vs 29 = _), (r44 : vs 30 = _), (r45 : vs 31 = _), (r46 : vs 32 = _), (r47 : vs 33 = _), -⟩ := ht;simp only [Z3, Act.put, List.setIfInBounds_toArray, List.set_cons_zero, List.set_cons_succ, r14, r15, r16, r17, r18, r19, r20, r21, r22, r23, r24, r25, r26, r27, r28, r29, r30, r31, r32, r33, r34, r35, r36, r37, r38, r39, r40, r41, r42, r43, r44, r45, r46, r47];clear r14 r15 r16 r17 r18 r19 r20 r21 r22 r23 r24 r25 r26 r27 r28 r29 r30 r31 r32 r33 r34 r35 r36 r37 r38 r39 r40 r41 r42 r43 r44 r45 r46 r47;have gr2 := hgr.trans (g1.trans hg);clear hg hX1 hu1;go_wp2_with fail;go_ret;exact ⟨rfl, gr2⟩
        | true =>
         have HZ : Hid (R = ((l.take k).all (fun x => decide (x.pair ≠ e.pair)) && Y4 (l.take (k + 1)) (l.drop (k + 1)))) := by show R = _; rw [HE.out, HOK.out true _ (by rw [HLL.out, ← HL.out]) rfl]; rfl
         clear HX HE HOK;go_wp2_with fail;clear q0 q1 q2 q3 q4;generalize World.alloc wr _ = W1 at *;generalize wr.heap.size = g at *;refine Zr [ex (.pointer (some ⟨g, 0, none⟩)), ex (.agg #[.int .i64 e.rc.kind, .int .i64 e.rc.key, .int .i64 e.rc.ver, .slice a1 e.rc.data.length c1]), ex (.int .i64 W), ex (.bool false), ex (.bool false), ex (.pointer (some ⟨g, 0, none⟩)), ex (.pointer (some ⟨g, 0, none⟩)), ex (.int .i64 e.rc.kind), ex (.bool false), ex (.bool false), ex (.bool false), ex (.pointer (some ⟨g, 4, none⟩)), ex (.int .i64 e.pair), ex (.bool false), ex (.bool false), ex (.bool false), ex (.pointer (some ⟨g, 4, none⟩)), ex (.int .i64 e.pair), ex (.bool false), ex (.bool false), ex (.bool false), ex (.int .i64 k), ex (.bool true), ex (.bool true), ex (.slice (some ⟨b, off, none⟩) l.length cp), ex (.int .i64 k), ex (.int .i64 k1), ex (.pointer (some ⟨b, off + k1 * 5, none⟩)), ex (.agg #[.int .i64 x.rc.kind, .int .i64 x.rc.key, .int .i64 x.rc.ver, .slice a2 x.rc.data.length c2, .int .i64 x.pair]), ex (.agg #[.int .i64 e.rc.kind, .int .i64 e.rc.key, .int .i64 e.rc.ver, .slice a1 e.rc.data.length c1, .int .i64 e.pair]), ex (.bool true), ex (.bool false), ex (.bool false), ex (.bool false)] (by kernel_rfl) (by kernel_rfl) ⟨Zc _, Zc _, Zc _, Zc _, Zc _, Zc _, Zc _, Zc _, Zc _, Zc _, Zc _, Zc _, Zc _, Zc _, Zc _, Zc _, Zc _, Zc _, Zc _, Zc _, Zc _, Zc _, Zc _, Zc _, Zc _, Zc _, Zc _, Zc _, Zc _, Zc _, Zc _, Zc _, Zc _, Zc _, trivial⟩ ?_ ?_
         ·refine ⟨?_, ?_, ?_, ?_, ?_, ?_, ?_, ?_, ?_, ?_, ?_, ?_, ?_, ?_, ?_, ?_, ?_, ?_, ?_, ?_, ?_, ?_, ?_, ?_, ?_, ?_, ?_, ?_, ?_, ?_, ?_, ?_, ?_, ?_, trivial⟩
          ·refine Za rfl fun a _ _ _ B A => ?_;have e4 : a (.tmp 4) = .pointer (some ⟨g, 0, none⟩) := Zj A 4 rfl;refine Ze ?_ rfl;clear A B;go_simp;all_goals go_arith
          ·refine Za rfl fun a _ _ _ B A => ?_;have e14 : a (.tmp 14) = _ := Zb A 0 rfl;have hX := (B.block _ (Zg hX1)).trans hX1;obtain ⟨y0, y1, y2, y3⟩ := Xm hX rfl rfl rfl rfl;refine Ze ?_ rfl;clear A B hX;go_simp;all_goals go_arith
          ·refine Za rfl fun a B _ _ C A => ?_;have e15 : a (.tmp 15) = _ := Zb A 1 rfl;refine Zx (f := 27) (args := #[.agg #[.int .i64 e.rc.kind, .int .i64 e.rc.key, .int .i64 e.rc.ver, .slice a1 e.rc.data.length c1]]) ?_ ((Xo _ _ _ e.rc.data _ B (Zw hu1.p C)).mono ?_)
           ·clear A C;go_simp;all_goals go_arith
           ·rintro e w2 ⟨rfl, g2⟩;exact ⟨_, rfl, g2, by rw [HW.out]; rfl⟩
          ·refine Za rfl fun a _ _ _ B A => ?_;have e16 : a (.tmp 16) = _ := Zb A 2 rfl;refine Ze ?_ rfl;clear A B;go_simp;all_goals go_arith
          ·exact Za rfl fun a _ _ _ _ A => Zf rfl (Zb A 3 rfl)
          ·refine Zd 4 false rfl rfl rfl fun a _ _ _ B A => ?_;have e4 : a (.tmp 4) = .pointer (some ⟨g, 0, none⟩) := Zj A 4 rfl;refine Ze ?_ rfl;clear A B;go_simp;all_goals go_arith
          ·refine Zd 4 false rfl rfl rfl fun a _ _ _ B A => ?_;have e19 : a (.tmp 19) = _ := Zb A 5 rfl;refine Ze ?_ rfl;clear A B;go_simp;all_goals go_arith
          ·refine Zd 4 false rfl rfl rfl fun a _ _ _ B A => ?_;have e20 : a (.tmp 20) = _ := Zb A 6 rfl;have hX := (B.block _ (Zg hX1)).trans hX1;have y0 := Zk hX 0 _ rfl;refine Ze ?_ rfl;clear A B hX;go_simp;all_goals go_arith
          ·refine Zd 4 false rfl rfl rfl fun a _ _ _ B A => ?_;have e21 : a (.tmp 21) = _ := Zb A 7 rfl;refine Ze ?_ rfl;clear A B;go_simp;all_goals go_arith
          ·refine Za rfl fun a _ _ _ _ A => ?_;have ec : a (.tmp 18) = _ := Zb A 4 rfl;have e : a (.tmp 22) = _ := Zb A 8 rfl;exact Zp rfl ec e
          ·exact Za rfl fun a _ _ _ _ A => Zf rfl (Zb A 9 rfl)
          ·refine Zd 10 false rfl rfl rfl fun a _ _ _ B A => ?_;have e4 : a (.tmp 4) = .pointer (some ⟨g, 0, none⟩) := Zj A 4 rfl;refine Ze ?_ rfl;clear A B;go_simp;all_goals go_arith
          ·refine Zd 10 false rfl rfl rfl fun a _ _ _ B A => ?_;have e25 : a (.tmp 25) = _ := Zb A 11 rfl;have hX := (B.block _ (Zg hX1)).trans hX1;have y0 := Zk hX 4 _ rfl;refine Ze ?_ rfl;clear A B hX;go_simp;all_goals go_arith
          ·refine Zd 10 false rfl rfl rfl fun a _ _ _ B A => ?_;have e26 : a (.tmp 26) = _ := Zb A 12 rfl;refine Ze ?_ rfl;clear A B;go_simp;all_goals go_arith
          ·refine Za rfl fun a _ _ _ _ A => ?_;have ec : a (.tmp 24) = _ := Zb A 10 rfl;have e : a (.tmp 27) = _ := Zb A 13 rfl;exact Zp rfl ec e
          ·exact Za rfl fun a _ _ _ _ A => Zf rfl (Zb A 14 rfl)
          ·refine Zd 15 false rfl rfl rfl fun a _ _ _ B A => ?_;have e4 : a (.tmp 4) = .pointer (some ⟨g, 0, none⟩) := Zj A 4 rfl;refine Ze ?_ rfl;clear A B;go_simp;all_goals go_arith
          ·refine Zd 15 false rfl rfl rfl fun a _ _ _ B A => ?_;have e30 : a (.tmp 30) = _ := Zb A 16 rfl;have hX := (B.block _ (Zg hX1)).trans hX1;have y0 := Zk hX 4 _ rfl;refine Ze ?_ rfl;clear A B hX;go_simp;all_goals go_arith
          ·refine Zd 15 false rfl rfl rfl fun a _ _ _ B A => ?_;have e31 : a (.tmp 31) = _ := Zb A 17 rfl;refine Ze ?_ rfl;clear A B;go_simp;all_goals go_arith
          ·refine Za rfl fun a _ _ _ _ A => ?_;have ec : a (.tmp 29) = _ := Zb A 15 rfl;have e : a (.tmp 32) = _ := Zb A 18 rfl;exact Zp rfl ec e
          ·exact Za rfl fun a _ _ _ _ A => Zf rfl (Zb A 19 rfl)
          ·exact Zd 20 false rfl rfl rfl fun a _ _ _ _ A => Zf rfl (Zj A 3 rfl)
          ·refine Zd 20 false rfl rfl rfl fun a _ _ _ B A => ?_;have e35 : a (.tmp 35) = _ := Zb A 21 rfl;refine Ze ?_ rfl;clear A B;go_simp;all_goals go_arith
          ·exact Zd 20 false rfl rfl rfl fun a _ _ _ _ A => Zf rfl (Zb A 22 rfl)
          ·exact Zd 23 true rfl rfl rfl fun a _ _ _ _ A => Zf rfl (Zj A 0 rfl)
          ·exact Zd 23 true rfl rfl rfl fun a _ _ _ _ A => Zf rfl (Zj A 3 rfl)
          ·refine Zd 23 true rfl rfl rfl fun a _ _ _ B A => ?_;have e39 : a (.tmp 39) = _ := Zb A 25 rfl;refine Ze ?_ rfl;clear A B;go_simp;all_goals go_arith
          ·refine Zd 23 true rfl rfl rfl fun a _ _ _ B A => ?_;have e38 : a (.tmp 38) = _ := Zb A 24 rfl;have e40 : a (.tmp 40) = _ := Zb A 26 rfl;refine Ze ?_ rfl;clear A B;go_simp;all_goals go_arith
          ·refine Zd 23 true rfl rfl rfl fun a _ _ _ B A => ?_;have e41 : a (.tmp 41) = _ := Zb A 27 rfl;have h1 := (Below.cell B (Zn p0)).trans p0;have h2 := (Below.cell B (Zn p1)).trans p1;have h3 := (Below.cell B (Zn p2)).trans p2;have h4 := (Below.cell B (Zn p3)).trans p3;have h5 := (Below.cell B (Zn p4)).trans p4;refine Ze ?_ rfl;clear A B;go_simp;all_goals go_arith
          ·refine Zd 23 true rfl rfl rfl fun a _ _ _ B A => ?_;have e4 : a (.tmp 4) = .pointer (some ⟨g, 0, none⟩) := Zj A 4 rfl;have hX := (B.block _ (Zg hX1)).trans hX1;obtain ⟨y0, y1, y2, y3, y4⟩ := Qa hX rfl rfl rfl rfl rfl;refine Ze ?_ rfl;clear A B hX;go_simp;all_goals go_arith
          ·refine Zd 23 true rfl rfl rfl fun a B _ _ C A => ?_;have e42 : a (.tmp 42) = _ := Zb A 28 rfl;have e43 : a (.tmp 43) = _ := Zb A 29 rfl;refine Zx (f := 89) (args := #[.agg #[.int .i64 x.rc.kind, .int .i64 x.rc.key, .int .i64 x.rc.ver, .slice a2 x.rc.data.length c2, .int .i64 x.pair], .agg #[.int .i64 e.rc.kind, .int .i64 e.rc.key, .int .i64 e.rc.ver, .slice a1 e.rc.data.length c1, .int .i64 e.pair]]) ?_ ((Jh x e _ _ _ _ B).mono ?_)
           ·clear A C;go_simp;all_goals go_arith
           ·rintro e w2 ⟨rfl, g2⟩;exact ⟨_, rfl, g2, by rw [HL.out]; rfl⟩
          ·refine Zd 23 true rfl rfl rfl fun a _ _ _ B A => ?_;have e44 : a (.tmp 44) = _ := Zb A 30 rfl;refine Ze ?_ rfl;clear A B;go_simp;all_goals go_arith
          ·refine Zd 20 false rfl rfl rfl fun a _ _ _ _ A => ?_;have ec : a (.tmp 37) = _ := Zb A 23 rfl;have e : a (.tmp 45) = _ := Zb A 31 rfl;exact Zp rfl ec e
          ·refine Za rfl fun a _ _ _ _ A => ?_;have ec : a (.tmp 34) = _ := Zb A 20 rfl;have e : a (.tmp 46) = _ := Zb A 32 rfl;exact Zp rfl ec e
         ·intro vs w' hg ht;obtain ⟨(r14 : vs 0 = _), (r15 : vs 1 = _), (r16 : vs 2 = _), (r17 : vs 3 = _), (r18 : vs 4 = _), (r19 : vs 5 = _), (r20 : vs 6 = _), (r21 : vs 7 = _), (r22 : vs 8 = _), (r23 : vs 9 = _), (r24 : vs 10 = _), (r25 : vs 11 = _), (r26 : vs 12 = _), (r27 : vs 13 = _), (r28 : vs 14 = _), (r29 : vs 15 = _), (r30 : vs 16 = _), (r31 : vs 17 = _), (r32 : vs 18 = _), (r33 : vs 19 = _), (r34 : vs 20 = _), (r35 : vs 21 = _), (r36 : vs 22 = _), (r37 : vs 23 = _), (r38 : vs 24 = _), (r39 : vs 25 = _), (r40 : vs 26 = _), (r41 : vs 27 = _), (r42 : vs 28 = _), (r43 : vs 29 = _), (r44 : vs 30 = _), (r45 : vs 31 = _), (r46 : vs 32 = _), (r47 : vs 33 = _), -⟩ := ht;simp only [Z3, Act.put, List.setIfInBounds_toArray, List.set_cons_zero, List.set_cons_succ, r14, r15, r16, r17, r18, r19, r20, r21, r22, r23, r24, r25, r26, r27, r28, r29, r30, r31, r32, r33, r34, r35, r36, r37, r38, r39, r40, r41, r42, r43, r44, r45, r46, r47];clear r14 r15 r16 r17 r18 r19 r20 r21 r22 r23 r24 r25 r26 r27 r28 r29 r30 r31 r32 r33 r34 r35 r36 r37 r38 r39 r40 r41 r42 r43 r44 r45 r46 r47;clear p0 p1 p2 p3 p4 hz HL HLL hka hkb hk1l HSL1;have gr2 := hgr.trans (g1.trans hg);have hX2 := (hg.block _ (Zg hX1)).trans hX1;have HX2 : Hid _ := hX2;have hcpl : k ≤ cp := by
           rcases hs with ⟨_, _, h1, h2, _⟩ | ⟨_, _, _, _, h1, h2, _⟩
           ·rw [h2] at hlt; simp at hlt
           ·cases h1; omega
          clear hg hX1 hu1 g1 hX2 HSL;go_wp2_with fail;obtain ⟨wo, rfl⟩ : ∃ wo : World, wo = wr := ⟨_, rfl⟩;go_loopw [52] (fun i wq => ∃ j : Nat, j ≤ k ∧ i = .int .i64 j ∧ (l.take j).all (fun x => decide (x.pair ≠ e.pair)) = true ∧ Zm w wq ∧ wq.heap[g]? = some (.cells #[.int .i64 e.rc.kind, .int .i64 e.rc.key, .int .i64 e.rc.ver, .slice a1 e.rc.data.length c1, .int .i64 e.pair] 71 (0, 0))) (fun i _ => k - (intOf i).toNat)
          case atStart => exact ⟨0, by omega, rfl, rfl, gr2, HX2.out⟩
          case round =>
           clear gr2 HX2;obtain ⟨j, hj, rfl, hall, hgq, hXq⟩ := hrel;have HAL : Hid _ := hall;clear hall;by_cases hjl : j < k
           ·have hjl2 : j < l.length := by omega
            obtain ⟨b3, off3, a3, c3, hv3, p0, p1, p2, p3, p4, hz3⟩ := X4 (hs.grow hgq) j hjl2;cases hv3;have HA1 : Hid (l[j].pair ≠ e.pair → (l.take (j + 1)).all (fun x => decide (x.pair ≠ e.pair)) = true) := fun h => by
             rw [List.take_succ_eq_append_getElem hjl2, List.all_append, HAL.out]; simp [h]
            have HA2 : Hid (l[j].pair = e.pair → R = false) := fun h => by
             rw [HZ.out];have : (l.take k).all (fun x => decide (x.pair ≠ e.pair)) = false := by
              rw [List.all_eq_false];exact ⟨l[j], by rw [List.mem_take_iff_getElem]; exact ⟨j, by omega, rfl⟩, by simp [h]⟩
             rw [this]; rfl
            generalize l[j] = z at *;have g5 := Zh wr (.cells #[.int .i64 z.rc.kind, .int .i64 z.rc.key, .int .i64 z.rc.ver, .slice a3 z.rc.data.length c3, .int .i64 z.pair] 71);have hZ5 := Zu wr #[.int .i64 z.rc.kind, .int .i64 z.rc.key, .int .i64 z.rc.ver, .slice a3 z.rc.data.length c3, .int .i64 z.pair] 71;have hX5 := (g5.block _ (Zg hXq)).trans hXq;have gw5 := hgq.trans g5;have z4 := Zk hZ5 4 _ rfl;have x4 := Zk hX5 4 _ rfl;clear hz3 hgq hXq g5 hZ5;by_cases hpz : z.pair = e.pair
            ·have hRf : R = false := HA2.out hpz;subst hRf;have d5 : (z.pair == e.pair) = true := by simp [hpz]
             clear HA1 HA2 hpz;go_wp2_with fail;go_ret;exact ⟨rfl, gw5⟩
            ·have d5 : (z.pair == e.pair) = false := by simp [hpz]
             have HB : Hid _ := HA1.out hpz;clear HA1 HA2 hpz;go_wp2_with fail;go_roundw
             case rel => exact ⟨j + 1, by omega, by go_num, HB.out, gw5, hX5⟩
             case measure => simp [intOf]; omega
           ·have hjk : j = k := by omega
            have HK2 : Hid (R = Y4 (l.take (k + 1)) (l.drop (k + 1))) := by
             show R = _;have h := HAL.out;rw [hjk] at h;rw [HZ.out, h]; rfl
            clear hjk HZ;go_wp2_with fail;go_roundw
            case rel => exact ⟨k + 1, by omega, by go_num, HK2, hgq⟩
            case measure => simp [intOf]; omega
       ·have HZ : Hid (R = ((l.take k).all (fun x => decide (x.pair ≠ e.pair)) && Y4 (l.take (k + 1)) (l.drop (k + 1)))) := by
         show R = _;rw [HE.out, HOK.out true _ (by rw [show k = 0 from by omega]; rfl) rfl]; rfl
        clear HX HE HOK;go_wp2_with fail;clear q0 q1 q2 q3 q4;generalize World.alloc wr _ = W1 at *;generalize wr.heap.size = g at *;refine Zr [ex (.pointer (some ⟨g, 0, none⟩)), ex (.agg #[.int .i64 e.rc.kind, .int .i64 e.rc.key, .int .i64 e.rc.ver, .slice a1 e.rc.data.length c1]), ex (.int .i64 W), ex (.bool false), ex (.bool false), ex (.pointer (some ⟨g, 0, none⟩)), ex (.pointer (some ⟨g, 0, none⟩)), ex (.int .i64 e.rc.kind), ex (.bool false), ex (.bool false), ex (.bool false), ex (.pointer (some ⟨g, 4, none⟩)), ex (.int .i64 e.pair), ex (.bool false), ex (.bool false), ex (.bool false), ex (.pointer (some ⟨g, 4, none⟩)), ex (.int .i64 e.pair), ex (.bool false), ex (.bool false), ex (.bool false), ex (.int .i64 k), ex (.bool false), ex (.bool false), ex (undef), ex (undef), ex (undef), ex (undef), ex (undef), ex (undef), ex (undef), ex (undef), ex (.bool false), ex (.bool false)] (by kernel_rfl) (by kernel_rfl) ⟨Zc _, Zc _, Zc _, Zc _, Zc _, Zc _, Zc _, Zc _, Zc _, Zc _, Zc _, Zc _, Zc _, Zc _, Zc _, Zc _, Zc _, Zc _, Zc _, Zc _, Zc _, Zc _, Zc _, Zc _, Zc _, Zc _, Zc _, Zc _, Zc _, Zc _, Zc _, Zc _, Zc _, Zc _, trivial⟩ ?_ ?_
        ·refine ⟨?_, ?_, ?_, ?_, ?_, ?_, ?_, ?_, ?_, ?_, ?_, ?_, ?_, ?_, ?_, ?_, ?_, ?_, ?_, ?_, ?_, ?_, ?_, ?_, ?_, ?_, ?_, ?_, ?_, ?_, ?_, ?_, ?_, ?_, trivial⟩
         ·refine Za rfl fun a _ _ _ B A => ?_;have e4 : a (.tmp 4) = .pointer (some ⟨g, 0, none⟩) := Zj A 4 rfl;refine Ze ?_ rfl;clear A B;go_simp;all_goals go_arith
         ·refine Za rfl fun a _ _ _ B A => ?_;have e14 : a (.tmp 14) = _ := Zb A 0 rfl;have hX := (B.block _ (Zg hX1)).trans hX1;obtain ⟨y0, y1, y2, y3⟩ := Xm hX rfl rfl rfl rfl;refine Ze ?_ rfl;clear A B hX;go_simp;all_goals go_arith
         ·refine Za rfl fun a B _ _ C A => ?_;have e15 : a (.tmp 15) = _ := Zb A 1 rfl;refine Zx (f := 27) (args := #[.agg #[.int .i64 e.rc.kind, .int .i64 e.rc.key, .int .i64 e.rc.ver, .slice a1 e.rc.data.length c1]]) ?_ ((Xo _ _ _ e.rc.data _ B (Zw hu1.p C)).mono ?_)
          ·clear A C;go_simp;all_goals go_arith
          ·rintro e w2 ⟨rfl, g2⟩;exact ⟨_, rfl, g2, by rw [HW.out]; rfl⟩
         ·refine Za rfl fun a _ _ _ B A => ?_;have e16 : a (.tmp 16) = _ := Zb A 2 rfl;refine Ze ?_ rfl;clear A B;go_simp;all_goals go_arith
         ·exact Za rfl fun a _ _ _ _ A => Zf rfl (Zb A 3 rfl)
         ·refine Zd 4 false rfl rfl rfl fun a _ _ _ B A => ?_;have e4 : a (.tmp 4) = .pointer (some ⟨g, 0, none⟩) := Zj A 4 rfl;refine Ze ?_ rfl;clear A B;go_simp;all_goals go_arith
         ·refine Zd 4 false rfl rfl rfl fun a _ _ _ B A => ?_;have e19 : a (.tmp 19) = _ := Zb A 5 rfl;refine Ze ?_ rfl;clear A B;go_simp;all_goals go_arith
         ·refine Zd 4 false rfl rfl rfl fun a _ _ _ B A => ?_;have e20 : a (.tmp 20) = _ := Zb A 6 rfl;have hX := (B.block _ (Zg hX1)).trans hX1;have y0 := Zk hX 0 _ rfl;refine Ze ?_ rfl;clear A B hX;go_simp;all_goals go_arith
         ·refine Zd 4 false rfl rfl rfl fun a _ _ _ B A => ?_;have e21 : a (.tmp 21) = _ := Zb A 7 rfl;refine Ze ?_ rfl;clear A B;go_simp;all_goals go_arith
         ·refine Za rfl fun a _ _ _ _ A => ?_;have ec : a (.tmp 18) = _ := Zb A 4 rfl;have e : a (.tmp 22) = _ := Zb A 8 rfl;exact Zp rfl ec e
         ·exact Za rfl fun a _ _ _ _ A => Zf rfl (Zb A 9 rfl)
         ·refine Zd 10 false rfl rfl rfl fun a _ _ _ B A => ?_;have e4 : a (.tmp 4) = .pointer (some ⟨g, 0, none⟩) := Zj A 4 rfl;refine Ze ?_ rfl;clear A B;go_simp;all_goals go_arith
         ·refine Zd 10 false rfl rfl rfl fun a _ _ _ B A => ?_;have e25 : a (.tmp 25) = _ := Zb A 11 rfl;have hX := (B.block _ (Zg hX1)).trans hX1;have y0 := Zk hX 4 _ rfl;refine Ze ?_ rfl;clear A B hX;go_simp;all_goals go_arith
         ·refine Zd 10 false rfl rfl rfl fun a _ _ _ B A => ?_;have e26 : a (.tmp 26) = _ := Zb A 12 rfl;refine Ze ?_ rfl;clear A B;go_simp;all_goals go_arith
         ·refine Za rfl fun a _ _ _ _ A => ?_;have ec : a (.tmp 24) = _ := Zb A 10 rfl;have e : a (.tmp 27) = _ := Zb A 13 rfl;exact Zp rfl ec e
         ·exact Za rfl fun a _ _ _ _ A => Zf rfl (Zb A 14 rfl)
         ·refine Zd 15 false rfl rfl rfl fun a _ _ _ B A => ?_;have e4 : a (.tmp 4) = .pointer (some ⟨g, 0, none⟩) := Zj A 4 rfl;refine Ze ?_ rfl;clear A B;go_simp;all_goals go_arith
         ·refine Zd 15 false rfl rfl rfl fun a _ _ _ B A => ?_;have e30 : a (.tmp 30) = _ := Zb A 16 rfl;have hX := (B.block _ (Zg hX1)).trans hX1;have y0 := Zk hX 4 _ rfl;refine Ze ?_ rfl;clear A B hX;go_simp;all_goals go_arith
         ·refine Zd 15 false rfl rfl rfl fun a _ _ _ B A => ?_;have e31 : a (.tmp 31) = _ := Zb A 17 rfl;refine Ze ?_ rfl;clear A B;go_simp;all_goals go_arith
         ·refine Za rfl fun a _ _ _ _ A => ?_;have ec : a (.tmp 29) = _ := Zb A 15 rfl;have e : a (.tmp 32) = _ := Zb A 18 rfl;exact Zp rfl ec e
         ·exact Za rfl fun a _ _ _ _ A => Zf rfl (Zb A 19 rfl)
         ·exact Zd 20 false rfl rfl rfl fun a _ _ _ _ A => Zf rfl (Zj A 3 rfl)
         ·refine Zd 20 false rfl rfl rfl fun a _ _ _ B A => ?_;have e35 : a (.tmp 35) = _ := Zb A 21 rfl;refine Ze ?_ rfl;clear A B;go_simp;all_goals go_arith
         ·exact Zd 20 false rfl rfl rfl fun a _ _ _ _ A => Zf rfl (Zb A 22 rfl)
         ·refine Zi 23 true rfl rfl rfl (fun _ => rfl)
         ·refine Zi 23 true rfl rfl rfl (fun _ => rfl)
         ·refine Zi 23 true rfl rfl rfl (fun _ => rfl)
         ·refine Zi 23 true rfl rfl rfl (fun _ => rfl)
         ·refine Zi 23 true rfl rfl rfl (fun _ => rfl)
         ·refine Zi 23 true rfl rfl rfl (fun _ => rfl)
         ·refine Zi 23 true rfl rfl rfl (fun _ => rfl)
         ·refine Zi 23 true rfl rfl rfl (fun _ => rfl)
         ·refine Zd 20 false rfl rfl rfl fun a _ B _ _ A => ?_;have ec : a (.tmp 37) = _ := Zb A 23 rfl;exact Zp rfl ec (B _)
         ·refine Za rfl fun a _ _ _ _ A => ?_;have ec : a (.tmp 34) = _ := Zb A 20 rfl;have e : a (.tmp 46) = _ := Zb A 32 rfl;exact Zp rfl ec e
        ·intro vs w' hg ht;obtain ⟨(r14 : vs 0 = _), (r15 : vs 1 = _), (r16 : vs 2 = _), (r17 : vs 3 = _), (r18 : vs 4 = _), (r19 : vs 5 = _), (r20 : vs 6 = _), (r21 : vs 7 = _), (r22 : vs 8 = _), (r23 : vs 9 = _), (r24 : vs 10 = _), (r25 : vs 11 = _), (r26 : vs 12 = _), (r27 : vs 13 = _), (r28 : vs 14 = _), (r29 : vs 15 = _), (r30 : vs 16 = _), (r31 : vs 17 = _), (r32 : vs 18 = _), (r33 : vs 19 = _), (r34 : vs 20 = _), (r35 : vs 21 = _), (r36 : vs 22 = _), (r37 : vs 23 = _), (r38 : vs 24 = _), (r39 : vs 25 = _), (r40 : vs 26 = _), (r41 : vs 27 = _), (r42 : vs 28 = _), (r43 : vs 29 = _), (r44 : vs 30 = _), (r45 : vs 31 = _), (r46 : vs 32 = _), (r47 : vs 33 = _), -⟩ := ht;simp only [Z3, Act.put, List.setIfInBounds_toArray, List.set_cons_zero, List.set_cons_succ, r14, r15, r16, r17, r18, r19, r20, r21, r22, r23, r24, r25, r26, r27, r28, r29, r30, r31, r32, r33, r34, r35, r36, r37, r38, r39, r40, r41, r42, r43, r44, r45, r46, r47];clear r14 r15 r16 r17 r18 r19 r20 r21 r22 r23 r24 r25 r26 r27 r28 r29 r30 r31 r32 r33 r34 r35 r36 r37 r38 r39 r40 r41 r42 r43 r44 r45 r46 r47;clear hk0;have gr2 := hgr.trans (g1.trans hg);have hX2 := (hg.block _ (Zg hX1)).trans hX1;have HX2 : Hid _ := hX2;have hcpl : k ≤ cp := by
          rcases hs with ⟨_, _, h1, h2, _⟩ | ⟨_, _, _, _, h1, h2, _⟩
          ·rw [h2] at hlt; simp at hlt
          ·cases h1; omega
         clear hg hX1 hu1 g1 hX2 HSL;go_wp2_with fail;obtain ⟨wo, rfl⟩ : ∃ wo : World, wo = wr := ⟨_, rfl⟩;go_loopw [52] (fun i wq => ∃ j : Nat, j ≤ k ∧ i = .int .i64 j ∧ (l.take j).all (fun x => decide (x.pair ≠ e.pair)) = true ∧ Zm w wq ∧ wq.heap[g]? = some (.cells #[.int .i64 e.rc.kind, .int .i64 e.rc.key, .int .i64 e.rc.ver, .slice a1 e.rc.data.length c1, .int .i64 e.pair] 71 (0, 0))) (fun i _ => k - (intOf i).toNat)
         case atStart => exact ⟨0, by omega, rfl, rfl, gr2, HX2.out⟩
         case round =>
          clear gr2 HX2;obtain ⟨j, hj, rfl, hall, hgq, hXq⟩ := hrel;have HAL : Hid _ := hall;clear hall;by_cases hjl : j < k
          ·have hjl2 : j < l.length := by omega
           obtain ⟨b3, off3, a3, c3, hv3, p0, p1, p2, p3, p4, hz3⟩ := X4 (hs.grow hgq) j hjl2;cases hv3;have HA1 : Hid (l[j].pair ≠ e.pair → (l.take (j + 1)).all (fun x => decide (x.pair ≠ e.pair)) = true) := fun h => by
            rw [List.take_succ_eq_append_getElem hjl2, List.all_append, HAL.out]; simp [h]
           have HA2 : Hid (l[j].pair = e.pair → R = false) := fun h => by
            rw [HZ.out];have : (l.take k).all (fun x => decide (x.pair ≠ e.pair)) = false := by
             rw [List.all_eq_false];exact ⟨l[j], by rw [List.mem_take_iff_getElem]; exact ⟨j, by omega, rfl⟩, by simp [h]⟩
            rw [this]; rfl
           generalize l[j] = z at *;have g5 := Zh wr (.cells #[.int .i64 z.rc.kind, .int .i64 z.rc.key, .int .i64 z.rc.ver, .slice a3 z.rc.data.length c3, .int .i64 z.pair] 71);have hZ5 := Zu wr #[.int .i64 z.rc.kind, .int .i64 z.rc.key, .int .i64 z.rc.ver, .slice a3 z.rc.data.length c3, .int .i64 z.pair] 71;have hX5 := (g5.block _ (Zg hXq)).trans hXq;have gw5 := hgq.trans g5;have z4 := Zk hZ5 4 _ rfl;have x4 := Zk hX5 4 _ rfl;clear hz3 hgq hXq g5 hZ5;by_cases hpz : z.pair = e.pair
           ·have hRf : R = false := HA2.out hpz;subst hRf;have d5 : (z.pair == e.pair) = true := by simp [hpz]
            clear HA1 HA2 hpz;go_wp2_with fail;go_ret;exact ⟨rfl, gw5⟩
           ·have d5 : (z.pair == e.pair) = false := by simp [hpz]
            have HB : Hid _ := HA1.out hpz;clear HA1 HA2 hpz;go_wp2_with fail;go_roundw
            case rel => exact ⟨j + 1, by omega, by go_num, HB.out, gw5, hX5⟩
            case measure => simp [intOf]; omega
          ·have hjk : j = k := by omega
           have HK2 : Hid (R = Y4 (l.take (k + 1)) (l.drop (k + 1))) := by
            show R = _;have h := HAL.out;rw [hjk] at h;rw [HZ.out, h]; rfl
           clear hjk HZ;go_wp2_with fail;go_roundw
           case rel => exact ⟨k + 1, by omega, by go_num, HK2, hgq⟩
           case measure => simp [intOf]; omega
   ·have hRf : R = false := HX.out (by unfold okE; rw [← HW.out]; simp [hw]);subst hRf;have d0 : (W != 0) = true := by simp [hw]
    clear HX HE hw;go_wp2_with fail;clear q0 q1 q2 q3 q4 HSL;generalize World.alloc wr _ = W1 at *;generalize wr.heap.size = g at *;refine Zr [ex (.pointer (some ⟨g, 0, none⟩)), ex (.agg #[.int .i64 e.rc.kind, .int .i64 e.rc.key, .int .i64 e.rc.ver, .slice a1 e.rc.data.length c1]), ex (.int .i64 W), ex (.bool true), ex (.bool true), ex (undef), ex (undef), ex (undef), ex (undef), ex (.bool true), ex (.bool true), ex (undef), ex (undef), ex (undef), ex (.bool true), ex (.bool true), ex (undef), ex (undef), ex (undef), ex (.bool true), ex (.bool true), ex (undef), ex (undef), ex (undef), ex (undef), ex (undef), ex (undef), ex (undef), ex (undef), ex (undef), ex (undef), ex (undef), ex (undef), ex (.bool true)] (by kernel_rfl) (by kernel_rfl) ⟨Zc _, Zc _, Zc _, Zc _, Zc _, Zc _, Zc _, Zc _, Zc _, Zc _, Zc _, Zc _, Zc _, Zc _, Zc _, Zc _, Zc _, Zc _, Zc _, Zc _, Zc _, Zc _, Zc _, Zc _, Zc _, Zc _, Zc _, Zc _, Zc _, Zc _, Zc _, Zc _, Zc _, Zc _, trivial⟩ ?_ ?_
    ·refine ⟨?_, ?_, ?_, ?_, ?_, ?_, ?_, ?_, ?_, ?_, ?_, ?_, ?_, ?_, ?_, ?_, ?_, ?_, ?_, ?_, ?_, ?_, ?_, ?_, ?_, ?_, ?_, ?_, ?_, ?_, ?_, ?_, ?_, ?_, trivial⟩
     ·refine Za rfl fun a _ _ _ B A => ?_;have e4 : a (.tmp 4) = .pointer (some ⟨g, 0, none⟩) := Zj A 4 rfl;refine Ze ?_ rfl;clear A B;go_simp;all_goals go_arith
     ·refine Za rfl fun a _ _ _ B A => ?_;have e14 : a (.tmp 14) = _ := Zb A 0 rfl;have hX := (B.block _ (Zg hX1)).trans hX1;obtain ⟨y0, y1, y2, y3⟩ := Xm hX rfl rfl rfl rfl;refine Ze ?_ rfl;clear A B hX;go_simp;all_goals go_arith
     ·refine Za rfl fun a B _ _ C A => ?_;have e15 : a (.tmp 15) = _ := Zb A 1 rfl;refine Zx (f := 27) (args := #[.agg #[.int .i64 e.rc.kind, .int .i64 e.rc.key, .int .i64 e.rc.ver, .slice a1 e.rc.data.length c1]]) ?_ ((Xo _ _ _ e.rc.data _ B (Zw hu1.p C)).mono ?_)
      ·clear A C;go_simp;all_goals go_arith
      ·rintro e w2 ⟨rfl, g2⟩;exact ⟨_, rfl, g2, by rw [HW.out]; rfl⟩
     ·refine Za rfl fun a _ _ _ B A => ?_;have e16 : a (.tmp 16) = _ := Zb A 2 rfl;refine Ze ?_ rfl;clear A B;go_simp;all_goals go_arith
     ·exact Za rfl fun a _ _ _ _ A => Zf rfl (Zb A 3 rfl)
     ·refine Zi 4 false rfl rfl rfl (fun _ => rfl)
     ·refine Zi 4 false rfl rfl rfl (fun _ => rfl)
     ·refine Zi 4 false rfl rfl rfl (fun _ => rfl)
     ·refine Zi 4 false rfl rfl rfl (fun _ => rfl)
     ·refine Za rfl fun a _ B _ _ A => ?_;have ec : a (.tmp 18) = _ := Zb A 4 rfl;exact Zp rfl ec (B _)
     ·exact Za rfl fun a _ _ _ _ A => Zf rfl (Zb A 9 rfl)
     ·refine Zi 10 false rfl rfl rfl (fun _ => rfl)
     ·refine Zi 10 false rfl rfl rfl (fun _ => rfl)
     ·refine Zi 10 false rfl rfl rfl (fun _ => rfl)
     ·refine Za rfl fun a _ B _ _ A => ?_;have ec : a (.tmp 24) = _ := Zb A 10 rfl;exact Zp rfl ec (B _)
     ·exact Za rfl fun a _ _ _ _ A => Zf rfl (Zb A 14 rfl)
     ·refine Zi 15 false rfl rfl rfl (fun _ => rfl)
     ·refine Zi 15 false rfl rfl rfl (fun _ => rfl)
     ·refine Zi 15 false rfl rfl rfl (fun _ => rfl)
     ·refine Za rfl fun a _ B _ _ A => ?_;have ec : a (.tmp 29) = _ := Zb A 15 rfl;exact Zp rfl ec (B _)
     ·exact Za rfl fun a _ _ _ _ A => Zf rfl (Zb A 19 rfl)
     ·refine Zi 20 false rfl rfl rfl (fun _ => rfl)
     ·refine Zi 20 false rfl rfl rfl (fun _ => rfl)
     ·refine Zi 20 false rfl rfl rfl (fun _ => rfl)
     ·refine Zy 23 true rfl rfl rfl (fun _ => rfl)
     ·refine Zy 23 true rfl rfl rfl (fun _ => rfl)
     ·refine Zy 23 true rfl rfl rfl (fun _ => rfl)
     ·refine Zy 23 true rfl rfl rfl (fun _ => rfl)
     ·refine Zy 23 true rfl rfl rfl (fun _ => rfl)
     ·refine Zy 23 true rfl rfl rfl (fun _ => rfl)
     ·refine Zy 23 true rfl rfl rfl (fun _ => rfl)
     ·refine Zy 23 true rfl rfl rfl (fun _ => rfl)
     ·refine Zi 20 false rfl rfl rfl (fun _ => rfl)
     ·refine Za rfl fun a _ B _ _ A => ?_;have ec : a (.tmp 34) = _ := Zb A 20 rfl;exact Zp rfl ec (B _)
    ·intro vs w' hg ht;obtain ⟨(r14 : vs 0 = _), (r15 : vs 1 = _), (r16 : vs 2 = _), (r17 : vs 3 = _), (r18 : vs 4 = _), (r19 : vs 5 = _), (r20 : vs 6 = _), (r21 : vs 7 = _), (r22 : vs 8 = _), (r23 : vs 9 = _), (r24 : vs 10 = _), (r25 : vs 11 = _), (r26 : vs 12 = _), (r27 : vs 13 = _), (r28 : vs 14 = _), (r29 : vs 15 = _), (r30 : vs 16 = _), (r31 : vs 17 = _), (r32 : vs 18 = _), (r33 : vs 19 = _), (r34 : vs 20 = _), (r35 : vs 21 = _), (r36 : vs 22 = _), (r37 : vs 23 = _), (r38 : vs 24 = _), (r39 : vs 25 = _), (r40 : vs 26 = _), (r41 : vs 27 = _), (r42 : vs 28 = _), (r43 : vs 29 = _), (r44 : vs 30 = _), (r45 : vs 31 = _), (r46 : vs 32 = _), (r47 : vs 33 = _), -⟩ := ht;simp only [Z3, Act.put, List.setIfInBounds_toArray, List.set_cons_zero, List.set_cons_succ, r14, r15, r16, r17, r18, r19, r20, r21, r22, r23, r24, r25, r26, r27, r28, r29, r30, r31, r32, r33, r34, r35, r36, r37, r38, r39, r40, r41, r42, r43, r44, r45, r46, r47];clear r14 r15 r16 r17 r18 r19 r20 r21 r22 r23 r24 r25 r26 r27 r28 r29 r30 r31 r32 r33 r34 r35 r36 r37 r38 r39 r40 r41 r42 r43 r44 r45 r46 r47;have gr2 := hgr.trans (g1.trans hg);clear hg hX1 hu1;go_wp2_with fail;go_ret;exact ⟨rfl, gr2⟩
  ·have hRt : R = true := by
    rw [HK.out, show k = l.length from by omega, List.drop_length]; rfl
   subst hRt;clear HK;go_wp2_with fail;go_ret;exact ⟨rfl, hgr⟩
end Go.Proofs.Ytpdnapbchcdhlaa
