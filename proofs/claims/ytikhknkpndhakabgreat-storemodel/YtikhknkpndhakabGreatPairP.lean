import Derived.Test.YtikhknkpndhakabGreatPTell
set_option maxHeartbeats 8000000
namespace Go.Proofs.YtikhknkpndhakabGreat
set_option maxRecDepth 100000
open Go.RowKit
open Plain Reg
structure Zl3 (w0 : World) (vd : Array Value) (rc : Array Value) (w : World) : Prop where
 grow : Zo w0 w
 disk : w.heap[w0.heap.size]? = some (.cells vd 30 (0, 0))
 recd : w.heap[w0.heap.size + 1]? = some (.cells rc 51 (0, 0))
 zero : w.heap[w0.heap.size + 1 + 1]? = some (.cells #[.slice none 0 0, .slice none 0 0] 30 (0, 0))
 size : w0.heap.size + 1 + 1 + 1 < w.heap.size
theorem Zl3.on {w0 : World} {vd rc : Array Value} {w w' : World} (h : Zl3 w0 vd rc w) (hg : Zo w w') : Zl3 w0 vd rc w' :=
 ⟨h.grow.trans hg, (hg.block _ (Za h.disk)).trans h.disk, (hg.block _ (Za h.recd)).trans h.recd, (hg.block _ (Za h.zero)).trans h.zero, Nat.lt_of_lt_of_le h.size hg.size⟩
theorem Zl3.but {w0 : World} {vd rc : Array Value} {w w' : World} (h : Zl3 w0 vd rc w) (hg : Zp (w0.heap.size + 1 + 1 + 1) w w') : Zl3 w0 vd rc w' :=
 ⟨hg.grow h.grow (by omega), (hg.block _ (Za h.disk) (by omega)).trans h.disk, (hg.block _ (Za h.recd) (by omega)).trans h.recd, (hg.block _ (Za h.zero) (by omega)).trans h.zero, Nat.lt_of_lt_of_le h.size hg.size⟩
def Zwj (w0 : World) (S : Nat → Prop) (D : Dk) (vb vl : Value) (w : World) : Prop := w.heap[w0.heap.size + 1 + 1 + 1]? = some (.cells #[vb, vl] 30 (0, 0)) ∧ Xv (Zw S (w0.heap.size + 1 + 1 + 1 + 1)) D (.agg #[vb, vl]) w
theorem Zwj.on {w0 : World} {S : Nat → Prop} {D : Dk} {vb vl : Value} {w w' : World} (h : Zwj w0 S D vb vl w) (hg : Zo w w') : Zwj w0 S D vb vl w' := ⟨(hg.block _ (Za h.1)).trans h.1, h.2.grow hg⟩
def Zco (w0 : World) (vd rc : Array Value) (S : Nat → Prop) (D : Dk) (w : World) : Prop := Zl3 w0 vd rc w ∧ ∃ vb vl, Zwj w0 S D vb vl w
theorem Zco.on {w0 : World} {vd rc : Array Value} {S : Nat → Prop} {D : Dk} {w w' : World} (h : Zco w0 vd rc S D w) (hg : Zo w w') : Zco w0 vd rc S D w' := by
 obtain ⟨h1, vb, vl, h2⟩ := h;exact ⟨h1.on hg, vb, vl, h2.on hg⟩
def Zuq (B g : Nat) (d : Dk) (v : Value) (w : World) : Prop := ∃ vb vl, w.heap[g]? = some (.cells #[vb, vl] 30 (0, 0)) ∧ v = .agg #[vb, vl] ∧ Q6 B d v w
theorem Zr2 (B g : Nat) (d : Dk) (i : Nat) : Vy (pl1 i (fun _ v w => Zuq B g d v w)) := by
 rintro v ds w w' hg ⟨vb, vl, h2, h1, h3⟩;exact ⟨vb, vl, (hg.block _ (Za h2)).trans h2, h1, h3.grow hg⟩
def Zhs (B : Nat) (d : Dk) (v : Value) (w : World) : Prop := ∃ v', v = .tuple #[v', .int .i64 0] ∧ Q6 B d v' w
theorem Zol (B : Nat) (d : Dk) : Xr (Zhs B d) := by
 rintro v w w' hg ⟨v', h1, h2⟩; exact ⟨v', h1, h2.grow hg⟩
theorem Zor {B : Nat} {d : Dk} {v : Value} {w w' : World} (hs : Yv 30 w w') (h : Zhs B d v w) : Zhs B d v w' := by
 obtain ⟨v', h1, h2⟩ := h; exact ⟨v', h1, h2.box hs⟩
theorem Znb (S : Nat → Prop) (D : Dk) (a k y n : Int) (l : List UInt8) (u : Value) (vd : Array Value) (w0 w : World) (hu : Bytes w0 u l) (hw : Z9 ⟨k, y, n, l⟩ ≠ 0) (hV : Zco w0 vd #[.int .i64 k, .int .i64 y, .int .i64 n, u] S D w) :
  Calls Tryz.prog 71 #[.int .i64 a, .pointer (some ⟨w0.heap.size + 1, 0, none⟩), .pointer (some ⟨w0.heap.size + 1 + 1 + 1, 0, none⟩)] w fun e w' => e = .returned (.int .i64 (Z9 ⟨k, y, n, l⟩)) ∧ Zco w0 vd #[.int .i64 k, .int .i64 y, .int .i64 n, u] S D w' := by
 obtain ⟨au, cu, rfl, -, -⟩ := Ym hu;obtain ⟨E, hE⟩ : ∃ E, E = Z9 ⟨k, y, n, l⟩ := ⟨_, rfl⟩;rw [← hE] at hw ⊢;have HE : Hid _ := hE;clear hE;have hG := hV.1;have r0 := Zd hG.recd 0 _ rfl;have r1 := Zd hG.recd 1 _ rfl;have r2 := Zd hG.recd 2 _ rfl;have r3 := Zd hG.recd 3 _ rfl;have huw := Z1 hu hG.grow;go_enter Tryz.func71, Tryz.ntmps71;go_wp2_with fail;refine (Zb7 k y n l _ _ huw).mono ?_;have d0 : (E == 0) = false := V1 hw;rw [← HE.out];rintro e w1 ⟨rfl, g1⟩;have hV1 := hV.on g1;clear hV hG r0 r1 r2 r3 huw g1 hw;go_wp2_with fail;go_ret;exact ⟨rfl, hV1⟩
theorem Zoy (S : Nat → Prop) (D : Dk) (pa k y n : Int) (l : List UInt8) (u : Value) (vd : Array Value) (w0 w : World) (hu : Bytes w0 u l) (hw : Z9 ⟨k, y, n, l⟩ = 0) (hF : D.Fine 999) (h0 : 0 ≤ pa) (h1 : pa < 12) (hV : Zco w0 vd #[.int .i64 k, .int .i64 y, .int .i64 n, u] S D w) :
  Calls Tryz.prog 71 #[.int .i64 pa, .pointer (some ⟨w0.heap.size + 1, 0, none⟩), .pointer (some ⟨w0.heap.size + 1 + 1 + 1, 0, none⟩)] w fun e w' => e = .returned (.int .i64 0) ∧ Zco w0 vd #[.int .i64 k, .int .i64 y, .int .i64 n, u] S (D.put pa (blk ⟨k, y, n, l⟩ pa)) w' := by
 obtain ⟨au, cu, rfl, -, -⟩ := Ym hu;obtain ⟨hG, vb, vl, hD⟩ := hV;obtain ⟨ab, cb, al, cl, hv, hdb, hdl⟩ := hD.2.p.form;cases hv;clear hdb hdl;have r0 := Zd hG.recd 0 _ rfl;have r1 := Zd hG.recd 1 _ rfl;have r2 := Zd hG.recd 2 _ rfl;have r3 := Zd hG.recd 3 _ rfl;have huw := Z1 hu hG.grow;have HB : Hid ((blk ⟨k, y, n, l⟩ pa).length = 16) := Zjq _ _ hw;have HL : Hid (D.blocks.length = 12) := hF.len;have hl256 : D.blocks.length ≤ 256 := by have := hF.len; omega
 have hm : D.late.length ≤ 1000 := by have := hF.few; omega
 have hb16 := hF.b16;have hl16 := hF.l16;have HW : Hid (Z9 ⟨k, y, n, l⟩ = 0) := hw;clear hF hw;go_enter Tryz.func71, Tryz.ntmps71;go_wp2_with fail;refine (Zb7 k y n l _ _ huw).mono ?_;rw [HW.out];rintro e w1 ⟨rfl, g1⟩;have hG1 := hG.on g1;have hD1 := hD.on g1;have hu1 := Z1 huw g1;clear hG hD huw g1 r0 r1 r2 r3;go_wp2_with fail
 refine Y4 [px (.agg #[.slice ab D.blocks.length cb, .slice al D.late.length cl]), px (.int .i64 pa), px (.agg #[.int .i64 k, .int .i64 y, .int .i64 n, .slice au l.length cu]), px (.int .i64 pa), pl ((fun v w' => w'.ownsRow 0 5 1 v 16 ((blk ⟨k, y, n, l⟩ pa).map bv))), pl (Zhs (w0.heap.size + 1 + 1 + 1 + 1) (D.put pa (blk ⟨k, y, n, l⟩ pa))), pl (Zhs (w0.heap.size + 1 + 1 + 1 + 1) (D.put pa (blk ⟨k, y, n, l⟩ pa))), pl (Q6 (w0.heap.size + 1 + 1 + 1 + 1) (D.put pa (blk ⟨k, y, n, l⟩ pa))), px (.int .i64 0), pl1 7 ((fun _ v w' => Zuq (w0.heap.size + 1 + 1 + 1 + 1) (w0.heap.size + 1 + 1 + 1) (D.put pa (blk ⟨k, y, n, l⟩ pa)) v w')), px (.int .i64 0)] [none, none, none, none, none, none, none, none, none, some ((Yv 30))] (fun dn w' => Zl3 w0 vd #[.int .i64 k, .int .i64 y, .int .i64 n, .slice au l.length cu] w' ∧ (dn 9 = false → Zo w1 w')) (by kernel_rfl) (by kernel_rfl) ⟨se, se, se, se, Yl ((fun _ _ _ hg h => Yd h hg)), Yl (Zol _ _), Yl (Zol _ _), Yl (Zr5 _ _), se, Zr2 _ _ _ _, se, trivial⟩ ⟨⟨(fun w => .inl rfl), ⟨x5, x5, x5, x5, .inr ((fun v _ w1 w' hs hq => Qi (by decide) hs hq)), .inr ((fun v _ w1 w' hs hq => Zor hs hq)), .inr ((fun v _ w1 w' hs hq => Zor hs hq)), .inr ((fun v _ w1 w' hs hq => Q6.box hq hs)), x5, .inl (by kernel_rfl), .inl (by kernel_rfl), trivial⟩⟩, trivial⟩ ⟨n5, n5, n5, n5, n5, n5, n5, n5, n5, fun _ _ _ _ h => h, n5, trivial⟩ ⟨hG1.on (Zo.refl _).drew, fun _ => (Zo.refl _).drew⟩ ?_ ?_
 ·refine ⟨?_, ?_, ?_, ?_, ?_, ?_, ?_, ?_, ?_, ?_, ?_, trivial⟩
  ·refine Zf rfl fun a w' ek ef dn hr hg hin => ?_;have e2 : a (.tmp 2) = .pointer (some ⟨w0.heap.size + 1 + 1 + 1, 0, none⟩) := Zl hin 2 rfl;have hx := (hD1.on (hg.2 (hr.not1 9 (by kernel_rfl)))).1;obtain ⟨z0, z1⟩ := X3 hx rfl rfl;refine Zj ?_ hg rfl;clear hin hg hr hx;go_simp;all_goals go_arith
  ·refine Zf rfl fun a w' ek ef dn hr hg hin => ?_;have e : a (.tmp 0) = .int .i64 pa := Zl hin 0 rfl;exact Z3 rfl hg e
  ·refine Zf rfl fun a w' ek ef dn hr hg hin => ?_;have e1 : a (.tmp 1) = .pointer (some ⟨w0.heap.size + 1, 0, none⟩) := Zl hin 1 rfl;have z0 := Zd hg.1.recd 0 _ rfl;have z1 := Zd hg.1.recd 1 _ rfl;have z2 := Zd hg.1.recd 2 _ rfl;have z3 := Zd hg.1.recd 3 _ rfl;refine Zj ?_ hg rfl;clear hin hg hr;go_simp;all_goals go_arith
  ·refine Zf rfl fun a w' ek ef dn hr hg hin => ?_;have e : a (.tmp 0) = .int .i64 pa := Zl hin 0 rfl;exact Z3 rfl hg e
  ·refine Zf rfl fun a w' ek ef dn hr hg hin => ?_;have e13 : a (.tmp 13) = _ := Ze hin 2 rfl;have e14 : a (.tmp 14) = _ := Ze hin 3 rfl;have n9 := hr.not1 9 (by kernel_rfl);refine Yh (f := 57) (args := #[.agg #[.int .i64 k, .int .i64 y, .int .i64 n, .slice au l.length cu], .int .i64 pa]) ?_ ((Zir k y n pa l _ w' (Z1 hu1 (hg.2 n9)) HW.out h0 (by omega)).mono ?_)
   ·clear hin hg hr;go_simp;all_goals go_arith
   ·rintro e w2 ⟨v', rfl, ho, g2⟩;exact ⟨_, rfl, g2, ⟨hg.1.on g2, fun _ => (hg.2 n9).trans g2⟩, Yi ho (Nat.zero_le _)⟩
  ·refine Zf rfl fun a w' ek ef dn hr hg hin => ?_;have e11 : a (.tmp 11) = _ := Ze hin 0 rfl;have e12 : a (.tmp 12) = _ := Ze hin 1 rfl;have e15 : ((fun v w' => w'.ownsRow 0 5 1 v 16 ((blk ⟨k, y, n, l⟩ pa).map bv))) (a (.tmp 15)) w' := Ze hin 4 rfl;have n9 := hr.not1 9 (by kernel_rfl);have hB15 : Bytes w' (a (.tmp 15)) (blk ⟨k, y, n, l⟩ pa) := Q2 e15;obtain ⟨vb2, vl2, hv2, hdb, hdl⟩ := (hD1.on (hg.2 n9)).2.p;cases hv2;refine Yh (f := 73) (args := #[.agg #[.slice ab D.blocks.length cb, .slice al D.late.length cl], .int .i64 pa, a (.tmp 15)]) ?_ ((Zvo D pa (blk ⟨k, y, n, l⟩ pa) _ _ _ w' hdb hdl hB15 hl256 hm hb16 hl16 h0 (by rw [HL.out]; exact h1) HB.out).mono ?_)
   ·clear hin hg hr hdb hdl hB15 e15;go_simp;all_goals go_arith
   ·rintro e w2 ⟨v', rfl, hq, g2⟩;exact ⟨_, rfl, g2, ⟨hg.1.on g2, fun _ => (hg.2 n9).trans g2⟩, v', rfl, hq.mono hg.1.size⟩
  ·refine Zf rfl fun a w' ek ef dn hr hg hin => ?_;have e : (Zhs (w0.heap.size + 1 + 1 + 1 + 1) (D.put pa (blk ⟨k, y, n, l⟩ pa))) (a (.tmp 16)) w' := Ze hin 5 rfl;exact Z3 rfl hg e
  ·refine Zf rfl fun a w' ek ef dn hr hg hin => ?_;have e10 : (Zhs (w0.heap.size + 1 + 1 + 1 + 1) (D.put pa (blk ⟨k, y, n, l⟩ pa))) (a (.tmp 10)) w' := Ze hin 6 rfl;obtain ⟨v', h10, hq⟩ := e10;refine Zj (v := v') ?_ hg hq;clear hin hg hr hq;go_simp;all_goals go_arith
  ·refine Zf rfl fun a w' ek ef dn hr hg hin => ?_;have e10 : (Zhs (w0.heap.size + 1 + 1 + 1 + 1) (D.put pa (blk ⟨k, y, n, l⟩ pa))) (a (.tmp 10)) w' := Ze hin 6 rfl;obtain ⟨v', h10, hq⟩ := e10;refine Zj ?_ hg rfl;clear hin hg hr hq;go_simp;all_goals go_arith
  ·refine Zf rfl fun a w' ek ef dn hr hg hin => ?_;have e2 : a (.tmp 2) = .pointer (some ⟨w0.heap.size + 1 + 1 + 1, 0, none⟩) := Zl hin 2 rfl;have e17 : (Q6 (w0.heap.size + 1 + 1 + 1 + 1) (D.put pa (blk ⟨k, y, n, l⟩ pa))) (a (.tmp 17)) w' := Ze hin 7 rfl;have hq := e17;obtain ⟨vb9, vl9, h9, ho, hlt⟩ := e17;obtain ⟨a5, c5, rfl⟩ := ho.form;obtain ⟨a8, c8, rfl⟩ := hlt.form;have hh := (hD1.on (hg.2 hr.un)).1;obtain ⟨hp1, hp2⟩ := Qf hh (.slice a5 (D.put pa (blk ⟨k, y, n, l⟩ pa)).blocks.length c5) (.slice a8 (D.put pa (blk ⟨k, y, n, l⟩ pa)).late.length c8);have hstep : Yv 30 w' _ := .inr ⟨_, _, _, hp2, hh, hp1, rfl⟩;obtain ⟨y0, y1⟩ := X3 hh rfl rfl;have f0 := Zn hh 0;have f1 := Zn hh 1;have cs := Zx;refine Yk (w' := _) ?_ hstep ⟨hg.1.but hp2, fun h => by simp [upd] at h⟩ ⟨_, _, hp1, h9, hq.box hstep⟩;clear hin hg hr hp1 hp2 hlt hh ho hstep hq;go_simp;all_goals go_arith
  ·refine Zf rfl fun a w' ek ef dn hr hg hin => ?_;have e : a (.tmp 18) = _ := Ze hin 8 rfl;exact Xb rfl hg e
 ·intro vs w' dn hdn hg ht;obtain ⟨q11, q12, q13, q14, q15, q16, q10, q17, q18, qo9, q5, -⟩ := ht;have r11 : vs 0 = .agg #[.slice ab D.blocks.length cb, .slice al D.late.length cl] := q11;have r12 : vs 1 = .int .i64 pa := q12;have r13 : vs 2 = .agg #[.int .i64 k, .int .i64 y, .int .i64 n, .slice au l.length cu] := q13;have r14 : vs 3 = .int .i64 pa := q14;replace q15 : ((fun v w' => w'.ownsRow 0 5 1 v 16 ((blk ⟨k, y, n, l⟩ pa).map bv))) (vs 4) w' := q15;replace q16 : (Zhs (w0.heap.size + 1 + 1 + 1 + 1) (D.put pa (blk ⟨k, y, n, l⟩ pa))) (vs 5) w' := q16;replace q10 : (Zhs (w0.heap.size + 1 + 1 + 1 + 1) (D.put pa (blk ⟨k, y, n, l⟩ pa))) (vs 6) w' := q10;replace q17 : (Q6 (w0.heap.size + 1 + 1 + 1 + 1) (D.put pa (blk ⟨k, y, n, l⟩ pa))) (vs 7) w' := q17;have r18 : vs 8 = .int .i64 0 := q18;replace qo9 : ((fun _ v w' => Zuq (w0.heap.size + 1 + 1 + 1 + 1) (w0.heap.size + 1 + 1 + 1) (D.put pa (blk ⟨k, y, n, l⟩ pa)) v w')) (vs 9) (vs 7) w' := qo9;have r5 : vs 10 = .int .i64 0 := q5;clear q11 q12 q13 q14 q18 q5;simp only [Yc, Act.put, List.setIfInBounds_toArray, List.set_cons_zero, List.set_cons_succ, Nat.reduceAdd, r11, r12, r13, r14, r18, r5];clear r11 r12 r13 r14 r18 r5;obtain ⟨vb9, vl9, hh, h9, hQ⟩ := qo9;have hE : Zco w0 vd #[.int .i64 k, .int .i64 y, .int .i64 n, .slice au l.length cu] S (D.put pa (blk ⟨k, y, n, l⟩ pa)) w' := ⟨hg.1, vb9, vl9, hh, by rw [← h9]; exact hQ.s S⟩;clear q15 q16 q17 hdn hg hh hQ h9 hG1 hD1 hu1;go_wp2_with fail;go_ret;exact ⟨rfl, hE⟩
theorem Zet (args : Array Value) (w : World) : (callFunc 71 args).run Tryz.prog w = .ok (.enter 71 args) w := by
 simp [callFunc, Tryz.func71, Tryz.f71, mark]
theorem Zks (S : Nat → Prop) (d : Dk) (p k y n : Int) (l : List UInt8) (u : Value) (vd : Array Value) (w0 w : World) (hF : d.Fine 900) (hu : Bytes w0 u l) (hV : Zco w0 vd #[.int .i64 k, .int .i64 y, .int .i64 n, u] S d w) :
  Calls Tryz.prog 70 #[.int .i64 p, .func (.func 71) #[] #[.pointer (some ⟨w0.heap.size + 1, 0, none⟩), .pointer (some ⟨w0.heap.size + 1 + 1 + 1, 0, none⟩)]] w fun e w' => e = .returned (.int .i64 (d.pairE p ⟨k, y, n, l⟩)) ∧ Zco w0 vd #[.int .i64 k, .int .i64 y, .int .i64 n, u] S (d.pairD p ⟨k, y, n, l⟩) w' := by
 have h12 := hF.len;by_cases hout : p < 0 ∨ 6 ≤ p
 ·have he : d.pairE p ⟨k, y, n, l⟩ = 3 := by unfold Dk.pairE; rw [if_pos (by omega)]
  have hd : d.pairD p ⟨k, y, n, l⟩ = d := by unfold Dk.pairD; rw [he, if_neg (by omega)]
  rw [he, hd];refine (Zlt _ _ p w hout).mono ?_;rintro e w' ⟨rfl, rfl⟩;exact ⟨rfl, hV⟩
 ·have he : d.pairE p ⟨k, y, n, l⟩ = Z9 ⟨k, y, n, l⟩ := by unfold Dk.pairE; rw [if_neg (by omega)]
  by_cases hw : Z9 ⟨k, y, n, l⟩ = 0
  ·have hd : d.pairD p ⟨k, y, n, l⟩ = d.pairW p ⟨k, y, n, l⟩ := by unfold Dk.pairD; rw [he, if_pos hw]
   rw [hd, he, hw];have e0 : p * 2 + ((0 : Nat) : Int) = 2 * p := by omega
   have e1 : p * 2 + ((1 : Nat) : Int) = 2 * p + 1 := by omega
   refine (Zgx _ _ p w (by omega) (by omega) Zet (fun i w' => Zco w0 vd #[.int .i64 k, .int .i64 y, .int .i64 n, u] S (match i with | 0 => d | 1 => d.put (2 * p) (blk ⟨k, y, n, l⟩ (2 * p)) | _ => d.pairW p ⟨k, y, n, l⟩) w') (fun _ _ => False) hV ?_).mono ?_
   ·intro i w' hi hI
    match i, hi, hI with
    | 0, _, hI =>
     rw [e0];refine (Zoy S d (2 * p) k y n l u vd w0 w' hu hw (hF.mono (by omega)) (by omega) (by omega) hI).mono ?_;rintro e w2 ⟨rfl, hV2⟩;exact ⟨0, rfl, fun _ => hV2, fun h => absurd rfl h⟩
    | 1, _, hI =>
     rw [e1];have hF1 : (d.put (2 * p) (blk ⟨k, y, n, l⟩ (2 * p))).Fine 999 := by
      refine ⟨hF.len, by show (d.late ++ [_]).length ≤ _; have := hF.few; simp; omega, hF.block, fun x hx => ?_, fun x hx => ?_⟩
      ·rcases List.mem_append.1 (show x ∈ d.late ++ [_] from hx) with h1 | h1
       ·exact hF.late x h1
       ·rw [List.mem_singleton.1 h1]; exact Zjq _ _ hw
      ·rcases List.mem_append.1 (show x ∈ d.late ++ [_] from hx) with h1 | h1
       ·exact hF.place x h1
       ·rw [List.mem_singleton.1 h1]; show 0 ≤ 2 * p ∧ 2 * p < 12; omega
     refine (Zoy S _ (2 * p + 1) k y n l u vd w0 w' hu hw hF1 (by omega) (by omega) hI).mono ?_;rintro e w2 ⟨rfl, hV2⟩;have e2 : (d.put (2 * p) (blk ⟨k, y, n, l⟩ (2 * p))).put (2 * p + 1) (blk ⟨k, y, n, l⟩ (2 * p + 1)) = d.pairW p ⟨k, y, n, l⟩ := by simp [Dk.pairW, Dk.put]
     rw [e2] at hV2;exact ⟨0, rfl, fun _ => hV2, fun h => absurd rfl h⟩
   ·rintro e w' ⟨E, rfl, hE0, hE1⟩;by_cases hE : E = 0
    ·exact ⟨by rw [hE], hE0 hE⟩
    ·exact (hE1 hE).elim
  ·have hd : d.pairD p ⟨k, y, n, l⟩ = d := by unfold Dk.pairD; rw [he, if_neg hw]
   rw [hd, he];refine (Zgx _ _ p w (by omega) (by omega) Zet (fun i w' => i = 0 ∧ Zco w0 vd #[.int .i64 k, .int .i64 y, .int .i64 n, u] S d w') (fun E w' => E = Z9 ⟨k, y, n, l⟩ ∧ Zco w0 vd #[.int .i64 k, .int .i64 y, .int .i64 n, u] S d w') ⟨rfl, hV⟩ ?_).mono ?_
   ·rintro i w' hi ⟨-, hI⟩;refine (Znb S d _ k y n l u vd w0 w' hu hw hI).mono ?_;rintro e w2 ⟨rfl, hV2⟩;exact ⟨_, rfl, fun h => absurd h hw, fun _ => ⟨rfl, hV2⟩⟩
   ·rintro e w' ⟨E, rfl, hE0, hE1⟩;by_cases hE : E = 0
    ·exact absurd (hE0 hE).1 (by omega)
    ·exact ⟨by rw [(hE1 hE).1], (hE1 hE).2⟩
theorem Zco.start (S : Nat → Prop) (w : World) (d : Dk) (vb vl : Value) (rc : Array Value) (hd : Xv S d (.agg #[vb, vl]) w) : Zco w #[vb, vl] rc S d ((((w.alloc (.cells #[vb, vl] 30)).alloc (.cells rc 51)).alloc (.cells #[.slice none 0 0, .slice none 0 0] 30)).alloc (.cells #[vb, vl] 30)) := by
 have g1 := Zb w (.cells #[vb, vl] 30);have k1 := Zk w #[vb, vl] 30;have s1 := World.size_alloc w (.cells #[vb, vl] 30);generalize World.alloc w _ = w1 at *;have g2 := Zb w1 (.cells rc 51);have k2 := Zk w1 rc 51;have s2 := World.size_alloc w1 (.cells rc 51);generalize World.alloc w1 _ = w2 at *;have g3 := Zb w2 (.cells #[.slice none 0 0, .slice none 0 0] 30);have k3 := Zk w2 #[.slice none 0 0, .slice none 0 0] 30;have s3 := World.size_alloc w2 (.cells #[.slice none 0 0, .slice none 0 0] 30);generalize World.alloc w2 _ = w3 at *;have g4 := Zb w3 (.cells #[vb, vl] 30);have k4 := Zk w3 #[vb, vl] 30;generalize World.alloc w3 _ = w4 at *;rw [s3, s2, s1] at k4;rw [s2, s1] at k3;rw [s1] at k2;have gA := ((g1.trans g2).trans g3).trans g4;exact ⟨⟨gA, (((g2.trans g3).trans g4).block _ (Za k1)).trans k1, ((g3.trans g4).block _ (Za k2)).trans k2, (g4.block _ (Za k3)).trans k3, Za k4⟩, vb, vl, k4, (hd.grow gA).mono Vz⟩
theorem Zyl : Zyo := by
 intro S d p k y n l v u w hS hF hd hu;obtain ⟨ab, cb, al, cl, rfl, -, -⟩ := hd.form;obtain ⟨au, cu, rfl, -, -⟩ := Ym hu;have hst := Zco.start S w d _ _ #[.int .i64 k, .int .i64 y, .int .i64 n, .slice au l.length cu] hd;obtain ⟨E, hE⟩ : ∃ E, E = d.pairE p ⟨k, y, n, l⟩ := ⟨_, rfl⟩;obtain ⟨D, hD⟩ : ∃ D, D = d.pairD p ⟨k, y, n, l⟩ := ⟨_, rfl⟩;have hED : E ≠ 0 → D = d := by
  intro h; rw [hD]; unfold Dk.pairD; rw [if_neg (by rw [← hE]; exact h)]
 rw [← hE, ← hD];have HE : Hid _ := hE;have HD : Hid _ := hD;clear hE hD;have hb16 := hF.b16;have hl16 := hF.l16;have hl256 : d.blocks.length ≤ 256 := by have := hF.len; omega
 have hm : d.late.length ≤ 1000 := by have := hF.few; omega
 by_cases h0 : E = 0
 ·subst h0;clear hED;go_enter Tryz.func38, Tryz.ntmps38;go_wp2_with fail;refine (Zks S d p k y n l _ _ w _ hF hu hst).mono ?_;rw [← HE.out, ← HD.out];rintro e w1 ⟨rfl, hG, vb, vl, hP⟩;obtain ⟨a5, c5, a8, c8, hv, -, -⟩ := hP.2.form;cases hv;have x0 := Zd hP.1 0 _ rfl;have x1 := Zd hP.1 1 _ rfl;have y0 := Zd hG.zero 0 _ rfl;have y1 := Zd hG.zero 1 _ rfl;have f0 := Zn hG.zero 0;have f1 := Zn hG.zero 1;have cs := Zx;obtain ⟨-, hp2⟩ := Qf hG.zero (.slice a5 D.blocks.length c5) (.slice a8 D.late.length c8);have gE := hp2.grow hG.grow (by omega);have hdE := (hP.2.but hp2 (fun h => h.elim (fun h => by have := hS _ h; omega) (fun h => by omega))).mono (Z6 (B := w.heap.size) (by omega));clear hst hd hG hP hp2;go_wp2_with fail;exact bodyPost_ret (v := .tuple #[.agg #[.slice a5 D.blocks.length c5, .slice a8 D.late.length c8], .int .i64 0]) (by simp [results, Tryz.results38, go_sem, y0, y1, cs]) rfl ⟨_, rfl, hdE, gE⟩
 ·have d0 : (E != 0) = true := by simp [h0]
  obtain rfl := hED h0;clear hED h0;go_enter Tryz.func38, Tryz.ntmps38;go_wp2_with fail;refine (Zks S D p k y n l _ _ w _ hF hu hst).mono ?_;rw [← HE.out, ← HD.out];rintro e w1 ⟨rfl, hG, -, -, -⟩;have x0 := Zd hG.disk 0 _ rfl;have x1 := Zd hG.disk 1 _ rfl;have hd1 := hd.grow hG.grow;obtain ⟨vb2, vl2, hv2, hdb, hdl⟩ := hd1.p;cases hv2;clear hst hd hd1;go_wp2_with fail;clear x0 x1;refine (Zen D _ _ _ hdb hdl hl256 hm hb16 hl16).mono ?_;rintro e w2 ⟨v2, rfl, hA, g2⟩;have hQ := hA.q;obtain ⟨vb3, vl3, rfl, ho, hlt⟩ := hA.q;obtain ⟨a5, c5, rfl⟩ := ho.form;obtain ⟨a8, c8, rfl⟩ := hlt.form;have hG2 := hG.on g2;have hsz := hG.size;have y0 := Zd hG2.zero 0 _ rfl;have y1 := Zd hG2.zero 1 _ rfl;have f0 := Zn hG2.zero 0;have f1 := Zn hG2.zero 1;have cs := Zx;obtain ⟨-, hp2⟩ := Qf hG2.zero (.slice a5 D.blocks.length c5) (.slice a8 D.late.length c8);have gE := hp2.grow hG2.grow (by omega);have hdE := ((hQ.s S).but hp2 (fun h => h.elim (fun h => by have := hS _ h; omega) (fun h => by omega))).mono (Z6 (B := w.heap.size) (by omega));clear hG hG2 hp2 hQ hA ho hlt hsz hdb hdl g2;go_wp2_with fail;exact bodyPost_ret (v := .tuple #[.agg #[.slice a5 D.blocks.length c5, .slice a8 D.late.length c8], .int .i64 E]) (by simp [results, Tryz.results38, go_sem, y0, y1, cs]) rfl ⟨_, rfl, hdE, gE⟩
end Go.Proofs.YtikhknkpndhakabGreat
