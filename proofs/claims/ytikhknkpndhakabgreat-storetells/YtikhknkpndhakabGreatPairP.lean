import Derived.Test.YtikhknkpndhakabGreatPTell
set_option maxHeartbeats 8000000
namespace Go.Proofs.YtikhknkpndhakabGreat
set_option maxRecDepth 100000
open Go.RowKit
open Plain Reg
structure Zkq (w0 : World) (vd : Array Value) (rc : Array Value) (w : World) : Prop where
 grow : Zp w0 w
 disk : w.heap[w0.heap.size]? = some (.cells vd 30 (0, 0))
 recd : w.heap[w0.heap.size + 1]? = some (.cells rc 51 (0, 0))
 zero : w.heap[w0.heap.size + 1 + 1]? = some (.cells #[.slice none 0 0, .slice none 0 0] 30 (0, 0))
 size : w0.heap.size + 1 + 1 + 1 < w.heap.size
theorem Zkq.on {w0 : World} {vd rc : Array Value} {w w' : World} (h : Zkq w0 vd rc w) (hg : Zp w w') : Zkq w0 vd rc w' :=
 ⟨h.grow.trans hg, (hg.block _ (Zb h.disk)).trans h.disk, (hg.block _ (Zb h.recd)).trans h.recd, (hg.block _ (Zb h.zero)).trans h.zero, Nat.lt_of_lt_of_le h.size hg.size⟩
theorem Zkq.but {w0 : World} {vd rc : Array Value} {w w' : World} (h : Zkq w0 vd rc w) (hg : Zu (w0.heap.size + 1 + 1 + 1) w w') : Zkq w0 vd rc w' :=
 ⟨hg.grow h.grow (by omega), (hg.block _ (Zb h.disk) (by omega)).trans h.disk, (hg.block _ (Zb h.recd) (by omega)).trans h.recd, (hg.block _ (Zb h.zero) (by omega)).trans h.zero, Nat.lt_of_lt_of_le h.size hg.size⟩
def Zui (w0 : World) (S : Nat → Prop) (D : Dk) (vb vl : Value) (w : World) : Prop := w.heap[w0.heap.size + 1 + 1 + 1]? = some (.cells #[vb, vl] 30 (0, 0)) ∧ Xm (Zx S (w0.heap.size + 1 + 1 + 1 + 1)) D (.agg #[vb, vl]) w
theorem Zui.on {w0 : World} {S : Nat → Prop} {D : Dk} {vb vl : Value} {w w' : World} (h : Zui w0 S D vb vl w) (hg : Zp w w') : Zui w0 S D vb vl w' := ⟨(hg.block _ (Zb h.1)).trans h.1, h.2.grow hg⟩
def Zby (w0 : World) (vd rc : Array Value) (S : Nat → Prop) (D : Dk) (w : World) : Prop := Zkq w0 vd rc w ∧ ∃ vb vl, Zui w0 S D vb vl w
theorem Zby.on {w0 : World} {vd rc : Array Value} {S : Nat → Prop} {D : Dk} {w w' : World} (h : Zby w0 vd rc S D w) (hg : Zp w w') : Zby w0 vd rc S D w' := by
 obtain ⟨h1, vb, vl, h2⟩ := h;exact ⟨h1.on hg, vb, vl, h2.on hg⟩
def Zsz (B g : Nat) (d : Dk) (v : Value) (w : World) : Prop := ∃ vb vl, w.heap[g]? = some (.cells #[vb, vl] 30 (0, 0)) ∧ v = .agg #[vb, vl] ∧ Q1 B d v w
theorem Zqm (B g : Nat) (d : Dk) (i : Nat) : Vu (pl1 i (fun _ v w => Zsz B g d v w)) := by
 rintro v ds w w' hg ⟨vb, vl, h2, h1, h3⟩;exact ⟨vb, vl, (hg.block _ (Zb h2)).trans h2, h1, h3.grow hg⟩
def Zgq (B : Nat) (d : Dk) (v : Value) (w : World) : Prop := ∃ v', v = .tuple #[v', .int .i64 0] ∧ Q1 B d v' w
theorem Zna (B : Nat) (d : Dk) : Xl (Zgq B d) := by
 rintro v w w' hg ⟨v', h1, h2⟩; exact ⟨v', h1, h2.grow hg⟩
theorem Zng {B : Nat} {d : Dk} {v : Value} {w w' : World} (hs : Yw 30 w w') (h : Zgq B d v w) : Zgq B d v w' := by
 obtain ⟨v', h1, h2⟩ := h; exact ⟨v', h1, h2.box hs⟩
theorem Zl0 (S : Nat → Prop) (D : Dk) (a k y n : Int) (l : List UInt8) (u : Value) (vd : Array Value) (w0 w : World) (hu : Bytes w0 u l) (hw : Yh ⟨k, y, n, l⟩ ≠ 0) (hV : Zby w0 vd #[.int .i64 k, .int .i64 y, .int .i64 n, u] S D w) :
  Calls Tryz.prog 71 #[.int .i64 a, .pointer (some ⟨w0.heap.size + 1, 0, none⟩), .pointer (some ⟨w0.heap.size + 1 + 1 + 1, 0, none⟩)] w fun e w' => e = .returned (.int .i64 (Yh ⟨k, y, n, l⟩)) ∧ Zby w0 vd #[.int .i64 k, .int .i64 y, .int .i64 n, u] S D w' := by
 obtain ⟨au, cu, rfl, -, -⟩ := Yg hu;obtain ⟨E, hE⟩ : ∃ E, E = Yh ⟨k, y, n, l⟩ := ⟨_, rfl⟩;rw [← hE] at hw ⊢;have HE : Hid _ := hE;clear hE;have hG := hV.1;have r0 := Ze hG.recd 0 _ rfl;have r1 := Ze hG.recd 1 _ rfl;have r2 := Ze hG.recd 2 _ rfl;have r3 := Ze hG.recd 3 _ rfl;have huw := Z2 hu hG.grow;go_enter Tryz.func71, Tryz.ntmps71;go_wp2_with fail;refine (Zbm k y n l _ _ huw).mono ?_;have d0 : (E == 0) = false := Qm hw;rw [← HE.out];rintro e w1 ⟨rfl, g1⟩;have hV1 := hV.on g1;clear hV hG r0 r1 r2 r3 huw g1 hw;go_wp2_with fail;go_ret;exact ⟨rfl, hV1⟩
theorem Znl (S : Nat → Prop) (D : Dk) (pa k y n : Int) (l : List UInt8) (u : Value) (vd : Array Value) (w0 w : World) (hu : Bytes w0 u l) (hw : Yh ⟨k, y, n, l⟩ = 0) (hF : D.Fine 999) (h0 : 0 ≤ pa) (h1 : pa < 12) (hV : Zby w0 vd #[.int .i64 k, .int .i64 y, .int .i64 n, u] S D w) :
  Calls Tryz.prog 71 #[.int .i64 pa, .pointer (some ⟨w0.heap.size + 1, 0, none⟩), .pointer (some ⟨w0.heap.size + 1 + 1 + 1, 0, none⟩)] w fun e w' => e = .returned (.int .i64 0) ∧ Zby w0 vd #[.int .i64 k, .int .i64 y, .int .i64 n, u] S (D.put pa (blk ⟨k, y, n, l⟩ pa)) w' := by
 obtain ⟨au, cu, rfl, -, -⟩ := Yg hu;obtain ⟨hG, vb, vl, hD⟩ := hV;obtain ⟨ab, cb, al, cl, hv, hdb, hdl⟩ := hD.2.p.form;cases hv;clear hdb hdl;have r0 := Ze hG.recd 0 _ rfl;have r1 := Ze hG.recd 1 _ rfl;have r2 := Ze hG.recd 2 _ rfl;have r3 := Ze hG.recd 3 _ rfl;have huw := Z2 hu hG.grow;have HB : Hid ((blk ⟨k, y, n, l⟩ pa).length = 16) := Zsh _ _ hw;have HL : Hid (D.blocks.length = 12) := hF.len;have hl256 : D.blocks.length ≤ 256 := by have := hF.len; omega
 have hm : D.late.length ≤ 1000 := by have := hF.few; omega
 have hb16 := hF.b16;have hl16 := hF.l16;have HW : Hid (Yh ⟨k, y, n, l⟩ = 0) := hw;clear hF hw;go_enter Tryz.func71, Tryz.ntmps71;go_wp2_with fail;refine (Zbm k y n l _ _ huw).mono ?_;rw [HW.out];rintro e w1 ⟨rfl, g1⟩;have hG1 := hG.on g1;have hD1 := hD.on g1;have hu1 := Z2 huw g1;clear hG hD huw g1 r0 r1 r2 r3;go_wp2_with fail
 refine Y3 [px (.agg #[.slice ab D.blocks.length cb, .slice al D.late.length cl]), px (.int .i64 pa), px (.agg #[.int .i64 k, .int .i64 y, .int .i64 n, .slice au l.length cu]), px (.int .i64 pa), pl ((fun v w' => w'.ownsRow 0 5 1 v 16 ((blk ⟨k, y, n, l⟩ pa).map bv))), pl (Zgq (w0.heap.size + 1 + 1 + 1 + 1) (D.put pa (blk ⟨k, y, n, l⟩ pa))), pl (Zgq (w0.heap.size + 1 + 1 + 1 + 1) (D.put pa (blk ⟨k, y, n, l⟩ pa))), pl (Q1 (w0.heap.size + 1 + 1 + 1 + 1) (D.put pa (blk ⟨k, y, n, l⟩ pa))), px (.int .i64 0), pl1 7 ((fun _ v w' => Zsz (w0.heap.size + 1 + 1 + 1 + 1) (w0.heap.size + 1 + 1 + 1) (D.put pa (blk ⟨k, y, n, l⟩ pa)) v w')), px (.int .i64 0)] [none, none, none, none, none, none, none, none, none, some ((Yw 30))] (fun dn w' => Zkq w0 vd #[.int .i64 k, .int .i64 y, .int .i64 n, .slice au l.length cu] w' ∧ (dn 9 = false → Zp w1 w')) (by kernel_rfl) (by kernel_rfl) ⟨se, se, se, se, Yk ((fun _ _ _ hg h => Z5 h hg)), Yk (Zna _ _), Yk (Zna _ _), Yk (Zqp _ _), se, Zqm _ _ _ _, se, trivial⟩ ⟨⟨(fun w => .inl rfl), ⟨x5, x5, x5, x5, .inr ((fun v _ w1 w' hs hq => Qd (by decide) hs hq)), .inr ((fun v _ w1 w' hs hq => Zng hs hq)), .inr ((fun v _ w1 w' hs hq => Zng hs hq)), .inr ((fun v _ w1 w' hs hq => Q1.box hq hs)), x5, .inl (by kernel_rfl), .inl (by kernel_rfl), trivial⟩⟩, trivial⟩ ⟨n5, n5, n5, n5, n5, n5, n5, n5, n5, fun _ _ _ _ h => h, n5, trivial⟩ ⟨hG1.on (Zp.refl _).drew, fun _ => (Zp.refl _).drew⟩ ?_ ?_
 ·refine ⟨?_, ?_, ?_, ?_, ?_, ?_, ?_, ?_, ?_, ?_, ?_, trivial⟩
  ·refine Zg rfl fun a w' ek ef dn hr hg hin => ?_;have e2 : a (.tmp 2) = .pointer (some ⟨w0.heap.size + 1 + 1 + 1, 0, none⟩) := Zq hin 2 rfl;have hx := (hD1.on (hg.2 (hr.not1 9 (by kernel_rfl)))).1;obtain ⟨z0, z1⟩ := X1 hx rfl rfl;refine Zk ?_ hg rfl;clear hin hg hr hx;go_simp;all_goals go_arith
  ·refine Zg rfl fun a w' ek ef dn hr hg hin => ?_;have e : a (.tmp 0) = .int .i64 pa := Zq hin 0 rfl;exact Z6 rfl hg e
  ·refine Zg rfl fun a w' ek ef dn hr hg hin => ?_;have e1 : a (.tmp 1) = .pointer (some ⟨w0.heap.size + 1, 0, none⟩) := Zq hin 1 rfl;have z0 := Ze hg.1.recd 0 _ rfl;have z1 := Ze hg.1.recd 1 _ rfl;have z2 := Ze hg.1.recd 2 _ rfl;have z3 := Ze hg.1.recd 3 _ rfl;refine Zk ?_ hg rfl;clear hin hg hr;go_simp;all_goals go_arith
  ·refine Zg rfl fun a w' ek ef dn hr hg hin => ?_;have e : a (.tmp 0) = .int .i64 pa := Zq hin 0 rfl;exact Z6 rfl hg e
  ·refine Zg rfl fun a w' ek ef dn hr hg hin => ?_;have e13 : a (.tmp 13) = _ := Zf hin 2 rfl;have e14 : a (.tmp 14) = _ := Zf hin 3 rfl;have n9 := hr.not1 9 (by kernel_rfl);refine Yf (f := 57) (args := #[.agg #[.int .i64 k, .int .i64 y, .int .i64 n, .slice au l.length cu], .int .i64 pa]) ?_ ((Zhr k y n pa l _ w' (Z2 hu1 (hg.2 n9)) HW.out h0 (by omega)).mono ?_)
   ·clear hin hg hr;go_simp;all_goals go_arith
   ·rintro e w2 ⟨v', rfl, ho, g2⟩;exact ⟨_, rfl, g2, ⟨hg.1.on g2, fun _ => (hg.2 n9).trans g2⟩, Ye ho (Nat.zero_le _)⟩
  ·refine Zg rfl fun a w' ek ef dn hr hg hin => ?_;have e11 : a (.tmp 11) = _ := Zf hin 0 rfl;have e12 : a (.tmp 12) = _ := Zf hin 1 rfl;have e15 : ((fun v w' => w'.ownsRow 0 5 1 v 16 ((blk ⟨k, y, n, l⟩ pa).map bv))) (a (.tmp 15)) w' := Zf hin 4 rfl;have n9 := hr.not1 9 (by kernel_rfl);have hB15 : Bytes w' (a (.tmp 15)) (blk ⟨k, y, n, l⟩ pa) := Qy e15;obtain ⟨vb2, vl2, hv2, hdb, hdl⟩ := (hD1.on (hg.2 n9)).2.p;cases hv2;refine Yf (f := 73) (args := #[.agg #[.slice ab D.blocks.length cb, .slice al D.late.length cl], .int .i64 pa, a (.tmp 15)]) ?_ ((Zty D pa (blk ⟨k, y, n, l⟩ pa) _ _ _ w' hdb hdl hB15 hl256 hm hb16 hl16 h0 (by rw [HL.out]; exact h1) HB.out).mono ?_)
   ·clear hin hg hr hdb hdl hB15 e15;go_simp;all_goals go_arith
   ·rintro e w2 ⟨v', rfl, hq, g2⟩;exact ⟨_, rfl, g2, ⟨hg.1.on g2, fun _ => (hg.2 n9).trans g2⟩, v', rfl, hq.mono hg.1.size⟩
  ·refine Zg rfl fun a w' ek ef dn hr hg hin => ?_;have e : (Zgq (w0.heap.size + 1 + 1 + 1 + 1) (D.put pa (blk ⟨k, y, n, l⟩ pa))) (a (.tmp 16)) w' := Zf hin 5 rfl;exact Z6 rfl hg e
  ·refine Zg rfl fun a w' ek ef dn hr hg hin => ?_;have e10 : (Zgq (w0.heap.size + 1 + 1 + 1 + 1) (D.put pa (blk ⟨k, y, n, l⟩ pa))) (a (.tmp 10)) w' := Zf hin 6 rfl;obtain ⟨v', h10, hq⟩ := e10;refine Zk (v := v') ?_ hg hq;clear hin hg hr hq;go_simp;all_goals go_arith
  ·refine Zg rfl fun a w' ek ef dn hr hg hin => ?_;have e10 : (Zgq (w0.heap.size + 1 + 1 + 1 + 1) (D.put pa (blk ⟨k, y, n, l⟩ pa))) (a (.tmp 10)) w' := Zf hin 6 rfl;obtain ⟨v', h10, hq⟩ := e10;refine Zk ?_ hg rfl;clear hin hg hr hq;go_simp;all_goals go_arith
  ·refine Zg rfl fun a w' ek ef dn hr hg hin => ?_;have e2 : a (.tmp 2) = .pointer (some ⟨w0.heap.size + 1 + 1 + 1, 0, none⟩) := Zq hin 2 rfl;have e17 : (Q1 (w0.heap.size + 1 + 1 + 1 + 1) (D.put pa (blk ⟨k, y, n, l⟩ pa))) (a (.tmp 17)) w' := Zf hin 7 rfl;have hq := e17;obtain ⟨vb9, vl9, h9, ho, hlt⟩ := e17;obtain ⟨a5, c5, rfl⟩ := ho.form;obtain ⟨a8, c8, rfl⟩ := hlt.form;have hh := (hD1.on (hg.2 hr.un)).1;obtain ⟨hp1, hp2⟩ := X8 hh (.slice a5 (D.put pa (blk ⟨k, y, n, l⟩ pa)).blocks.length c5) (.slice a8 (D.put pa (blk ⟨k, y, n, l⟩ pa)).late.length c8);have hstep : Yw 30 w' _ := .inr ⟨_, _, _, hp2, hh, hp1, rfl⟩;obtain ⟨y0, y1⟩ := X1 hh rfl rfl;have f0 := Zr hh 0;have f1 := Zr hh 1;have cs := Zy;refine Yj (w' := _) ?_ hstep ⟨hg.1.but hp2, fun h => by simp [upd] at h⟩ ⟨_, _, hp1, h9, hq.box hstep⟩;clear hin hg hr hp1 hp2 hlt hh ho hstep hq;go_simp;all_goals go_arith
  ·refine Zg rfl fun a w' ek ef dn hr hg hin => ?_;have e : a (.tmp 18) = _ := Zf hin 8 rfl;exact Y8 rfl hg e
 ·intro vs w' dn hdn hg ht;obtain ⟨q11, q12, q13, q14, q15, q16, q10, q17, q18, qo9, q5, -⟩ := ht;have r11 : vs 0 = .agg #[.slice ab D.blocks.length cb, .slice al D.late.length cl] := q11;have r12 : vs 1 = .int .i64 pa := q12;have r13 : vs 2 = .agg #[.int .i64 k, .int .i64 y, .int .i64 n, .slice au l.length cu] := q13;have r14 : vs 3 = .int .i64 pa := q14;replace q15 : ((fun v w' => w'.ownsRow 0 5 1 v 16 ((blk ⟨k, y, n, l⟩ pa).map bv))) (vs 4) w' := q15;replace q16 : (Zgq (w0.heap.size + 1 + 1 + 1 + 1) (D.put pa (blk ⟨k, y, n, l⟩ pa))) (vs 5) w' := q16;replace q10 : (Zgq (w0.heap.size + 1 + 1 + 1 + 1) (D.put pa (blk ⟨k, y, n, l⟩ pa))) (vs 6) w' := q10;replace q17 : (Q1 (w0.heap.size + 1 + 1 + 1 + 1) (D.put pa (blk ⟨k, y, n, l⟩ pa))) (vs 7) w' := q17;have r18 : vs 8 = .int .i64 0 := q18;replace qo9 : ((fun _ v w' => Zsz (w0.heap.size + 1 + 1 + 1 + 1) (w0.heap.size + 1 + 1 + 1) (D.put pa (blk ⟨k, y, n, l⟩ pa)) v w')) (vs 9) (vs 7) w' := qo9;have r5 : vs 10 = .int .i64 0 := q5;clear q11 q12 q13 q14 q18 q5;simp only [Z9, Act.put, List.setIfInBounds_toArray, List.set_cons_zero, List.set_cons_succ, Nat.reduceAdd, r11, r12, r13, r14, r18, r5];clear r11 r12 r13 r14 r18 r5;obtain ⟨vb9, vl9, hh, h9, hQ⟩ := qo9;have hE : Zby w0 vd #[.int .i64 k, .int .i64 y, .int .i64 n, .slice au l.length cu] S (D.put pa (blk ⟨k, y, n, l⟩ pa)) w' := ⟨hg.1, vb9, vl9, hh, by rw [← h9]; exact hQ.s S⟩;clear q15 q16 q17 hdn hg hh hQ h9 hG1 hD1 hu1;go_wp2_with fail;go_ret;exact ⟨rfl, hE⟩
theorem Zdy (args : Array Value) (w : World) : (callFunc 71 args).run Tryz.prog w = .ok (.enter 71 args) w := by
 simp [callFunc, Tryz.func71, Tryz.f71, mark]
theorem Zjm (S : Nat → Prop) (d : Dk) (p k y n : Int) (l : List UInt8) (u : Value) (vd : Array Value) (w0 w : World) (hF : d.Fine 900) (hu : Bytes w0 u l) (hV : Zby w0 vd #[.int .i64 k, .int .i64 y, .int .i64 n, u] S d w) :
  Calls Tryz.prog 70 #[.int .i64 p, .func (.func 71) #[] #[.pointer (some ⟨w0.heap.size + 1, 0, none⟩), .pointer (some ⟨w0.heap.size + 1 + 1 + 1, 0, none⟩)]] w fun e w' => e = .returned (.int .i64 (d.pairE p ⟨k, y, n, l⟩)) ∧ Zby w0 vd #[.int .i64 k, .int .i64 y, .int .i64 n, u] S (d.pairD p ⟨k, y, n, l⟩) w' := by
 have h12 := hF.len;by_cases hout : p < 0 ∨ 6 ≤ p
 ·have he : d.pairE p ⟨k, y, n, l⟩ = 3 := by unfold Dk.pairE; rw [if_pos (by omega)]
  have hd : d.pairD p ⟨k, y, n, l⟩ = d := by unfold Dk.pairD; rw [he, if_neg (by omega)]
  rw [he, hd];refine (Zkj _ _ p w hout).mono ?_;rintro e w' ⟨rfl, rfl⟩;exact ⟨rfl, hV⟩
 ·have he : d.pairE p ⟨k, y, n, l⟩ = Yh ⟨k, y, n, l⟩ := by unfold Dk.pairE; rw [if_neg (by omega)]
  by_cases hw : Yh ⟨k, y, n, l⟩ = 0
  ·have hd : d.pairD p ⟨k, y, n, l⟩ = d.pairW p ⟨k, y, n, l⟩ := by unfold Dk.pairD; rw [he, if_pos hw]
   rw [hd, he, hw];have e0 : p * 2 + ((0 : Nat) : Int) = 2 * p := by omega
   have e1 : p * 2 + ((1 : Nat) : Int) = 2 * p + 1 := by omega
   refine (Zfw _ _ p w (by omega) (by omega) Zdy (fun i w' => Zby w0 vd #[.int .i64 k, .int .i64 y, .int .i64 n, u] S (match i with | 0 => d | 1 => d.put (2 * p) (blk ⟨k, y, n, l⟩ (2 * p)) | _ => d.pairW p ⟨k, y, n, l⟩) w') (fun _ _ => False) hV ?_).mono ?_
   ·intro i w' hi hI
    match i, hi, hI with
    | 0, _, hI =>
     rw [e0];refine (Znl S d (2 * p) k y n l u vd w0 w' hu hw (hF.mono (by omega)) (by omega) (by omega) hI).mono ?_;rintro e w2 ⟨rfl, hV2⟩;exact ⟨0, rfl, fun _ => hV2, fun h => absurd rfl h⟩
    | 1, _, hI =>
     rw [e1];have hF1 : (d.put (2 * p) (blk ⟨k, y, n, l⟩ (2 * p))).Fine 999 := by
      refine ⟨hF.len, by show (d.late ++ [_]).length ≤ _; have := hF.few; simp; omega, hF.block, fun x hx => ?_, fun x hx => ?_⟩
      ·rcases List.mem_append.1 (show x ∈ d.late ++ [_] from hx) with h1 | h1
       ·exact hF.late x h1
       ·rw [List.mem_singleton.1 h1]; exact Zsh _ _ hw
      ·rcases List.mem_append.1 (show x ∈ d.late ++ [_] from hx) with h1 | h1
       ·exact hF.place x h1
       ·rw [List.mem_singleton.1 h1]; show 0 ≤ 2 * p ∧ 2 * p < 12; omega
     refine (Znl S _ (2 * p + 1) k y n l u vd w0 w' hu hw hF1 (by omega) (by omega) hI).mono ?_;rintro e w2 ⟨rfl, hV2⟩;have e2 : (d.put (2 * p) (blk ⟨k, y, n, l⟩ (2 * p))).put (2 * p + 1) (blk ⟨k, y, n, l⟩ (2 * p + 1)) = d.pairW p ⟨k, y, n, l⟩ := by simp [Dk.pairW, Dk.put]
     rw [e2] at hV2;exact ⟨0, rfl, fun _ => hV2, fun h => absurd rfl h⟩
   ·rintro e w' ⟨E, rfl, hE0, hE1⟩;by_cases hE : E = 0
    ·exact ⟨by rw [hE], hE0 hE⟩
    ·exact (hE1 hE).elim
  ·have hd : d.pairD p ⟨k, y, n, l⟩ = d := by unfold Dk.pairD; rw [he, if_neg hw]
   rw [hd, he];refine (Zfw _ _ p w (by omega) (by omega) Zdy (fun i w' => i = 0 ∧ Zby w0 vd #[.int .i64 k, .int .i64 y, .int .i64 n, u] S d w') (fun E w' => E = Yh ⟨k, y, n, l⟩ ∧ Zby w0 vd #[.int .i64 k, .int .i64 y, .int .i64 n, u] S d w') ⟨rfl, hV⟩ ?_).mono ?_
   ·rintro i w' hi ⟨-, hI⟩;refine (Zl0 S d _ k y n l u vd w0 w' hu hw hI).mono ?_;rintro e w2 ⟨rfl, hV2⟩;exact ⟨_, rfl, fun h => absurd h hw, fun _ => ⟨rfl, hV2⟩⟩
   ·rintro e w' ⟨E, rfl, hE0, hE1⟩;by_cases hE : E = 0
    ·exact absurd (hE0 hE).1 (by omega)
    ·exact ⟨by rw [(hE1 hE).1], (hE1 hE).2⟩
theorem Zby.start (S : Nat → Prop) (w : World) (d : Dk) (vb vl : Value) (rc : Array Value) (hd : Xm S d (.agg #[vb, vl]) w) : Zby w #[vb, vl] rc S d ((((w.alloc (.cells #[vb, vl] 30)).alloc (.cells rc 51)).alloc (.cells #[.slice none 0 0, .slice none 0 0] 30)).alloc (.cells #[vb, vl] 30)) := by
 have g1 := Zd w (.cells #[vb, vl] 30);have k1 := Zn w #[vb, vl] 30;have s1 := World.size_alloc w (.cells #[vb, vl] 30);generalize World.alloc w _ = w1 at *;have g2 := Zd w1 (.cells rc 51);have k2 := Zn w1 rc 51;have s2 := World.size_alloc w1 (.cells rc 51);generalize World.alloc w1 _ = w2 at *;have g3 := Zd w2 (.cells #[.slice none 0 0, .slice none 0 0] 30);have k3 := Zn w2 #[.slice none 0 0, .slice none 0 0] 30;have s3 := World.size_alloc w2 (.cells #[.slice none 0 0, .slice none 0 0] 30);generalize World.alloc w2 _ = w3 at *;have g4 := Zd w3 (.cells #[vb, vl] 30);have k4 := Zn w3 #[vb, vl] 30;generalize World.alloc w3 _ = w4 at *;rw [s3, s2, s1] at k4;rw [s2, s1] at k3;rw [s1] at k2;have gA := ((g1.trans g2).trans g3).trans g4;exact ⟨⟨gA, (((g2.trans g3).trans g4).block _ (Zb k1)).trans k1, ((g3.trans g4).block _ (Zb k2)).trans k2, (g4.block _ (Zb k3)).trans k3, Zb k4⟩, vb, vl, k4, (hd.grow gA).mono Vv⟩
theorem Zwl : Zwo := by
 intro S d p k y n l v u w hS hF hd hu;obtain ⟨ab, cb, al, cl, rfl, -, -⟩ := hd.form;obtain ⟨au, cu, rfl, -, -⟩ := Yg hu;have hst := Zby.start S w d _ _ #[.int .i64 k, .int .i64 y, .int .i64 n, .slice au l.length cu] hd;obtain ⟨E, hE⟩ : ∃ E, E = d.pairE p ⟨k, y, n, l⟩ := ⟨_, rfl⟩;obtain ⟨D, hD⟩ : ∃ D, D = d.pairD p ⟨k, y, n, l⟩ := ⟨_, rfl⟩;have hED : E ≠ 0 → D = d := by
  intro h; rw [hD]; unfold Dk.pairD; rw [if_neg (by rw [← hE]; exact h)]
 rw [← hE, ← hD];have HE : Hid _ := hE;have HD : Hid _ := hD;clear hE hD;have hb16 := hF.b16;have hl16 := hF.l16;have hl256 : d.blocks.length ≤ 256 := by have := hF.len; omega
 have hm : d.late.length ≤ 1000 := by have := hF.few; omega
 by_cases h0 : E = 0
 ·subst h0;clear hED;go_enter Tryz.func38, Tryz.ntmps38;go_wp2_with fail;refine (Zjm S d p k y n l _ _ w _ hF hu hst).mono ?_;rw [← HE.out, ← HD.out];rintro e w1 ⟨rfl, hG, vb, vl, hP⟩;obtain ⟨a5, c5, a8, c8, hv, -, -⟩ := hP.2.form;cases hv;have x0 := Ze hP.1 0 _ rfl;have x1 := Ze hP.1 1 _ rfl;have y0 := Ze hG.zero 0 _ rfl;have y1 := Ze hG.zero 1 _ rfl;have f0 := Zr hG.zero 0;have f1 := Zr hG.zero 1;have cs := Zy;obtain ⟨-, hp2⟩ := X8 hG.zero (.slice a5 D.blocks.length c5) (.slice a8 D.late.length c8);have gE := hp2.grow hG.grow (by omega);have hdE := (hP.2.but hp2 (fun h => h.elim (fun h => by have := hS _ h; omega) (fun h => by omega))).mono (Ya (B := w.heap.size) (by omega));clear hst hd hG hP hp2;go_wp2_with fail;exact bodyPost_ret (v := .tuple #[.agg #[.slice a5 D.blocks.length c5, .slice a8 D.late.length c8], .int .i64 0]) (by simp [results, Tryz.results38, go_sem, y0, y1, cs]) rfl ⟨_, rfl, hdE, gE⟩
 ·have d0 : (E != 0) = true := by simp [h0]
  obtain rfl := hED h0;clear hED h0;go_enter Tryz.func38, Tryz.ntmps38;go_wp2_with fail;refine (Zjm S D p k y n l _ _ w _ hF hu hst).mono ?_;rw [← HE.out, ← HD.out];rintro e w1 ⟨rfl, hG, -, -, -⟩;have x0 := Ze hG.disk 0 _ rfl;have x1 := Ze hG.disk 1 _ rfl;have hd1 := hd.grow hG.grow;obtain ⟨vb2, vl2, hv2, hdb, hdl⟩ := hd1.p;cases hv2;clear hst hd hd1;go_wp2_with fail;clear x0 x1;refine (Zdr D _ _ _ hdb hdl hl256 hm hb16 hl16).mono ?_;rintro e w2 ⟨v2, rfl, hA, g2⟩;have hQ := hA.q;obtain ⟨vb3, vl3, rfl, ho, hlt⟩ := hA.q;obtain ⟨a5, c5, rfl⟩ := ho.form;obtain ⟨a8, c8, rfl⟩ := hlt.form;have hG2 := hG.on g2;have hsz := hG.size;have y0 := Ze hG2.zero 0 _ rfl;have y1 := Ze hG2.zero 1 _ rfl;have f0 := Zr hG2.zero 0;have f1 := Zr hG2.zero 1;have cs := Zy;obtain ⟨-, hp2⟩ := X8 hG2.zero (.slice a5 D.blocks.length c5) (.slice a8 D.late.length c8);have gE := hp2.grow hG2.grow (by omega);have hdE := ((hQ.s S).but hp2 (fun h => h.elim (fun h => by have := hS _ h; omega) (fun h => by omega))).mono (Ya (B := w.heap.size) (by omega));clear hG hG2 hp2 hQ hA ho hlt hsz hdb hdl g2;go_wp2_with fail;exact bodyPost_ret (v := .tuple #[.agg #[.slice a5 D.blocks.length c5, .slice a8 D.late.length c8], .int .i64 E]) (by simp [results, Tryz.results38, go_sem, y0, y1, cs]) rfl ⟨_, rfl, hdE, gE⟩
end Go.Proofs.YtikhknkpndhakabGreat
