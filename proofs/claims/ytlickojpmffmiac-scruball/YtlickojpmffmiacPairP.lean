import Derived.Test.YtlickojpmffmiacPTell
set_option maxHeartbeats 8000000
namespace Go.Proofs.Ytlickojpmffmiac
set_option maxRecDepth 100000
open Go.RowKit
open Plain Reg
/-- Put's variables but the disk that is made: the disk, the record, the answer's. -/
structure PutG (w0 : World) (vd : Array Value) (rc : Array Value) (w : World) : Prop where
 grow : Grow w0 w
 disk : w.heap[w0.heap.size]? = some (.cells vd 27 (0, 0))
 recd : w.heap[w0.heap.size + 1]? = some (.cells rc 66 (0, 0))
 zero : w.heap[w0.heap.size + 1 + 1]? = some (.cells #[.slice none 0 0, .slice none 0 0] 27 (0, 0))
 size : w0.heap.size + 1 + 1 + 1 < w.heap.size
theorem PutG.on {w0 : World} {vd rc : Array Value} {w w' : World} (h : PutG w0 vd rc w) (hg : Grow w w') : PutG w0 vd rc w' :=
 ⟨h.grow.trans hg, (hg.block _ (heap_lt h.disk)).trans h.disk, (hg.block _ (heap_lt h.recd)).trans h.recd, (hg.block _ (heap_lt h.zero)).trans h.zero, Nat.lt_of_lt_of_le h.size hg.size⟩
theorem PutG.but {w0 : World} {vd rc : Array Value} {w w' : World} (h : PutG w0 vd rc w) (hg : GrowBut (w0.heap.size + 1 + 1 + 1) w w') : PutG w0 vd rc w' :=
 ⟨hg.grow h.grow (by omega), (hg.block _ (heap_lt h.disk) (by omega)).trans h.disk, (hg.block _ (heap_lt h.recd) (by omega)).trans h.recd, (hg.block _ (heap_lt h.zero) (by omega)).trans h.zero, Nat.lt_of_lt_of_le h.size hg.size⟩
/-- The variable of the disk that is made. -/
def PutD (w0 : World) (S : Nat → Prop) (D : Dk) (vb vl : Value) (w : World) : Prop := w.heap[w0.heap.size + 1 + 1 + 1]? = some (.cells #[vb, vl] 27 (0, 0)) ∧ DiskS (Upon S (w0.heap.size + 1 + 1 + 1 + 1)) D (.agg #[vb, vl]) w
theorem PutD.on {w0 : World} {S : Nat → Prop} {D : Dk} {vb vl : Value} {w w' : World} (h : PutD w0 S D vb vl w) (hg : Grow w w') : PutD w0 S D vb vl w' := ⟨(hg.block _ (heap_lt h.1)).trans h.1, h.2.grow hg⟩
def PutV (w0 : World) (vd rc : Array Value) (S : Nat → Prop) (D : Dk) (w : World) : Prop := PutG w0 vd rc w ∧ ∃ vb vl, PutD w0 S D vb vl w
theorem PutV.on {w0 : World} {vd rc : Array Value} {S : Nat → Prop} {D : Dk} {w w' : World} (h : PutV w0 vd rc S D w) (hg : Grow w w') : PutV w0 vd rc S D w' := by
 obtain ⟨h1, vb, vl, h2⟩ := h
 exact ⟨h1.on hg, vb, vl, h2.on hg⟩
/-- A variable holds the disk that v is. -/
def HeldQ (B g : Nat) (d : Dk) (v : Value) (w : World) : Prop := ∃ vb vl, w.heap[g]? = some (.cells #[vb, vl] 27 (0, 0)) ∧ v = .agg #[vb, vl] ∧ DiskQ B d v w
theorem st_heldq (B g : Nat) (d : Dk) (i : Nat) : StableW (pl1 i (fun _ v w => HeldQ B g d v w)) := by
 rintro v ds w w' hg ⟨vb, vl, h2, h1, h3⟩
 exact ⟨vb, vl, (hg.block _ (heap_lt h2)).trans h2, h1, h3.grow hg⟩
/-- A disk beside an error. -/
def TupQ (B : Nat) (d : Dk) (v : Value) (w : World) : Prop := ∃ v', v = .tuple #[v', .int .i64 0] ∧ DiskQ B d v' w
theorem st_tupq (B : Nat) (d : Dk) : Stable (TupQ B d) := by
 rintro v w w' hg ⟨v', h1, h2⟩; exact ⟨v', h1, h2.grow hg⟩
theorem sp_tupq {B : Nat} {d : Dk} {v : Value} {w w' : World} (hs : BoxStep 27 w w') (h : TupQ B d v w) : TupQ B d v w' := by
 obtain ⟨v', h1, h2⟩ := h; exact ⟨v', h1, h2.box hs⟩
theorem put1_wrong (S : Nat → Prop) (D : Dk) (a k y n : Int) (l : List UInt8) (u : Value) (vd : Array Value) (w0 w : World) (hu : Bytes w0 u l) (hw : wrong ⟨k, y, n, l⟩ ≠ 0) (hV : PutV w0 vd #[.int .i64 k, .int .i64 y, .int .i64 n, u] S D w) :
  Calls Try.prog 72 #[.int .i64 a, .pointer (some ⟨w0.heap.size + 1, 0, none⟩), .pointer (some ⟨w0.heap.size + 1 + 1 + 1, 0, none⟩)] w fun e w' => e = .returned (.int .i64 (wrong ⟨k, y, n, l⟩)) ∧ PutV w0 vd #[.int .i64 k, .int .i64 y, .int .i64 n, u] S D w' := by
 obtain ⟨au, cu, rfl, -, -⟩ := bytes_src hu
 obtain ⟨E, hE⟩ : ∃ E, E = wrong ⟨k, y, n, l⟩ := ⟨_, rfl⟩
 rw [← hE] at hw ⊢
 have HE : Hid _ := hE
 clear hE
 have hG := hV.1
 have r0 := box_cell hG.recd 0 _ rfl
 have r1 := box_cell hG.recd 1 _ rfl
 have r2 := box_cell hG.recd 2 _ rfl
 have r3 := box_cell hG.recd 3 _ rfl
 have huw := bytes_grow hu hG.grow
 go_enter Try.func72, Try.ntmps72
 go_wp2_with fail
 refine (wrong_any k y n l _ _ huw).mono ?_
 have d0 : (E == 0) = false := beq_false' hw
 rw [← HE.out]
 rintro e w1 ⟨rfl, g1⟩
 have hV1 := hV.on g1
 clear hV hG r0 r1 r2 r3 huw g1 hw
 go_wp2_with fail
 go_ret
 exact ⟨rfl, hV1⟩
theorem put1_ok (S : Nat → Prop) (D : Dk) (pa k y n : Int) (l : List UInt8) (u : Value) (vd : Array Value) (w0 w : World) (hu : Bytes w0 u l) (hw : wrong ⟨k, y, n, l⟩ = 0) (hF : D.Fine 999) (h0 : 0 ≤ pa) (h1 : pa < 12) (hV : PutV w0 vd #[.int .i64 k, .int .i64 y, .int .i64 n, u] S D w) :
  Calls Try.prog 72 #[.int .i64 pa, .pointer (some ⟨w0.heap.size + 1, 0, none⟩), .pointer (some ⟨w0.heap.size + 1 + 1 + 1, 0, none⟩)] w fun e w' => e = .returned (.int .i64 0) ∧ PutV w0 vd #[.int .i64 k, .int .i64 y, .int .i64 n, u] S (D.put pa (blk ⟨k, y, n, l⟩ pa)) w' := by
 obtain ⟨au, cu, rfl, -, -⟩ := bytes_src hu
 obtain ⟨hG, vb, vl, hD⟩ := hV
 obtain ⟨ab, cb, al, cl, hv, hdb, hdl⟩ := hD.2.p.form
 cases hv
 clear hdb hdl
 have r0 := box_cell hG.recd 0 _ rfl
 have r1 := box_cell hG.recd 1 _ rfl
 have r2 := box_cell hG.recd 2 _ rfl
 have r3 := box_cell hG.recd 3 _ rfl
 have huw := bytes_grow hu hG.grow
 have HB : Hid ((blk ⟨k, y, n, l⟩ pa).length = 16) := blk_16 _ _ hw
 have HL : Hid (D.blocks.length = 12) := hF.len
 have hl256 : D.blocks.length ≤ 256 := by have := hF.len; omega
 have hm : D.late.length ≤ 1000 := by have := hF.few; omega
 have hb16 := hF.b16
 have hl16 := hF.l16
 have HW : Hid (wrong ⟨k, y, n, l⟩ = 0) := hw
 clear hF hw
 go_enter Try.func72, Try.ntmps72
 go_wp2_with fail
 refine (wrong_any k y n l _ _ huw).mono ?_
 rw [HW.out]
 rintro e w1 ⟨rfl, g1⟩
 have hG1 := hG.on g1
 have hD1 := hD.on g1
 have hu1 := bytes_grow huw g1
 clear hG hD huw g1 r0 r1 r2 r3
 go_wp2_with fail
 refine wp_region_v [pl (ex (.agg #[.slice ab D.blocks.length cb, .slice al D.late.length cl])), pl (ex (.int .i64 pa)), pl (ex (.agg #[.int .i64 k, .int .i64 y, .int .i64 n, .slice au l.length cu])), pl (ex (.int .i64 pa)), pl ((fun v w' => w'.ownsRow 0 5 1 v 16 ((blk ⟨k, y, n, l⟩ pa).map bv))), pl (TupQ (w0.heap.size + 1 + 1 + 1 + 1) (D.put pa (blk ⟨k, y, n, l⟩ pa))), pl (TupQ (w0.heap.size + 1 + 1 + 1 + 1) (D.put pa (blk ⟨k, y, n, l⟩ pa))), pl (DiskQ (w0.heap.size + 1 + 1 + 1 + 1) (D.put pa (blk ⟨k, y, n, l⟩ pa))), pl (ex (.int .i64 0)), pl1 7 ((fun _ v w' => HeldQ (w0.heap.size + 1 + 1 + 1 + 1) (w0.heap.size + 1 + 1 + 1) (D.put pa (blk ⟨k, y, n, l⟩ pa)) v w')), pl (ex (.int .i64 0))] [none, none, none, none, none, none, none, none, none, some ((BoxStep 27))] (fun dn w' => PutG w0 vd #[.int .i64 k, .int .i64 y, .int .i64 n, .slice au l.length cu] w' ∧ (dn 9 = false → Grow w1 w')) (by kernel_rfl) (by kernel_rfl) ⟨st_pl (st_ex _), st_pl (st_ex _), st_pl (st_ex _), st_pl (st_ex _), st_pl ((fun _ _ _ hg h => own_grow h hg)), st_pl (st_tupq _ _), st_pl (st_tupq _ _), st_pl (st_diskq _ _), st_pl (st_ex _), st_heldq _ _ _ _, st_pl (st_ex _), trivial⟩ ⟨⟨(fun w => .inl rfl), ⟨.inr (fun _ _ _ _ _ h => h), .inr (fun _ _ _ _ _ h => h), .inr (fun _ _ _ _ _ h => h), .inr (fun _ _ _ _ _ h => h), .inr ((fun v _ w1 w' hs hq => own_box (by decide) hs hq)), .inr ((fun v _ w1 w' hs hq => sp_tupq hs hq)), .inr ((fun v _ w1 w' hs hq => sp_tupq hs hq)), .inr ((fun v _ w1 w' hs hq => DiskQ.box hq hs)), .inr (fun _ _ _ _ _ h => h), .inl (by kernel_rfl), .inl (by kernel_rfl), trivial⟩⟩, trivial⟩ ⟨(fun h => by cases h), (fun h => by cases h), (fun h => by cases h), (fun h => by cases h), (fun h => by cases h), (fun h => by cases h), (fun h => by cases h), (fun h => by cases h), (fun h => by cases h), fun _ _ _ _ h => h, (fun h => by cases h), trivial⟩ ⟨hG1.on (Grow.refl _).drew, fun _ => (Grow.refl _).drew⟩ ?_ ?_
 ·refine ⟨?_, ?_, ?_, ?_, ?_, ?_, ?_, ?_, ?_, ?_, ?_, trivial⟩
  ·refine needv_plain rfl (fun a w' dn hr hg hin => ?_)
   have e2 : a.eval (.tmp 2) = .pointer (some ⟨w0.heap.size + 1 + 1 + 1, 0, none⟩) := insw_ext hin 2 (by kernel_rfl)
   have hx := (hD1.on (hg.2 (hr.not1 9 (by kernel_rfl)))).1
   obtain ⟨z0, z1⟩ := box2 hx rfl rfl
   refine uponw_val ?_ hg rfl
   clear hin hg hr hx
   obtain ⟨ek, ef⟩ := evs a
   generalize a.eval = ev at *
   go_simp
   all_goals first | omega | (intro _; omega) | go_arith
  ·refine needv_plain rfl (fun a w' dn hr hg hin => ?_)
   have e : a.eval (.tmp 0) = .int .i64 pa := insw_ext hin 0 (by kernel_rfl)
   exact uponw_move rfl hg e
  ·refine needv_plain rfl (fun a w' dn hr hg hin => ?_)
   have e1 : a.eval (.tmp 1) = .pointer (some ⟨w0.heap.size + 1, 0, none⟩) := insw_ext hin 1 (by kernel_rfl)
   have z0 := box_cell hg.1.recd 0 _ rfl
   have z1 := box_cell hg.1.recd 1 _ rfl
   have z2 := box_cell hg.1.recd 2 _ rfl
   have z3 := box_cell hg.1.recd 3 _ rfl
   refine uponw_val ?_ hg rfl
   clear hin hg hr
   obtain ⟨ek, ef⟩ := evs a
   generalize a.eval = ev at *
   go_simp
   all_goals first | omega | (intro _; omega) | go_arith
  ·refine needv_plain rfl (fun a w' dn hr hg hin => ?_)
   have e : a.eval (.tmp 0) = .int .i64 pa := insw_ext hin 0 (by kernel_rfl)
   exact uponw_move rfl hg e
  ·refine needv_plain rfl (fun a w' dn hr hg hin => ?_)
   have e13 : a.eval (.tmp 13) = _ := insw_on hin 2 (by kernel_rfl)
   have e14 : a.eval (.tmp 14) = _ := insw_on hin 3 (by kernel_rfl)
   have n9 := hr.not1 9 (by kernel_rfl)
   refine uponw_call (f := 75) (args := #[.agg #[.int .i64 k, .int .i64 y, .int .i64 n, .slice au l.length cu], .int .i64 pa]) ?_ ((bbytes_ok k y n pa l _ w' (bytes_grow hu1 (hg.2 n9)) HW.out h0 (by omega)).mono ?_)
   ·clear hin hg hr
    obtain ⟨ek, ef⟩ := evs a
    generalize a.eval = ev at *
    go_simp
    all_goals first | omega | (intro _; omega) | go_arith
   ·rintro e w2 ⟨v', rfl, ho, g2⟩
    exact ⟨_, rfl, g2, ⟨hg.1.on g2, fun _ => (hg.2 n9).trans g2⟩, own_mono ho (Nat.zero_le _)⟩
  ·refine needv_plain rfl (fun a w' dn hr hg hin => ?_)
   have e11 : a.eval (.tmp 11) = _ := insw_on hin 0 (by kernel_rfl)
   have e12 : a.eval (.tmp 12) = _ := insw_on hin 1 (by kernel_rfl)
   have e15 : ((fun v w' => w'.ownsRow 0 5 1 v 16 ((blk ⟨k, y, n, l⟩ pa).map bv))) (a.eval (.tmp 15)) w' := insw_on hin 4 (by kernel_rfl)
   have n9 := hr.not1 9 (by kernel_rfl)
   have hB15 : Bytes w' (a.eval (.tmp 15)) (blk ⟨k, y, n, l⟩ pa) := bytes_own e15
   obtain ⟨vb2, vl2, hv2, hdb, hdl⟩ := (hD1.on (hg.2 n9)).2.p
   cases hv2
   refine uponw_call (f := 74) (args := #[.agg #[.slice ab D.blocks.length cb, .slice al D.late.length cl], .int .i64 pa, a.eval (.tmp 15)]) ?_ ((put_yes D pa (blk ⟨k, y, n, l⟩ pa) _ _ _ w' hdb hdl hB15 hl256 hm hb16 hl16 h0 (by rw [HL.out]; exact h1) HB.out).mono ?_)
   ·clear hin hg hr hdb hdl hB15 e15
    obtain ⟨ek, ef⟩ := evs a
    generalize a.eval = ev at *
    go_simp
    all_goals first | omega | (intro _; omega) | go_arith
   ·rintro e w2 ⟨v', rfl, hq, g2⟩
    exact ⟨_, rfl, g2, ⟨hg.1.on g2, fun _ => (hg.2 n9).trans g2⟩, v', rfl, hq.mono hg.1.size⟩
  ·refine needv_plain rfl (fun a w' dn hr hg hin => ?_)
   have e : (TupQ (w0.heap.size + 1 + 1 + 1 + 1) (D.put pa (blk ⟨k, y, n, l⟩ pa))) (a.eval (.tmp 16)) w' := insw_on hin 5 (by kernel_rfl)
   exact uponw_move rfl hg e
  ·refine needv_plain rfl (fun a w' dn hr hg hin => ?_)
   have e10 : (TupQ (w0.heap.size + 1 + 1 + 1 + 1) (D.put pa (blk ⟨k, y, n, l⟩ pa))) (a.eval (.tmp 10)) w' := insw_on hin 6 (by kernel_rfl)
   obtain ⟨v', h10, hq⟩ := e10
   refine uponw_val (v := v') ?_ hg hq
   clear hin hg hr hq
   obtain ⟨ek, ef⟩ := evs a
   generalize a.eval = ev at *
   go_simp
   all_goals first | omega | (intro _; omega) | go_arith
  ·refine needv_plain rfl (fun a w' dn hr hg hin => ?_)
   have e10 : (TupQ (w0.heap.size + 1 + 1 + 1 + 1) (D.put pa (blk ⟨k, y, n, l⟩ pa))) (a.eval (.tmp 10)) w' := insw_on hin 6 (by kernel_rfl)
   obtain ⟨v', h10, hq⟩ := e10
   refine uponw_val ?_ hg rfl
   clear hin hg hr hq
   obtain ⟨ek, ef⟩ := evs a
   generalize a.eval = ev at *
   go_simp
   all_goals first | omega | (intro _; omega) | go_arith
  ·refine needv_plain rfl (fun a w' dn hr hg hin => ?_)
   have e2 : a.eval (.tmp 2) = .pointer (some ⟨w0.heap.size + 1 + 1 + 1, 0, none⟩) := insw_ext hin 2 (by kernel_rfl)
   have e17 : (DiskQ (w0.heap.size + 1 + 1 + 1 + 1) (D.put pa (blk ⟨k, y, n, l⟩ pa))) (a.eval (.tmp 17)) w' := insw_on hin 7 (by kernel_rfl)
   have hq := e17
   obtain ⟨vb9, vl9, h9, ho, hlt⟩ := e17
   obtain ⟨a5, c5, rfl⟩ := ho.form
   obtain ⟨a8, c8, rfl⟩ := hlt.form
   have hh := (hD1.on (hg.2 hr.un)).1
   obtain ⟨hp1, hp2⟩ := box_put2 hh (.slice a5 (D.put pa (blk ⟨k, y, n, l⟩ pa)).blocks.length c5) (.slice a8 (D.put pa (blk ⟨k, y, n, l⟩ pa)).late.length c8)
   have hstep : BoxStep 27 w' _ := .inr ⟨_, _, _, hp2, hh, hp1, rfl⟩
   obtain ⟨y0, y1⟩ := box2 hh rfl rfl
   have f0 := box_frozen hh 0
   have f1 := box_frozen hh 1
   have cs := cell_set
   refine uponw_skip (w' := _) ?_ hstep ⟨hg.1.but hp2, fun h => by simp [upd] at h⟩ ⟨_, _, hp1, h9, hq.box hstep⟩
   clear hin hg hr hp1 hp2 hlt hh ho hstep hq
   obtain ⟨ek, ef⟩ := evs a
   generalize a.eval = ev at *
   go_simp
   all_goals first | omega | (intro _; omega) | go_arith
  ·refine needv_plain rfl (fun a w' dn hr hg hin => ?_)
   have e : a.eval (.tmp 18) = _ := insw_on hin 8 (by kernel_rfl)
   exact uponw_assign rfl hg e
 ·intro vs w' dn hdn hg ht
  obtain ⟨q11, q12, q13, q14, q15, q16, q10, q17, q18, qo9, q5, -⟩ := ht
  have r11 : vs 0 = .agg #[.slice ab D.blocks.length cb, .slice al D.late.length cl] := q11
  have r12 : vs 1 = .int .i64 pa := q12
  have r13 : vs 2 = .agg #[.int .i64 k, .int .i64 y, .int .i64 n, .slice au l.length cu] := q13
  have r14 : vs 3 = .int .i64 pa := q14
  replace q15 : ((fun v w' => w'.ownsRow 0 5 1 v 16 ((blk ⟨k, y, n, l⟩ pa).map bv))) (vs 4) w' := q15
  replace q16 : (TupQ (w0.heap.size + 1 + 1 + 1 + 1) (D.put pa (blk ⟨k, y, n, l⟩ pa))) (vs 5) w' := q16
  replace q10 : (TupQ (w0.heap.size + 1 + 1 + 1 + 1) (D.put pa (blk ⟨k, y, n, l⟩ pa))) (vs 6) w' := q10
  replace q17 : (DiskQ (w0.heap.size + 1 + 1 + 1 + 1) (D.put pa (blk ⟨k, y, n, l⟩ pa))) (vs 7) w' := q17
  have r18 : vs 8 = .int .i64 0 := q18
  replace qo9 : ((fun _ v w' => HeldQ (w0.heap.size + 1 + 1 + 1 + 1) (w0.heap.size + 1 + 1 + 1) (D.put pa (blk ⟨k, y, n, l⟩ pa)) v w')) (vs 9) (vs 7) w' := qo9
  have r5 : vs 10 = .int .i64 0 := q5
  clear q11 q12 q13 q14 q18 q5
  simp only [putAll, Act.put, List.setIfInBounds_toArray, List.set_cons_zero, List.set_cons_succ, Nat.reduceAdd, r11, r12, r13, r14, r18, r5]
  clear r11 r12 r13 r14 r18 r5
  obtain ⟨vb9, vl9, hh, h9, hQ⟩ := qo9
  have hE : PutV w0 vd #[.int .i64 k, .int .i64 y, .int .i64 n, .slice au l.length cu] S (D.put pa (blk ⟨k, y, n, l⟩ pa)) w' := ⟨hg.1, vb9, vl9, hh, by rw [← h9]; exact hQ.s S⟩
  clear q15 q16 q17 hdn hg hh hQ h9 hG1 hD1 hu1
  go_wp2_with fail
  go_ret
  exact ⟨rfl, hE⟩
theorem enters_put1 (args : Array Value) (w : World) : (callFunc 72 args).run Try.prog w = .ok (.enter 72 args) w := by
 simp [callFunc, Try.func72, Try.f72, mark]
/-- Both blocks put, or what is wrong with the record. -/
theorem put_each (S : Nat → Prop) (d : Dk) (p k y n : Int) (l : List UInt8) (u : Value) (vd : Array Value) (w0 w : World) (hF : d.Fine 900) (hu : Bytes w0 u l) (hV : PutV w0 vd #[.int .i64 k, .int .i64 y, .int .i64 n, u] S d w) :
  Calls Try.prog 41 #[.int .i64 p, .func (.func 72) #[] #[.pointer (some ⟨w0.heap.size + 1, 0, none⟩), .pointer (some ⟨w0.heap.size + 1 + 1 + 1, 0, none⟩)]] w fun e w' => e = .returned (.int .i64 (d.pairE p ⟨k, y, n, l⟩)) ∧ PutV w0 vd #[.int .i64 k, .int .i64 y, .int .i64 n, u] S (d.pairD p ⟨k, y, n, l⟩) w' := by
 have h12 := hF.len
 by_cases hout : p < 0 ∨ 6 ≤ p
 ·have he : d.pairE p ⟨k, y, n, l⟩ = 3 := by unfold Dk.pairE; rw [if_pos (by omega)]
  have hd : d.pairD p ⟨k, y, n, l⟩ = d := by unfold Dk.pairD; rw [he, if_neg (by omega)]
  rw [he, hd]
  refine (each_out _ _ p w hout).mono ?_
  rintro e w' ⟨rfl, rfl⟩
  exact ⟨rfl, hV⟩
 ·have he : d.pairE p ⟨k, y, n, l⟩ = wrong ⟨k, y, n, l⟩ := by unfold Dk.pairE; rw [if_neg (by omega)]
  by_cases hw : wrong ⟨k, y, n, l⟩ = 0
  ·have hd : d.pairD p ⟨k, y, n, l⟩ = d.pairW p ⟨k, y, n, l⟩ := by unfold Dk.pairD; rw [he, if_pos hw]
   rw [hd, he, hw]
   have e0 : p * 2 + ((0 : Nat) : Int) = 2 * p := by omega
   have e1 : p * 2 + ((1 : Nat) : Int) = 2 * p + 1 := by omega
   refine (each_any _ _ p w (by omega) (by omega) enters_put1 (fun i w' => PutV w0 vd #[.int .i64 k, .int .i64 y, .int .i64 n, u] S (match i with | 0 => d | 1 => d.put (2 * p) (blk ⟨k, y, n, l⟩ (2 * p)) | _ => d.pairW p ⟨k, y, n, l⟩) w') (fun _ _ => False) hV ?_).mono ?_
   ·intro i w' hi hI
    match i, hi, hI with
    | 0, _, hI =>
     rw [e0]
     refine (put1_ok S d (2 * p) k y n l u vd w0 w' hu hw (hF.mono (by omega)) (by omega) (by omega) hI).mono ?_
     rintro e w2 ⟨rfl, hV2⟩
     exact ⟨0, rfl, fun _ => hV2, fun h => absurd rfl h⟩
    | 1, _, hI =>
     rw [e1]
     have hF1 : (d.put (2 * p) (blk ⟨k, y, n, l⟩ (2 * p))).Fine 999 := by
      refine ⟨hF.len, by show (d.late ++ [_]).length ≤ _; have := hF.few; simp; omega, hF.block, fun x hx => ?_, fun x hx => ?_⟩
      ·rcases List.mem_append.1 (show x ∈ d.late ++ [_] from hx) with h1 | h1
       ·exact hF.late x h1
       ·rw [List.mem_singleton.1 h1]; exact blk_16 _ _ hw
      ·rcases List.mem_append.1 (show x ∈ d.late ++ [_] from hx) with h1 | h1
       ·exact hF.place x h1
       ·rw [List.mem_singleton.1 h1]; show 0 ≤ 2 * p ∧ 2 * p < 12; omega
     refine (put1_ok S _ (2 * p + 1) k y n l u vd w0 w' hu hw hF1 (by omega) (by omega) hI).mono ?_
     rintro e w2 ⟨rfl, hV2⟩
     have e2 : (d.put (2 * p) (blk ⟨k, y, n, l⟩ (2 * p))).put (2 * p + 1) (blk ⟨k, y, n, l⟩ (2 * p + 1)) = d.pairW p ⟨k, y, n, l⟩ := by simp [Dk.pairW, Dk.put]
     rw [e2] at hV2
     exact ⟨0, rfl, fun _ => hV2, fun h => absurd rfl h⟩
   ·rintro e w' ⟨E, rfl, hE0, hE1⟩
    by_cases hE : E = 0
    ·exact ⟨by rw [hE], hE0 hE⟩
    ·exact (hE1 hE).elim
  ·have hd : d.pairD p ⟨k, y, n, l⟩ = d := by unfold Dk.pairD; rw [he, if_neg hw]
   rw [hd, he]
   refine (each_any _ _ p w (by omega) (by omega) enters_put1 (fun i w' => i = 0 ∧ PutV w0 vd #[.int .i64 k, .int .i64 y, .int .i64 n, u] S d w') (fun E w' => E = wrong ⟨k, y, n, l⟩ ∧ PutV w0 vd #[.int .i64 k, .int .i64 y, .int .i64 n, u] S d w') ⟨rfl, hV⟩ ?_).mono ?_
   ·rintro i w' hi ⟨-, hI⟩
    refine (put1_wrong S d _ k y n l u vd w0 w' hu hw hI).mono ?_
    rintro e w2 ⟨rfl, hV2⟩
    exact ⟨_, rfl, fun h => absurd h hw, fun _ => ⟨rfl, hV2⟩⟩
   ·rintro e w' ⟨E, rfl, hE0, hE1⟩
    by_cases hE : E = 0
    ·exact absurd (hE0 hE).1 (by omega)
    ·exact ⟨by rw [(hE1 hE).1], (hE1 hE).2⟩
theorem PutV.start (S : Nat → Prop) (w : World) (d : Dk) (vb vl : Value) (rc : Array Value) (hd : DiskS S d (.agg #[vb, vl]) w) : PutV w #[vb, vl] rc S d ((((w.alloc (.cells #[vb, vl] 27)).alloc (.cells rc 66)).alloc (.cells #[.slice none 0 0, .slice none 0 0] 27)).alloc (.cells #[vb, vl] 27)) := by
 have g1 := grow_alloc w (.cells #[vb, vl] 27)
 have k1 := heap_new w #[vb, vl] 27
 have s1 := World.size_alloc w (.cells #[vb, vl] 27)
 generalize World.alloc w _ = w1 at *
 have g2 := grow_alloc w1 (.cells rc 66)
 have k2 := heap_new w1 rc 66
 have s2 := World.size_alloc w1 (.cells rc 66)
 generalize World.alloc w1 _ = w2 at *
 have g3 := grow_alloc w2 (.cells #[.slice none 0 0, .slice none 0 0] 27)
 have k3 := heap_new w2 #[.slice none 0 0, .slice none 0 0] 27
 have s3 := World.size_alloc w2 (.cells #[.slice none 0 0, .slice none 0 0] 27)
 generalize World.alloc w2 _ = w3 at *
 have g4 := grow_alloc w3 (.cells #[vb, vl] 27)
 have k4 := heap_new w3 #[vb, vl] 27
 generalize World.alloc w3 _ = w4 at *
 rw [s3, s2, s1] at k4
 rw [s2, s1] at k3
 rw [s1] at k2
 have gA := ((g1.trans g2).trans g3).trans g4
 exact ⟨⟨gA, (((g2.trans g3).trans g4).block _ (heap_lt k1)).trans k1, ((g3.trans g4).block _ (heap_lt k2)).trans k2, (g4.block _ (heap_lt k3)).trans k3, heap_lt k4⟩, vb, vl, k4, (hd.grow gA).mono upon_l⟩
theorem putC : PutC := by
 intro S d p k y n l v u w hS hF hd hu
 obtain ⟨ab, cb, al, cl, rfl, -, -⟩ := hd.form
 obtain ⟨au, cu, rfl, -, -⟩ := bytes_src hu
 have hst := PutV.start S w d _ _ #[.int .i64 k, .int .i64 y, .int .i64 n, .slice au l.length cu] hd
 obtain ⟨E, hE⟩ : ∃ E, E = d.pairE p ⟨k, y, n, l⟩ := ⟨_, rfl⟩
 obtain ⟨D, hD⟩ : ∃ D, D = d.pairD p ⟨k, y, n, l⟩ := ⟨_, rfl⟩
 have hED : E ≠ 0 → D = d := by
  intro h; rw [hD]; unfold Dk.pairD; rw [if_neg (by rw [← hE]; exact h)]
 rw [← hE, ← hD]
 have HE : Hid _ := hE
 have HD : Hid _ := hD
 clear hE hD
 have hb16 := hF.b16
 have hl16 := hF.l16
 have hl256 : d.blocks.length ≤ 256 := by have := hF.len; omega
 have hm : d.late.length ≤ 1000 := by have := hF.few; omega
 by_cases h0 : E = 0
 ·subst h0
  clear hED
  go_enter Try.func58, Try.ntmps58
  go_wp2_with fail
  refine (put_each S d p k y n l _ _ w _ hF hu hst).mono ?_
  rw [← HE.out, ← HD.out]
  rintro e w1 ⟨rfl, hG, vb, vl, hP⟩
  obtain ⟨a5, c5, a8, c8, hv, -, -⟩ := hP.2.form
  cases hv
  have x0 := box_cell hP.1 0 _ rfl
  have x1 := box_cell hP.1 1 _ rfl
  have y0 := box_cell hG.zero 0 _ rfl
  have y1 := box_cell hG.zero 1 _ rfl
  have f0 := box_frozen hG.zero 0
  have f1 := box_frozen hG.zero 1
  have cs := cell_set
  obtain ⟨-, hp2⟩ := box_put2 hG.zero (.slice a5 D.blocks.length c5) (.slice a8 D.late.length c8)
  have gE := hp2.grow hG.grow (by omega)
  have hdE := (hP.2.but hp2 (fun h => h.elim (fun h => by have := hS _ h; omega) (fun h => by omega))).mono (upon_le (B := w.heap.size) (by omega))
  clear hst hd hG hP hp2
  go_wp2_with fail
  exact bodyPost_ret (v := .tuple #[.agg #[.slice a5 D.blocks.length c5, .slice a8 D.late.length c8], .int .i64 0]) (by simp [results, Try.results58, go_sem, y0, y1, cs]) rfl ⟨_, rfl, hdE, gE⟩
 ·have d0 : (E != 0) = true := by simp [h0]
  obtain rfl := hED h0
  clear hED h0
  go_enter Try.func58, Try.ntmps58
  go_wp2_with fail
  refine (put_each S D p k y n l _ _ w _ hF hu hst).mono ?_
  rw [← HE.out, ← HD.out]
  rintro e w1 ⟨rfl, hG, -, -, -⟩
  have x0 := box_cell hG.disk 0 _ rfl
  have x1 := box_cell hG.disk 1 _ rfl
  have hd1 := hd.grow hG.grow
  obtain ⟨vb2, vl2, hv2, hdb, hdl⟩ := hd1.p
  cases hv2
  clear hst hd hd1
  go_wp2_with fail
  clear x0 x1
  refine (ownDisk_any D _ _ _ hdb hdl hl256 hm hb16 hl16).mono ?_
  rintro e w2 ⟨v2, rfl, hA, g2⟩
  have hQ := hA.q
  obtain ⟨vb3, vl3, rfl, ho, hlt⟩ := hA.q
  obtain ⟨a5, c5, rfl⟩ := ho.form
  obtain ⟨a8, c8, rfl⟩ := hlt.form
  have hG2 := hG.on g2
  have hsz := hG.size
  have y0 := box_cell hG2.zero 0 _ rfl
  have y1 := box_cell hG2.zero 1 _ rfl
  have f0 := box_frozen hG2.zero 0
  have f1 := box_frozen hG2.zero 1
  have cs := cell_set
  obtain ⟨-, hp2⟩ := box_put2 hG2.zero (.slice a5 D.blocks.length c5) (.slice a8 D.late.length c8)
  have gE := hp2.grow hG2.grow (by omega)
  have hdE := ((hQ.s S).but hp2 (fun h => h.elim (fun h => by have := hS _ h; omega) (fun h => by omega))).mono (upon_le (B := w.heap.size) (by omega))
  clear hG hG2 hp2 hQ hA ho hlt hsz hdb hdl g2
  go_wp2_with fail
  exact bodyPost_ret (v := .tuple #[.agg #[.slice a5 D.blocks.length c5, .slice a8 D.late.length c8], .int .i64 E]) (by simp [results, Try.results58, go_sem, y0, y1, cs]) rfl ⟨_, rfl, hdE, gE⟩
theorem how_five (d : Dk) (p : Int) : 0 ≤ d.how p ∧ d.how p ≤ 5 := by
 unfold Dk.how
 repeat' split
 all_goals omega
theorem mendC : MendC := by
 intro S d p v w hS hF hd
 obtain ⟨ab, cb, al, cl, rfl, -, -⟩ := hd.form
 obtain ⟨H, hH⟩ : ∃ H, H = d.how p := ⟨_, rfl⟩
 have hbd : 0 ≤ H := by rw [hH]; exact (how_five d p).1
 obtain ⟨D, hD⟩ : ∃ D, D = d.mendD p := ⟨_, rfl⟩
 have hDf : D.Fine 902 := by rw [hD]; exact hF.mend p
 have hD1 : ¬ (2 ≤ H) → D = d := by intro h; rw [hD]; unfold Dk.mendD; rw [← hH, if_neg h]
 have hD2 : 2 ≤ H → D = d.pairD p (d.tell p) := by intro h; rw [hD]; unfold Dk.mendD; rw [← hH, if_pos h]
 obtain ⟨⟨k, y, n, l⟩, hR⟩ : ∃ R, R = d.tell p := ⟨_, rfl⟩
 have hend : D.blocks.length ≤ 1000 ∧ D.late.length ≤ 2000 := ⟨by rw [hDf.len]; omega, by have := hDf.few; omega⟩
 have HEND : Hid _ := hend
 have HX : Hid (H = d.how p ∧ D = d.mendD p) := ⟨hH, hD⟩
 have HH : Hid _ := hH
 have HR : Hid _ := hR
 rw [← hR] at hD2
 have hb16 := hF.b16
 have hl16 := hF.l16
 have hl256 : d.blocks.length ≤ 256 := by have := hF.len; omega
 have hm : d.late.length ≤ 1000 := by have := hF.few; omega
 have gW := grow_alloc2 w (.cells #[.slice ab d.blocks.length cb, .slice al d.late.length cl] 27) (.cells #[.slice none 0 0, .slice none 0 0] 27)
 have hx := hx1 w #[.slice ab d.blocks.length cb, .slice al d.late.length cl] #[.slice none 0 0, .slice none 0 0]
 have hy := hy1 w #[.slice ab d.blocks.length cb, .slice al d.late.length cl] #[.slice none 0 0, .slice none 0 0]
 have hdW := hd.grow gW
 clear hH hD hR hend hDf
 by_cases h0 : H = 0
 ·subst h0
  obtain rfl := (hD1 (by omega)).symm
  clear hD1 hD2 hbd
  go_enter Try.func36, Try.ntmps36
  go_wp2_with fail
  refine (plook_any d p _ _ (hF.mono (by omega)) hdW.p).mono ?_
  rw [← HH.out, ← HR.out]
  rintro e w1 ⟨dv, rfl, ho, g1⟩
  obtain ⟨a1, c1, rfl⟩ := own_slice ho
  have hv := bytes_own ho
  have hD1 := (g1.block _ (heap_lt hx)).trans hx
  have hZ1 := (g1.block _ (heap_lt hy)).trans hy
  have gw1 := gW.trans g1
  have g2 := grow_alloc w1 (.cells #[.int .i64 k, .int .i64 y, .int .i64 n, .slice a1 l.length c1] 66)
  have hR2 := heap_new w1 #[.int .i64 k, .int .i64 y, .int .i64 n, .slice a1 l.length c1] 66
  have hD2 := (g2.block _ (heap_lt hD1)).trans hD1
  have hZ2 := (g2.block _ (heap_lt hZ1)).trans hZ1
  have gw2 := gw1.trans g2
  have hv2 := bytes_grow hv g2
  have hd2 := hd.grow gw2
  obtain ⟨x0, x1⟩ := box2 hD2 rfl rfl
  have HSZ : Hid (w.heap.size + 1 < w1.heap.size) := heap_lt hZ1
  clear hx hy gW g1 ho hv hD1 hZ1 gw1 g2 hdW hd
  obtain ⟨vb2, vl2, hw2, hdb, hdl⟩ := hd2.p
  cases hw2
  clear hv2 hR2 hd2
  go_wp2_with fail
  clear x0 x1
  refine (ownDisk_any d _ _ _ hdb hdl hl256 hm hb16 hl16).mono ?_
  rintro e w3 ⟨v3, rfl, hA, g3⟩
  have hQ := hA.q
  obtain ⟨vb3, vl3, rfl, ho, hlt⟩ := hA.q
  obtain ⟨a5, c5, rfl⟩ := ho.form
  obtain ⟨a8, c8, rfl⟩ := hlt.form
  have hZ3 := (g3.block _ (heap_lt hZ2)).trans hZ2
  have gw3 := gw2.trans g3
  obtain ⟨y0, y1⟩ := box2 hZ3 rfl rfl
  have f0 := box_frozen hZ3 0
  have f1 := box_frozen hZ3 1
  have cs := cell_set
  obtain ⟨-, hp2⟩ := box_put2 hZ3 (.slice a5 d.blocks.length c5) (.slice a8 d.late.length c8)
  have gE := hp2.grow gw3 (by omega)
  have hdE := ((hQ.s S).but hp2 (fun h => h.elim (fun h => by have := hS _ h; omega) (fun h => by have := HSZ.out; simp at h; omega))).mono (upon_le (B := w.heap.size) (by have := HSZ.out; simp; omega))
  clear hZ2 hZ3 hD2 gw2 gw3 g3 hQ hA ho hlt hp2 hdb hdl
  go_wp2_with fail
  exact bodyPost_ret (v := .tuple #[.agg #[.slice a5 d.blocks.length c5, .slice a8 d.late.length c8], .int .i64 0]) (by simp [results, Try.results36, go_sem, y0, y1, cs]) rfl ⟨_, _, _, rfl, hdE, gE, fun _ _ => HX.out, HEND.out⟩
 ·by_cases h1 : H = 1
  ·subst h1
   obtain rfl := (hD1 (by omega)).symm
   clear hD1 hD2 hbd h0
   go_enter Try.func36, Try.ntmps36
   go_wp2_with fail
   refine (plook_any d p _ _ (hF.mono (by omega)) hdW.p).mono ?_
   rw [← HH.out, ← HR.out]
   rintro e w1 ⟨dv, rfl, ho, g1⟩
   obtain ⟨a1, c1, rfl⟩ := own_slice ho
   have hv := bytes_own ho
   have hD1 := (g1.block _ (heap_lt hx)).trans hx
   have hZ1 := (g1.block _ (heap_lt hy)).trans hy
   have gw1 := gW.trans g1
   have g2 := grow_alloc w1 (.cells #[.int .i64 k, .int .i64 y, .int .i64 n, .slice a1 l.length c1] 66)
   have hR2 := heap_new w1 #[.int .i64 k, .int .i64 y, .int .i64 n, .slice a1 l.length c1] 66
   have hD2 := (g2.block _ (heap_lt hD1)).trans hD1
   have hZ2 := (g2.block _ (heap_lt hZ1)).trans hZ1
   have gw2 := gw1.trans g2
   have hv2 := bytes_grow hv g2
   have hd2 := hd.grow gw2
   obtain ⟨x0, x1⟩ := box2 hD2 rfl rfl
   have HSZ : Hid (w.heap.size + 1 < w1.heap.size) := heap_lt hZ1
   clear hx hy gW g1 ho hv hD1 hZ1 gw1 g2 hdW hd
   obtain ⟨vb2, vl2, hw2, hdb, hdl⟩ := hd2.p
   cases hw2
   clear hv2 hR2 hd2
   go_wp2_with fail
   clear x0 x1
   refine (ownDisk_any d _ _ _ hdb hdl hl256 hm hb16 hl16).mono ?_
   rintro e w3 ⟨v3, rfl, hA, g3⟩
   have hQ := hA.q
   obtain ⟨vb3, vl3, rfl, ho, hlt⟩ := hA.q
   obtain ⟨a5, c5, rfl⟩ := ho.form
   obtain ⟨a8, c8, rfl⟩ := hlt.form
   have hZ3 := (g3.block _ (heap_lt hZ2)).trans hZ2
   have gw3 := gw2.trans g3
   obtain ⟨y0, y1⟩ := box2 hZ3 rfl rfl
   have f0 := box_frozen hZ3 0
   have f1 := box_frozen hZ3 1
   have cs := cell_set
   obtain ⟨-, hp2⟩ := box_put2 hZ3 (.slice a5 d.blocks.length c5) (.slice a8 d.late.length c8)
   have gE := hp2.grow gw3 (by omega)
   have hdE := ((hQ.s S).but hp2 (fun h => h.elim (fun h => by have := hS _ h; omega) (fun h => by have := HSZ.out; simp at h; omega))).mono (upon_le (B := w.heap.size) (by have := HSZ.out; simp; omega))
   clear hZ2 hZ3 hD2 gw2 gw3 g3 hQ hA ho hlt hp2 hdb hdl
   go_wp2_with fail
   exact bodyPost_ret (v := .tuple #[.agg #[.slice a5 d.blocks.length c5, .slice a8 d.late.length c8], .int .i64 1]) (by simp [results, Try.results36, go_sem, y0, y1, cs]) rfl ⟨_, _, _, rfl, hdE, gE, fun _ _ => HX.out, HEND.out⟩
  ·have e0 : (H == 0) = false := beq_false' h0
   have e1 : (H == 1) = false := beq_false' h1
   have HD : Hid _ := hD2 (by omega)
   clear hD1 hD2 hbd h0 h1
   go_enter Try.func36, Try.ntmps36
   go_wp2_with fail
   refine (plook_any d p _ _ (hF.mono (by omega)) hdW.p).mono ?_
   rw [← HH.out, ← HR.out]
   rintro e w1 ⟨dv, rfl, ho, g1⟩
   obtain ⟨a1, c1, rfl⟩ := own_slice ho
   have hv := bytes_own ho
   have hD1 := (g1.block _ (heap_lt hx)).trans hx
   have hZ1 := (g1.block _ (heap_lt hy)).trans hy
   have gw1 := gW.trans g1
   have g2 := grow_alloc w1 (.cells #[.int .i64 k, .int .i64 y, .int .i64 n, .slice a1 l.length c1] 66)
   have hR2 := heap_new w1 #[.int .i64 k, .int .i64 y, .int .i64 n, .slice a1 l.length c1] 66
   have hD2 := (g2.block _ (heap_lt hD1)).trans hD1
   have hZ2 := (g2.block _ (heap_lt hZ1)).trans hZ1
   have gw2 := gw1.trans g2
   have hv2 := bytes_grow hv g2
   have hd2 := hd.grow gw2
   obtain ⟨x0, x1⟩ := box2 hD2 rfl rfl
   have HSZ : Hid (w.heap.size + 1 < w1.heap.size) := heap_lt hZ1
   clear hx hy gW g1 ho hv hD1 hZ1 gw1 g2 hdW hd
   obtain ⟨r0, r1, r2, r3⟩ := box4 hR2 rfl rfl rfl rfl
   clear hR2
   go_wp2_with fail
   clear x0 x1 r0 r1 r2 r3
   refine (putC S d p k y n l _ _ _ (fun b h => by have := hS b h; have := HSZ.out; simp; omega) hF hd2 hv2).mono ?_
   rw [← HD.out]
   rintro e w3 ⟨v3, rfl, hP, g3⟩
   obtain ⟨a5, c5, a8, c8, rfl, -, -⟩ := hP.form
   have hZ3 := (g3.block _ (heap_lt hZ2)).trans hZ2
   have gw3 := gw2.trans g3
   have g4 := grow_alloc w3 (.cells #[.slice a5 D.blocks.length c5, .slice a8 D.late.length c8] 27)
   have hM4 := heap_new w3 #[.slice a5 D.blocks.length c5, .slice a8 D.late.length c8] 27
   have hZ4 := (g4.block _ (heap_lt hZ3)).trans hZ3
   have gw4 := gw3.trans g4
   obtain ⟨y0, y1⟩ := box2 hZ4 rfl rfl
   have f0 := box_frozen hZ4 0
   have f1 := box_frozen hZ4 1
   obtain ⟨m0, m1⟩ := box2 hM4 rfl rfl
   have cs := cell_set
   obtain ⟨-, hp2⟩ := box_put2 hZ4 (.slice a5 D.blocks.length c5) (.slice a8 D.late.length c8)
   have gE := hp2.grow gw4 (by omega)
   have hdE := ((hP.grow g4).but hp2 (fun h => h.elim (fun h => by have := hS _ h; omega) (fun h => by have := HSZ.out; simp at h; omega))).mono (upon_le (B := w.heap.size) (by have := HSZ.out; simp; omega))
   clear hZ2 hZ3 hZ4 hM4 hD2 gw2 gw3 gw4 g3 g4 hP hp2 hd2 hv2
   go_wp2_with fail
   exact bodyPost_ret (v := .tuple #[.agg #[.slice a5 D.blocks.length c5, .slice a8 D.late.length c8], .int .i64 H]) (by simp [results, Try.results36, go_sem, y0, y1, cs]) rfl ⟨_, _, _, rfl, hdE, gE, fun _ _ => HX.out, HEND.out⟩
end Go.Proofs.Ytlickojpmffmiac
