/-
  What the document's free and PutPair tell: a disk with both blocks of a pair written.
  Condition: the disk lies in memory, of at most 256 blocks, and the record's data do.
-/
import Derived.Test.YtgaecpdokgklpabRGet
import Derived.Test.YtgaecpdokgklpabJReg
namespace Go.Proofs.Ytgaecpdokgklpab
set_option maxRecDepth 100000
open Go.RowKit
open Go.Proofs.Ytgaecpdokgklpab.Plain Go.Proofs.Ytgaecpdokgklpab.Reg

set_option maxHeartbeats 400000 in
theorem free_any (w : World) : Calls Try.prog 42 #[] w fun e w' => e = .returned (.agg #[.int .i64 1, .int .i64 0, .int .i64 0, .slice none 0 0]) ∧ Grow w w' := by
 go_enter Try.func42, Try.ntmps42
 go_wp2
 exact bodyPost_ret (v := .agg #[.int .i64 1, .int .i64 0, .int .i64 0, .slice none 0 0]) (by simp [results, Try.results42, go_sem]) rfl ⟨rfl, grow_alloc _ _⟩

def Dk.pairE (d : Dk) (p : Int) (r : Rec) : Int := if p < 0 ∨ ((d.blocks.length / 2 : Nat) : Int) ≤ p then 3 else wrong r
def Dk.pairW (d : Dk) (p : Int) (r : Rec) : Dk := ⟨d.blocks, d.late ++ [(2 * p, blk r (2 * p)), (2 * p + 1, blk r (2 * p + 1))]⟩
def Dk.pairD (d : Dk) (p : Int) (r : Rec) : Dk := if d.pairE p r = 0 then d.pairW p r else d

/-- What holds while a disk's variable in block g is written anew. -/
def PairJ (w : World) (g i : Nat) (c rc zc : Array Value) (S : Nat → Prop) (vl : Value) (ws : List Wr) (dn : Nat → Bool) (w' : World) : Prop :=
 Grow w w' ∧ w'.heap[g + 1]? = some (.cells rc 33 (0, 0)) ∧ w'.heap[g + 1 + 1]? = some (.cells zc 25 (0, 0)) ∧ LateS S w' vl ws ∧ (dn i = false → w'.heap[g]? = some (.cells c 25 (0, 0)))
theorem PairJ.grow {w : World} {g i : Nat} {c rc zc : Array Value} {S : Nat → Prop} {vl : Value} {ws : List Wr} {dn : Nat → Bool} {w' w'' : World} (h : PairJ w g i c rc zc S vl ws dn w') (hg : Grow w' w'') : PairJ w g i c rc zc S vl ws dn w'' :=
 ⟨h.1.trans hg, (hg.block _ (heap_lt h.2.1)).trans h.2.1, (hg.block _ (heap_lt h.2.2.1)).trans h.2.2.1, h.2.2.2.1.grow hg, fun hd => (hg.block _ (heap_lt (h.2.2.2.2 hd))).trans (h.2.2.2.2 hd)⟩
def TupP (S : Nat → Prop) (vb : Value) (e : Int) (ws : List Wr) (v : Value) (w : World) : Prop := ∃ vl, v = .tuple #[.agg #[vb, vl], .int .i64 e] ∧ LateS S w vl ws
def AggP (S : Nat → Prop) (vb : Value) (ws : List Wr) (v : Value) (w : World) : Prop := ∃ vl, v = .agg #[vb, vl] ∧ LateS S w vl ws
def PutQ (S : Nat → Prop) (g : Nat) (vb : Value) (ws : List Wr) (v : Value) (w : World) : Prop := ∃ vl, v = .agg #[vb, vl] ∧ w.heap[g]? = some (.cells #[vb, vl] 25 (0, 0)) ∧ LateS S w vl ws
theorem st_tup (S : Nat → Prop) (vb : Value) (e : Int) (ws : List Wr) : Stable (TupP S vb e ws) := by
 rintro v w w' hg ⟨vl, h1, h2⟩; exact ⟨vl, h1, h2.grow hg⟩
theorem st_aggl (S : Nat → Prop) (vb : Value) (ws : List Wr) : Stable (AggP S vb ws) := by
 rintro v w w' hg ⟨vl, h1, h2⟩; exact ⟨vl, h1, h2.grow hg⟩
theorem st_putq (S : Nat → Prop) (g : Nat) (vb : Value) (ws : List Wr) (i : Nat) : StableW (pl1 i (fun _ v w => PutQ S g vb ws v w)) := by
 rintro v ds w w' hg ⟨vl, h1, h2, h3⟩
 exact ⟨vl, h1, (hg.block _ (heap_lt h2)).trans h2, h3.grow hg⟩
theorem sp_tup {S : Nat → Prop} {vb : Value} {e : Int} {ws : List Wr} {g : Nat} (hn : ¬ S g) {v : Value} {w w' : World} (hs : GrowBut g w w') (h : TupP S vb e ws v w) : TupP S vb e ws v w' := by
 obtain ⟨vl, h1, h2⟩ := h; exact ⟨vl, h1, h2.but hs hn⟩
theorem sp_aggl {S : Nat → Prop} {vb : Value} {ws : List Wr} {g : Nat} (hn : ¬ S g) {v : Value} {w w' : World} (hs : GrowBut g w w') (h : AggP S vb ws v w) : AggP S vb ws v w' := by
 obtain ⟨vl, h1, h2⟩ := h; exact ⟨vl, h1, h2.but hs hn⟩
/-- Two cells of a block are written. -/
theorem box_put2 {w : World} {g : Nat} {T : TypeId} {f} {c0 c1 : Value} (h : w.heap[g]? = some (.cells #[c0, c1] T f)) (x0 x1 : Value) :
  ((w.setCell ⟨g, 0, none⟩ x0).setCell ⟨g, 1, none⟩ x1).heap[g]? = some (.cells #[x0, x1] T f) ∧ GrowBut g w ((w.setCell ⟨g, 0, none⟩ x0).setCell ⟨g, 1, none⟩ x1) := by
 refine ⟨?_, ((GrowBut.refl g w).set _ _ _).set _ _ _⟩
 have h1 := heap_set (heap_set h 0 x0) 1 x1
 simpa using h1

theorem PairJ.size {w : World} {g i B : Nat} {c rc zc : Array Value} {S : Nat → Prop} {vl : Value} {ws : List Wr} {dn : Nat → Bool} {w' : World} (hB : B ≤ g + 1 + 1 + 1) (h : PairJ w g i c rc zc S vl ws dn w') : B ≤ w'.heap.size := by
 have := heap_lt h.2.2.1; omega

set_option maxHeartbeats 4000000 in
theorem putPair_yes (S : Nat → Prop) (d : Dk) (p : Int) (k y n : Int) (l : List UInt8) (vb vl v : Value) (w : World) (hS : ∀ b, S b → b < w.heap.size) (hb : BlocksP w vb d.blocks) (hl : LateS S w vl d.late) (hv : Bytes w v l)
  (h0 : 0 ≤ p) (h1 : p < ((d.blocks.length / 2 : Nat) : Int)) (hw : wrong ⟨k, y, n, l⟩ = 0) (hlen : d.blocks.length ≤ 256) (hm : d.late.length ≤ 999990) :
  Calls Try.prog 32 #[.agg #[vb, vl], .int .i64 p, .agg #[.int .i64 k, .int .i64 y, .int .i64 n, v]] w fun e w' => ∃ vl', e = .returned (.tuple #[.agg #[vb, vl'], .int .i64 0]) ∧ LateS (Upon S w.heap.size) w' vl' (d.pairW p ⟨k, y, n, l⟩).late ∧ Grow w w' := by
 obtain ⟨ab, cb, rfl⟩ := hb.form
 obtain ⟨al, cl, rfl⟩ := hl.p.form
 obtain ⟨ao, cp, rfl, -, -⟩ := bytes_src hv
 have HR : Hid (wrong ⟨k, y, n, l⟩ = 0) := hw
 have HL : Hid (l.length ≤ 8) := (right_bd hw).2.2.2.2.2.2
 clear hw
 have hq : (d.blocks.length : Int).tdiv 2 = ((d.blocks.length / 2 : Nat) : Int) := by rw [Int.tdiv_eq_ediv_of_nonneg (by omega)]; omega
 have h2p : 2 * p + 1 < (d.blocks.length : Int) := by omega
 go_enter Try.func32, Try.ntmps32
 go_wp2_with fail
 refine (rwrong_any k y n l _ _ (by exact bytes_grow hv ((grow_alloc2 _ _ _).trans (grow_alloc _ _)))).mono ?_
 rw [HR.out]
 rintro e w1 ⟨rfl, g1⟩
 have gw : Grow w w1 := ((grow_alloc2 _ _ _).trans (grow_alloc _ _)).trans g1
 have hbD : w1.heap[w.heap.size]? = some (.cells #[.slice ab d.blocks.length cb, .slice al d.late.length cl] 25 (0, 0)) :=
  (((grow_alloc2 _ _ _).trans g1).block _ (by simp)).trans (heap_new _ _ _)
 have hbR : w1.heap[w.heap.size + 1]? = some (.cells #[.int .i64 k, .int .i64 y, .int .i64 n, .slice ao l.length cp] 33 (0, 0)) := by
  have h := heap_new (w.alloc (.cells #[.slice ab d.blocks.length cb, .slice al d.late.length cl] 25)) #[.int .i64 k, .int .i64 y, .int .i64 n, .slice ao l.length cp] 33
  rw [World.size_alloc] at h
  exact (((grow_alloc _ _).trans g1).block _ (by simp)).trans h
 have hbZ : w1.heap[w.heap.size + 1 + 1]? = some (.cells #[.slice none 0 0, .slice none 0 0] 25 (0, 0)) := by
  have h := heap_new ((w.alloc (.cells #[.slice ab d.blocks.length cb, .slice al d.late.length cl] 25)).alloc (.cells #[.int .i64 k, .int .i64 y, .int .i64 n, .slice ao l.length cp] 33)) #[.slice none 0 0, .slice none 0 0] 25
  rw [World.size_alloc, World.size_alloc] at h
  exact (g1.block _ (by simp)).trans h
 clear g1
 obtain ⟨B, hBe⟩ : ∃ B, B = w.heap.size + 1 + 1 + 1 := ⟨_, rfl⟩
 have hB : B ≤ w.heap.size + 1 + 1 + 1 := by omega
 have hnB : ¬ Upon S B w.heap.size := by
  rintro (h | h)
  ·have := hS _ h; omega
  ·omega
 have hnZ : ¬ Upon S B (w.heap.size + 1 + 1) := by
  rintro (h | h)
  ·have := hS _ h; omega
  ·omega
 have hBw : w.heap.size ≤ B := by omega
 clear hBe
 have hlate : LateS (Upon S B) w1 (.slice al d.late.length cl) d.late := (hl.mono upon_l).grow gw
 go_wp2_with fail
 refine wp_region_v [pl (ex (.agg #[.slice ab d.blocks.length cb, .slice al d.late.length cl])), pl (ex (.int .i64 p)), pl (ex (.int .i64 (2 * p))), pl (ex (.agg #[.int .i64 k, .int .i64 y, .int .i64 n, .slice ao l.length cp])), pl (ex (.int .i64 p)), pl (ex (.int .i64 (2 * p))), pl ((fun v w => BytesS (Upon S B) w v (blk ⟨k, y, n, l⟩ (2 * p)))), pl (TupP (Upon S B) (.slice ab d.blocks.length cb) 0 (d.late ++ [(2 * p, blk ⟨k, y, n, l⟩ (2 * p))])), pl (TupP (Upon S B) (.slice ab d.blocks.length cb) 0 (d.late ++ [(2 * p, blk ⟨k, y, n, l⟩ (2 * p))])), pl (AggP (Upon S B) (.slice ab d.blocks.length cb) (d.late ++ [(2 * p, blk ⟨k, y, n, l⟩ (2 * p))])), pl (ex (.int .i64 0)), pl1 9 ((fun _ v w' => PutQ (Upon S B) w.heap.size (.slice ab d.blocks.length cb) (d.late ++ [(2 * p, blk ⟨k, y, n, l⟩ (2 * p))]) v w'))] [none, none, none, none, none, none, none, none, none, none, none, some ((fun w1 w2 => GrowBut w.heap.size w1 w2))] (PairJ w w.heap.size 11 #[.slice ab d.blocks.length cb, .slice al d.late.length cl] #[.int .i64 k, .int .i64 y, .int .i64 n, .slice ao l.length cp] #[.slice none 0 0, .slice none 0 0] (Upon S B) (.slice al d.late.length cl) d.late) (by kernel_rfl) (by kernel_rfl) ⟨st_pl (st_ex _), st_pl (st_ex _), st_pl (st_ex _), st_pl (st_ex _), st_pl (st_ex _), st_pl (st_ex _), st_pl (st_bytesS _ _), st_pl (st_tup _ _ _ _), st_pl (st_tup _ _ _ _), st_pl (st_aggl _ _ _), st_pl (st_ex _), st_putq _ _ _ _ _, trivial⟩ ⟨⟨(fun w1 => GrowBut.refl _ w1), ⟨.inr (fun _ _ _ _ _ h => h), .inr (fun _ _ _ _ _ h => h), .inr (fun _ _ _ _ _ h => h), .inr (fun _ _ _ _ _ h => h), .inr (fun _ _ _ _ _ h => h), .inr (fun _ _ _ _ _ h => h), .inr ((fun v _ w w' hs hq => hq.but hs hnB)), .inr ((fun v _ w w' hs hq => sp_tup hnB hs hq)), .inr ((fun v _ w w' hs hq => sp_tup hnB hs hq)), .inr ((fun v _ w w' hs hq => sp_aggl hnB hs hq)), .inr (fun _ _ _ _ _ h => h), .inl (by kernel_rfl), trivial⟩⟩, trivial⟩ ⟨(fun h => by cases h), (fun h => by cases h), (fun h => by cases h), (fun h => by cases h), (fun h => by cases h), (fun h => by cases h), (fun h => by cases h), (fun h => by cases h), (fun h => by cases h), (fun h => by cases h), (fun h => by cases h), fun _ _ _ _ h => h, trivial⟩ ⟨gw.drew, hbR, hbZ, hlate, fun _ => hbD⟩ ?_ ?_
 ·refine ⟨?_, ?_, ?_, ?_, ?_, ?_, ?_, ?_, ?_, ?_, ?_, ?_, trivial⟩
  ·refine needv_plain rfl (fun a w' dn hr hg hin => ?_)
   have e3 : a.eval (.tmp 3) = .pointer (some ⟨w.heap.size, 0, none⟩) := insw_ext hin 3 (by kernel_rfl)
   have na := hr.not1 7 (by kernel_rfl)
   have nb := hr.notBy 11 7 na (by kernel_rfl)
   have z0 := box_cell (hg.2.2.2.2 nb) 0 _ rfl
   have z1 := box_cell (hg.2.2.2.2 nb) 1 _ rfl
   refine uponw_val ?_ hg rfl
   clear hin hg hr
   obtain ⟨ek, ef⟩ := evs a
   generalize a.eval = ev at *
   go_simp
   all_goals first | omega | (intro _; omega) | go_arith
  ·refine needv_plain rfl (fun a w' dn hr hg hin => ?_)
   have e : a.eval (.tmp 1) = .int .i64 p := insw_ext hin 1 (by kernel_rfl)
   exact uponw_move rfl hg e
  ·refine needv_plain rfl (fun a w' dn hr hg hin => ?_)
   have e28 : a.eval (.tmp 28) = _ := insw_on hin 1 (by kernel_rfl)
   refine uponw_val ?_ hg rfl
   clear hin hg
   obtain ⟨ek, ef⟩ := evs a
   generalize a.eval = ev at *
   go_simp
   all_goals first | omega | (intro _; omega) | go_arith
  ·refine needv_plain rfl (fun a w' dn hr hg hin => ?_)
   have e5 : a.eval (.tmp 5) = .pointer (some ⟨w.heap.size + 1, 0, none⟩) := insw_ext hin 5 (by kernel_rfl)
   have z0 := box_cell hg.2.1 0 _ rfl
   have z1 := box_cell hg.2.1 1 _ rfl
   have z2 := box_cell hg.2.1 2 _ rfl
   have z3 := box_cell hg.2.1 3 _ rfl
   refine uponw_val ?_ hg rfl
   clear hin hg hr
   obtain ⟨ek, ef⟩ := evs a
   generalize a.eval = ev at *
   go_simp
   all_goals first | omega | (intro _; omega) | go_arith
  ·refine needv_plain rfl (fun a w' dn hr hg hin => ?_)
   have e : a.eval (.tmp 1) = .int .i64 p := insw_ext hin 1 (by kernel_rfl)
   exact uponw_move rfl hg e
  ·refine needv_plain rfl (fun a w' dn hr hg hin => ?_)
   have e31 : a.eval (.tmp 31) = _ := insw_on hin 4 (by kernel_rfl)
   refine uponw_val ?_ hg rfl
   clear hin hg
   obtain ⟨ek, ef⟩ := evs a
   generalize a.eval = ev at *
   go_simp
   all_goals first | omega | (intro _; omega) | go_arith
  ·refine needv_plain rfl (fun a w' dn hr hg hin => ?_)
   have e30 : a.eval (.tmp 30) = _ := insw_on hin 3 (by kernel_rfl)
   have e32 : a.eval (.tmp 32) = _ := insw_on hin 5 (by kernel_rfl)
   refine uponw_call (f := 66) (args := #[.agg #[.int .i64 k, .int .i64 y, .int .i64 n, .slice ao l.length cp], .int .i64 (2 * p)]) ?_ ((rbytes_ok k y n (2 * p) l _ w' (bytes_grow hv hg.1) HR.out (by omega) (by omega)).mono ?_)
   ·clear hin hg hr
    obtain ⟨ek, ef⟩ := evs a
    generalize a.eval = ev at *
    go_simp
    all_goals first | omega | (intro _; omega) | go_arith
   ·rintro e w2 ⟨v', rfl, ho, g2⟩
    rw [← blk_length ⟨k, y, n, l⟩ (2 * p) HL.out] at ho
    have hz : B ≤ w'.heap.size := PairJ.size hB hg
    exact ⟨_, rfl, g2, PairJ.grow hg g2, (own_s S ho).mono (upon_le hz)⟩
  ·refine needv_plain rfl (fun a w' dn hr hg hin => ?_)
   have e27 : a.eval (.tmp 27) = _ := insw_on hin 0 (by kernel_rfl)
   have e29 : a.eval (.tmp 29) = _ := insw_on hin 2 (by kernel_rfl)
   have e33 : ((fun v w => BytesS (Upon S B) w v (blk ⟨k, y, n, l⟩ (2 * p)))) (a.eval (.tmp 33)) w' := insw_on hin 6 (by kernel_rfl)
   obtain ⟨av, cv, hev, -, -⟩ := bytes_src e33.p
   rw [hev] at e33
   have hz : B ≤ w'.heap.size := PairJ.size hB hg
   refine uponw_call (f := 65) (args := #[.agg #[.slice ab d.blocks.length cb, .slice al d.late.length cl], .int .i64 (2 * p), .slice av (blk ⟨k, y, n, l⟩ (2 * p)).length cv]) ?_ ((putBlock_yes (Upon S B) ⟨d.blocks, d.late⟩ (2 * p) (blk ⟨k, y, n, l⟩ (2 * p)) _ _ _ w' (hb.grow hg.1) hg.2.2.2.1 e33 (by omega) (by show (2 * p) < (d.blocks.length : Int); omega) (blk_length _ _ HL.out) (by show d.late.length ≤ _; omega)).mono ?_)
   ·clear hin hg hr e33
    generalize (blk ⟨k, y, n, l⟩ (2 * p)).length = bl at *
    obtain ⟨ek, ef⟩ := evs a
    generalize a.eval = ev at *
    go_simp
    all_goals first | omega | (intro _; omega) | go_arith
   ·rintro e w2 ⟨vl', rfl, hlt, g2⟩
    exact ⟨_, rfl, g2, PairJ.grow hg g2, vl', rfl, hlt.mono (fun b hb => hb.elim (fun x => x) (fun x => .inr (Nat.le_trans hz x)))⟩
  ·refine needv_plain rfl (fun a w' dn hr hg hin => ?_)
   have e : (TupP (Upon S B) (.slice ab d.blocks.length cb) 0 (d.late ++ [(2 * p, blk ⟨k, y, n, l⟩ (2 * p))])) (a.eval (.tmp 34)) w' := insw_on hin 7 (by kernel_rfl)
   exact uponw_move rfl hg e
  ·refine needv_plain rfl (fun a w' dn hr hg hin => ?_)
   have e26 : (TupP (Upon S B) (.slice ab d.blocks.length cb) 0 (d.late ++ [(2 * p, blk ⟨k, y, n, l⟩ (2 * p))])) (a.eval (.tmp 26)) w' := insw_on hin 8 (by kernel_rfl)
   obtain ⟨vl', hvl, hlt⟩ := e26
   refine uponw_val (v := .agg #[.slice ab d.blocks.length cb, vl']) ?_ hg ⟨vl', rfl, hlt⟩
   clear hin hg hr hlt
   obtain ⟨ek, ef⟩ := evs a
   generalize a.eval = ev at *
   go_simp
   all_goals first | omega | (intro _; omega) | go_arith
  ·refine needv_plain rfl (fun a w' dn hr hg hin => ?_)
   have e26 : (TupP (Upon S B) (.slice ab d.blocks.length cb) 0 (d.late ++ [(2 * p, blk ⟨k, y, n, l⟩ (2 * p))])) (a.eval (.tmp 26)) w' := insw_on hin 8 (by kernel_rfl)
   obtain ⟨vl', hvl, hlt⟩ := e26
   refine uponw_val ?_ hg rfl
   clear hin hg hr hlt
   obtain ⟨ek, ef⟩ := evs a
   generalize a.eval = ev at *
   go_simp
   all_goals first | omega | (intro _; omega) | go_arith
  ·refine needv_plain rfl (fun a w' dn hr hg hin => ?_)
   have e3 : a.eval (.tmp 3) = .pointer (some ⟨w.heap.size, 0, none⟩) := insw_ext hin 3 (by kernel_rfl)
   have e35 : (AggP (Upon S B) (.slice ab d.blocks.length cb) (d.late ++ [(2 * p, blk ⟨k, y, n, l⟩ (2 * p))])) (a.eval (.tmp 35)) w' := insw_on hin 9 (by kernel_rfl)
   obtain ⟨vl', hvl, hlt⟩ := e35
   obtain ⟨a2, c2, rfl⟩ := hlt.p.form
   have hh := hg.2.2.2.2 hr.un
   obtain ⟨hp1, hp2⟩ := box_put2 hh (.slice ab d.blocks.length cb) (.slice a2 (d.late ++ [(2 * p, blk ⟨k, y, n, l⟩ (2 * p))]).length c2)
   obtain ⟨y0, y1⟩ := box2 hh rfl rfl
   have f0 := box_frozen hh 0
   have f1 := box_frozen hh 1
   have cs := cell_set
   refine uponw_skip (w' := _) ?_ hp2 ⟨hp2.grow hg.1 (Nat.le_refl _), (hp2.block _ (heap_lt hg.2.1) (by omega)).trans hg.2.1, (hp2.block _ (heap_lt hg.2.2.1) (by omega)).trans hg.2.2.1, hg.2.2.2.1.but hp2 hnB, fun h => by simp [upd] at h⟩ ⟨_, hvl, hp1, hlt.but hp2 hnB⟩
   clear hin hg hr hp1 hp2 hlt hh
   generalize (d.late ++ [(2 * p, blk ⟨k, y, n, l⟩ (2 * p))]).length = nl at *
   obtain ⟨ek, ef⟩ := evs a
   generalize a.eval = ev at *
   go_simp
   all_goals first | omega | (intro _; omega) | go_arith
 ·intro vs w' dn hdn hg ht
  obtain ⟨q27, q28, q29, q30, q31, q32, q33, q34, q26, q35, q36, qo11, -⟩ := ht
  have r27 : vs 0 = .agg #[.slice ab d.blocks.length cb, .slice al d.late.length cl] := q27
  have r28 : vs 1 = .int .i64 p := q28
  have r29 : vs 2 = .int .i64 (2 * p) := q29
  have r30 : vs 3 = .agg #[.int .i64 k, .int .i64 y, .int .i64 n, .slice ao l.length cp] := q30
  have r31 : vs 4 = .int .i64 p := q31
  have r32 : vs 5 = .int .i64 (2 * p) := q32
  replace q33 : ((fun v w => BytesS (Upon S B) w v (blk ⟨k, y, n, l⟩ (2 * p)))) (vs 6) w' := q33
  replace q34 : (TupP (Upon S B) (.slice ab d.blocks.length cb) 0 (d.late ++ [(2 * p, blk ⟨k, y, n, l⟩ (2 * p))])) (vs 7) w' := q34
  replace q26 : (TupP (Upon S B) (.slice ab d.blocks.length cb) 0 (d.late ++ [(2 * p, blk ⟨k, y, n, l⟩ (2 * p))])) (vs 8) w' := q26
  replace q35 : (AggP (Upon S B) (.slice ab d.blocks.length cb) (d.late ++ [(2 * p, blk ⟨k, y, n, l⟩ (2 * p))])) (vs 9) w' := q35
  have r36 : vs 10 = .int .i64 0 := q36
  replace qo11 : ((fun _ v w' => PutQ (Upon S B) w.heap.size (.slice ab d.blocks.length cb) (d.late ++ [(2 * p, blk ⟨k, y, n, l⟩ (2 * p))]) v w')) (vs 11) (vs 9) w' := qo11
  clear q27 q28 q29 q30 q31 q32 q36
  simp only [putAll, Act.put, List.setIfInBounds_toArray, List.set_cons_zero, List.set_cons_succ, Nat.reduceAdd, r27, r28, r29, r30, r31, r32, r36]
  clear r27 r28 r29 r30 r31 r32 r36
  obtain ⟨vl1, hv1, hb1, hl1⟩ := qo11
  obtain ⟨a1, c1, rfl⟩ := hl1.p.form
  have gw2 := hg.1
  have hbR2 := hg.2.1
  have hbZ2 := hg.2.2.1
  clear hg q33 q34 q26 q35 gw hbR hbZ hbD hlate hdn
  have gw := gw2
  have hbR := hbR2
  have hbZ := hbZ2
  have hbD := hb1
  have hlate := hl1
  clear gw2 hbR2 hbZ2 hb1 hl1
  have hm2 : (d.late ++ [(2 * p, blk ⟨k, y, n, l⟩ (2 * p))]).length ≤ 1000000 := by simp; omega
  rw [hv1]
  clear hv1
  generalize vs 6 = u6
  generalize vs 7 = u7
  generalize vs 8 = u8
  go_wp2_with fail
  refine wp_region_v [pl (ex (.agg #[.slice ab d.blocks.length cb, .slice a1 (d.late ++ [(2 * p, blk ⟨k, y, n, l⟩ (2 * p))]).length c1])), pl (ex (.int .i64 p)), pl (ex (.int .i64 (2 * p))), pl (ex (.int .i64 (2 * p + 1))), pl (ex (.agg #[.int .i64 k, .int .i64 y, .int .i64 n, .slice ao l.length cp])), pl (ex (.int .i64 p)), pl (ex (.int .i64 (2 * p))), pl (ex (.int .i64 (2 * p + 1))), pl ((fun v w => BytesS (Upon S B) w v (blk ⟨k, y, n, l⟩ (2 * p + 1)))), pl (TupP (Upon S B) (.slice ab d.blocks.length cb) 0 (d.late ++ [(2 * p, blk ⟨k, y, n, l⟩ (2 * p))] ++ [(2 * p + 1, blk ⟨k, y, n, l⟩ (2 * p + 1))])), pl (TupP (Upon S B) (.slice ab d.blocks.length cb) 0 (d.late ++ [(2 * p, blk ⟨k, y, n, l⟩ (2 * p))] ++ [(2 * p + 1, blk ⟨k, y, n, l⟩ (2 * p + 1))])), pl (AggP (Upon S B) (.slice ab d.blocks.length cb) (d.late ++ [(2 * p, blk ⟨k, y, n, l⟩ (2 * p))] ++ [(2 * p + 1, blk ⟨k, y, n, l⟩ (2 * p + 1))])), pl (ex (.int .i64 0)), pl1 11 ((fun _ v w' => PutQ (Upon S B) w.heap.size (.slice ab d.blocks.length cb) (d.late ++ [(2 * p, blk ⟨k, y, n, l⟩ (2 * p))] ++ [(2 * p + 1, blk ⟨k, y, n, l⟩ (2 * p + 1))]) v w'))] [none, none, none, none, none, none, none, none, none, none, none, none, none, some ((fun w1 w2 => GrowBut w.heap.size w1 w2))] (PairJ w w.heap.size 13 #[.slice ab d.blocks.length cb, .slice a1 (d.late ++ [(2 * p, blk ⟨k, y, n, l⟩ (2 * p))]).length c1] #[.int .i64 k, .int .i64 y, .int .i64 n, .slice ao l.length cp] #[.slice none 0 0, .slice none 0 0] (Upon S B) (.slice a1 (d.late ++ [(2 * p, blk ⟨k, y, n, l⟩ (2 * p))]).length c1) (d.late ++ [(2 * p, blk ⟨k, y, n, l⟩ (2 * p))])) (by kernel_rfl) (by kernel_rfl) ⟨st_pl (st_ex _), st_pl (st_ex _), st_pl (st_ex _), st_pl (st_ex _), st_pl (st_ex _), st_pl (st_ex _), st_pl (st_ex _), st_pl (st_ex _), st_pl (st_bytesS _ _), st_pl (st_tup _ _ _ _), st_pl (st_tup _ _ _ _), st_pl (st_aggl _ _ _), st_pl (st_ex _), st_putq _ _ _ _ _, trivial⟩ ⟨⟨(fun w1 => GrowBut.refl _ w1), ⟨.inr (fun _ _ _ _ _ h => h), .inr (fun _ _ _ _ _ h => h), .inr (fun _ _ _ _ _ h => h), .inr (fun _ _ _ _ _ h => h), .inr (fun _ _ _ _ _ h => h), .inr (fun _ _ _ _ _ h => h), .inr (fun _ _ _ _ _ h => h), .inr (fun _ _ _ _ _ h => h), .inr ((fun v _ w w' hs hq => hq.but hs hnB)), .inr ((fun v _ w w' hs hq => sp_tup hnB hs hq)), .inr ((fun v _ w w' hs hq => sp_tup hnB hs hq)), .inr ((fun v _ w w' hs hq => sp_aggl hnB hs hq)), .inr (fun _ _ _ _ _ h => h), .inl (by kernel_rfl), trivial⟩⟩, trivial⟩ ⟨(fun h => by cases h), (fun h => by cases h), (fun h => by cases h), (fun h => by cases h), (fun h => by cases h), (fun h => by cases h), (fun h => by cases h), (fun h => by cases h), (fun h => by cases h), (fun h => by cases h), (fun h => by cases h), (fun h => by cases h), (fun h => by cases h), fun _ _ _ _ h => h, trivial⟩ ⟨gw.drew, hbR, hbZ, hlate, fun _ => hbD⟩ ?_ ?_
  ·refine ⟨?_, ?_, ?_, ?_, ?_, ?_, ?_, ?_, ?_, ?_, ?_, ?_, ?_, ?_, trivial⟩
   ·refine needv_plain rfl (fun a w' dn hr hg hin => ?_)
    have e3 : a.eval (.tmp 3) = .pointer (some ⟨w.heap.size, 0, none⟩) := insw_ext hin 3 (by kernel_rfl)
    have na := hr.not1 9 (by kernel_rfl)
    have nb := hr.notBy 13 9 na (by kernel_rfl)
    have z0 := box_cell (hg.2.2.2.2 nb) 0 _ rfl
    have z1 := box_cell (hg.2.2.2.2 nb) 1 _ rfl
    refine uponw_val ?_ hg rfl
    clear hin hg hr
    obtain ⟨ek, ef⟩ := evs a
    generalize a.eval = ev at *
    go_simp
    all_goals first | omega | (intro _; omega) | go_arith
   ·refine needv_plain rfl (fun a w' dn hr hg hin => ?_)
    have e : a.eval (.tmp 1) = .int .i64 p := insw_ext hin 1 (by kernel_rfl)
    exact uponw_move rfl hg e
   ·refine needv_plain rfl (fun a w' dn hr hg hin => ?_)
    have e39 : a.eval (.tmp 39) = _ := insw_on hin 1 (by kernel_rfl)
    refine uponw_val ?_ hg rfl
    clear hin hg
    obtain ⟨ek, ef⟩ := evs a
    generalize a.eval = ev at *
    go_simp
    all_goals first | omega | (intro _; omega) | go_arith
   ·refine needv_plain rfl (fun a w' dn hr hg hin => ?_)
    have e40 : a.eval (.tmp 40) = _ := insw_on hin 2 (by kernel_rfl)
    refine uponw_val ?_ hg rfl
    clear hin hg
    obtain ⟨ek, ef⟩ := evs a
    generalize a.eval = ev at *
    go_simp
    all_goals first | omega | (intro _; omega) | go_arith
   ·refine needv_plain rfl (fun a w' dn hr hg hin => ?_)
    have e5 : a.eval (.tmp 5) = .pointer (some ⟨w.heap.size + 1, 0, none⟩) := insw_ext hin 5 (by kernel_rfl)
    have z0 := box_cell hg.2.1 0 _ rfl
    have z1 := box_cell hg.2.1 1 _ rfl
    have z2 := box_cell hg.2.1 2 _ rfl
    have z3 := box_cell hg.2.1 3 _ rfl
    refine uponw_val ?_ hg rfl
    clear hin hg hr
    obtain ⟨ek, ef⟩ := evs a
    generalize a.eval = ev at *
    go_simp
    all_goals first | omega | (intro _; omega) | go_arith
   ·refine needv_plain rfl (fun a w' dn hr hg hin => ?_)
    have e : a.eval (.tmp 1) = .int .i64 p := insw_ext hin 1 (by kernel_rfl)
    exact uponw_move rfl hg e
   ·refine needv_plain rfl (fun a w' dn hr hg hin => ?_)
    have e43 : a.eval (.tmp 43) = _ := insw_on hin 5 (by kernel_rfl)
    refine uponw_val ?_ hg rfl
    clear hin hg
    obtain ⟨ek, ef⟩ := evs a
    generalize a.eval = ev at *
    go_simp
    all_goals first | omega | (intro _; omega) | go_arith
   ·refine needv_plain rfl (fun a w' dn hr hg hin => ?_)
    have e44 : a.eval (.tmp 44) = _ := insw_on hin 6 (by kernel_rfl)
    refine uponw_val ?_ hg rfl
    clear hin hg
    obtain ⟨ek, ef⟩ := evs a
    generalize a.eval = ev at *
    go_simp
    all_goals first | omega | (intro _; omega) | go_arith
   ·refine needv_plain rfl (fun a w' dn hr hg hin => ?_)
    have e42 : a.eval (.tmp 42) = _ := insw_on hin 4 (by kernel_rfl)
    have e45 : a.eval (.tmp 45) = _ := insw_on hin 7 (by kernel_rfl)
    refine uponw_call (f := 66) (args := #[.agg #[.int .i64 k, .int .i64 y, .int .i64 n, .slice ao l.length cp], .int .i64 (2 * p + 1)]) ?_ ((rbytes_ok k y n (2 * p + 1) l _ w' (bytes_grow hv hg.1) HR.out (by omega) (by omega)).mono ?_)
    ·clear hin hg hr
     obtain ⟨ek, ef⟩ := evs a
     generalize a.eval = ev at *
     go_simp
     all_goals first | omega | (intro _; omega) | go_arith
    ·rintro e w2 ⟨v', rfl, ho, g2⟩
     rw [← blk_length ⟨k, y, n, l⟩ (2 * p + 1) HL.out] at ho
     have hz : B ≤ w'.heap.size := PairJ.size hB hg
     exact ⟨_, rfl, g2, PairJ.grow hg g2, (own_s S ho).mono (upon_le hz)⟩
   ·refine needv_plain rfl (fun a w' dn hr hg hin => ?_)
    have e38 : a.eval (.tmp 38) = _ := insw_on hin 0 (by kernel_rfl)
    have e41 : a.eval (.tmp 41) = _ := insw_on hin 3 (by kernel_rfl)
    have e46 : ((fun v w => BytesS (Upon S B) w v (blk ⟨k, y, n, l⟩ (2 * p + 1)))) (a.eval (.tmp 46)) w' := insw_on hin 8 (by kernel_rfl)
    obtain ⟨av, cv, hev, -, -⟩ := bytes_src e46.p
    rw [hev] at e46
    have hz : B ≤ w'.heap.size := PairJ.size hB hg
    refine uponw_call (f := 65) (args := #[.agg #[.slice ab d.blocks.length cb, .slice a1 (d.late ++ [(2 * p, blk ⟨k, y, n, l⟩ (2 * p))]).length c1], .int .i64 (2 * p + 1), .slice av (blk ⟨k, y, n, l⟩ (2 * p + 1)).length cv]) ?_ ((putBlock_yes (Upon S B) ⟨d.blocks, (d.late ++ [(2 * p, blk ⟨k, y, n, l⟩ (2 * p))])⟩ (2 * p + 1) (blk ⟨k, y, n, l⟩ (2 * p + 1)) _ _ _ w' (hb.grow hg.1) hg.2.2.2.1 e46 (by omega) (by show (2 * p + 1) < (d.blocks.length : Int); omega) (blk_length _ _ HL.out) (by exact hm2)).mono ?_)
    ·clear hin hg hr e46
     generalize (blk ⟨k, y, n, l⟩ (2 * p + 1)).length = bl at *
     obtain ⟨ek, ef⟩ := evs a
     generalize a.eval = ev at *
     go_simp
     all_goals first | omega | (intro _; omega) | go_arith
    ·rintro e w2 ⟨vl', rfl, hlt, g2⟩
     exact ⟨_, rfl, g2, PairJ.grow hg g2, vl', rfl, hlt.mono (fun b hb => hb.elim (fun x => x) (fun x => .inr (Nat.le_trans hz x)))⟩
   ·refine needv_plain rfl (fun a w' dn hr hg hin => ?_)
    have e : (TupP (Upon S B) (.slice ab d.blocks.length cb) 0 (d.late ++ [(2 * p, blk ⟨k, y, n, l⟩ (2 * p))] ++ [(2 * p + 1, blk ⟨k, y, n, l⟩ (2 * p + 1))])) (a.eval (.tmp 47)) w' := insw_on hin 9 (by kernel_rfl)
    exact uponw_move rfl hg e
   ·refine needv_plain rfl (fun a w' dn hr hg hin => ?_)
    have e37 : (TupP (Upon S B) (.slice ab d.blocks.length cb) 0 (d.late ++ [(2 * p, blk ⟨k, y, n, l⟩ (2 * p))] ++ [(2 * p + 1, blk ⟨k, y, n, l⟩ (2 * p + 1))])) (a.eval (.tmp 37)) w' := insw_on hin 10 (by kernel_rfl)
    obtain ⟨vl', hvl, hlt⟩ := e37
    refine uponw_val (v := .agg #[.slice ab d.blocks.length cb, vl']) ?_ hg ⟨vl', rfl, hlt⟩
    clear hin hg hr hlt
    obtain ⟨ek, ef⟩ := evs a
    generalize a.eval = ev at *
    go_simp
    all_goals first | omega | (intro _; omega) | go_arith
   ·refine needv_plain rfl (fun a w' dn hr hg hin => ?_)
    have e37 : (TupP (Upon S B) (.slice ab d.blocks.length cb) 0 (d.late ++ [(2 * p, blk ⟨k, y, n, l⟩ (2 * p))] ++ [(2 * p + 1, blk ⟨k, y, n, l⟩ (2 * p + 1))])) (a.eval (.tmp 37)) w' := insw_on hin 10 (by kernel_rfl)
    obtain ⟨vl', hvl, hlt⟩ := e37
    refine uponw_val ?_ hg rfl
    clear hin hg hr hlt
    obtain ⟨ek, ef⟩ := evs a
    generalize a.eval = ev at *
    go_simp
    all_goals first | omega | (intro _; omega) | go_arith
   ·refine needv_plain rfl (fun a w' dn hr hg hin => ?_)
    have e3 : a.eval (.tmp 3) = .pointer (some ⟨w.heap.size, 0, none⟩) := insw_ext hin 3 (by kernel_rfl)
    have e48 : (AggP (Upon S B) (.slice ab d.blocks.length cb) (d.late ++ [(2 * p, blk ⟨k, y, n, l⟩ (2 * p))] ++ [(2 * p + 1, blk ⟨k, y, n, l⟩ (2 * p + 1))])) (a.eval (.tmp 48)) w' := insw_on hin 11 (by kernel_rfl)
    obtain ⟨vl', hvl, hlt⟩ := e48
    obtain ⟨a2, c2, rfl⟩ := hlt.p.form
    have hh := hg.2.2.2.2 hr.un
    obtain ⟨hp1, hp2⟩ := box_put2 hh (.slice ab d.blocks.length cb) (.slice a2 (d.late ++ [(2 * p, blk ⟨k, y, n, l⟩ (2 * p))] ++ [(2 * p + 1, blk ⟨k, y, n, l⟩ (2 * p + 1))]).length c2)
    obtain ⟨y0, y1⟩ := box2 hh rfl rfl
    have f0 := box_frozen hh 0
    have f1 := box_frozen hh 1
    have cs := cell_set
    refine uponw_skip (w' := _) ?_ hp2 ⟨hp2.grow hg.1 (Nat.le_refl _), (hp2.block _ (heap_lt hg.2.1) (by omega)).trans hg.2.1, (hp2.block _ (heap_lt hg.2.2.1) (by omega)).trans hg.2.2.1, hg.2.2.2.1.but hp2 hnB, fun h => by simp [upd] at h⟩ ⟨_, hvl, hp1, hlt.but hp2 hnB⟩
    clear hin hg hr hp1 hp2 hlt hh
    generalize (d.late ++ [(2 * p, blk ⟨k, y, n, l⟩ (2 * p))] ++ [(2 * p + 1, blk ⟨k, y, n, l⟩ (2 * p + 1))]).length = nl at *
    obtain ⟨ek, ef⟩ := evs a
    generalize a.eval = ev at *
    go_simp
    all_goals first | omega | (intro _; omega) | go_arith
  ·intro vs w' dn hdn hg ht
   obtain ⟨q38, q39, q40, q41, q42, q43, q44, q45, q46, q47, q37, q48, q49, qo13, -⟩ := ht
   have r38 : vs 0 = .agg #[.slice ab d.blocks.length cb, .slice a1 (d.late ++ [(2 * p, blk ⟨k, y, n, l⟩ (2 * p))]).length c1] := q38
   have r39 : vs 1 = .int .i64 p := q39
   have r40 : vs 2 = .int .i64 (2 * p) := q40
   have r41 : vs 3 = .int .i64 (2 * p + 1) := q41
   have r42 : vs 4 = .agg #[.int .i64 k, .int .i64 y, .int .i64 n, .slice ao l.length cp] := q42
   have r43 : vs 5 = .int .i64 p := q43
   have r44 : vs 6 = .int .i64 (2 * p) := q44
   have r45 : vs 7 = .int .i64 (2 * p + 1) := q45
   replace q46 : ((fun v w => BytesS (Upon S B) w v (blk ⟨k, y, n, l⟩ (2 * p + 1)))) (vs 8) w' := q46
   replace q47 : (TupP (Upon S B) (.slice ab d.blocks.length cb) 0 (d.late ++ [(2 * p, blk ⟨k, y, n, l⟩ (2 * p))] ++ [(2 * p + 1, blk ⟨k, y, n, l⟩ (2 * p + 1))])) (vs 9) w' := q47
   replace q37 : (TupP (Upon S B) (.slice ab d.blocks.length cb) 0 (d.late ++ [(2 * p, blk ⟨k, y, n, l⟩ (2 * p))] ++ [(2 * p + 1, blk ⟨k, y, n, l⟩ (2 * p + 1))])) (vs 10) w' := q37
   replace q48 : (AggP (Upon S B) (.slice ab d.blocks.length cb) (d.late ++ [(2 * p, blk ⟨k, y, n, l⟩ (2 * p))] ++ [(2 * p + 1, blk ⟨k, y, n, l⟩ (2 * p + 1))])) (vs 11) w' := q48
   have r49 : vs 12 = .int .i64 0 := q49
   replace qo13 : ((fun _ v w' => PutQ (Upon S B) w.heap.size (.slice ab d.blocks.length cb) (d.late ++ [(2 * p, blk ⟨k, y, n, l⟩ (2 * p))] ++ [(2 * p + 1, blk ⟨k, y, n, l⟩ (2 * p + 1))]) v w')) (vs 13) (vs 11) w' := qo13
   clear q38 q39 q40 q41 q42 q43 q44 q45 q49
   simp only [putAll, Act.put, List.setIfInBounds_toArray, List.set_cons_zero, List.set_cons_succ, Nat.reduceAdd, r38, r39, r40, r41, r42, r43, r44, r45, r49]
   clear r38 r39 r40 r41 r42 r43 r44 r45 r49
   obtain ⟨vl2, hv2, hb2, hl2⟩ := qo13
   obtain ⟨a2, c2, rfl⟩ := hl2.p.form
   have gw2 := hg.1
   have hbZ2 := hg.2.2.1
   clear hg q46 q47 q37 q48 gw hbR hbZ hbD hlate hdn
   rw [hv2]
   clear hv2
   generalize vs 8 = u9
   generalize vs 9 = u10
   generalize vs 10 = u11
   obtain ⟨x0, x1⟩ := box2 hb2 rfl rfl
   obtain ⟨y0, y1⟩ := box2 hbZ2 rfl rfl
   have f0 := box_frozen hbZ2 0
   have f1 := box_frozen hbZ2 1
   have cs := cell_set
   generalize hws : d.late ++ [(2 * p, blk ⟨k, y, n, l⟩ (2 * p))] ++ [(2 * p + 1, blk ⟨k, y, n, l⟩ (2 * p + 1))] = ws at *
   have HWS : Hid (_ = ws) := hws
   clear hws hm2
   go_wp2_with fail
   have gB : GrowBut (w.heap.size + 1 + 1) w' ((w'.setCell ⟨w.heap.size + 1 + 1, 0, none⟩ (.slice ab d.blocks.length cb)).setCell ⟨w.heap.size + 1 + 1, 1, none⟩ (.slice a2 ws.length c2)) := ((GrowBut.refl _ _).set _ _ _).set _ _ _
   refine bodyPost_ret (v := .tuple #[.agg #[.slice ab d.blocks.length cb, .slice a2 ws.length c2], .int .i64 0]) (by simp [results, Try.results32, go_sem, y0, y1, cs]) rfl ⟨_, rfl, ?_, gB.grow gw2 (by omega)⟩
   have hwe : (d.pairW p ⟨k, y, n, l⟩).late = ws := by rw [← HWS.out]; simp [Dk.pairW]
   rw [hwe]
   exact (hl2.but gB hnZ).mono (upon_le hBw)

set_option maxHeartbeats 2000000 in
theorem putPair_no (d : Dk) (p : Int) (k y n : Int) (l : List UInt8) (vb vl v : Value) (w : World) (hb : BlocksP w vb d.blocks) (hl : LateP w vl d.late) (hv : Bytes w v l) (hlen : d.blocks.length ≤ 256) (hn : d.pairE p ⟨k, y, n, l⟩ ≠ 0) :
  Calls Try.prog 32 #[.agg #[vb, vl], .int .i64 p, .agg #[.int .i64 k, .int .i64 y, .int .i64 n, v]] w fun e w' => e = .returned (.tuple #[.agg #[vb, vl], .int .i64 (d.pairE p ⟨k, y, n, l⟩)]) ∧ Grow w w' := by
 obtain ⟨ab, cb, rfl⟩ := hb.form
 obtain ⟨al, cl, rfl⟩ := hl.form
 obtain ⟨ao, cp, rfl, -, -⟩ := bytes_src hv
 have hq : (d.blocks.length : Int).tdiv 2 = ((d.blocks.length / 2 : Nat) : Int) := by rw [Int.tdiv_eq_ediv_of_nonneg (by omega)]; omega
 by_cases hout : p < 0 ∨ ((d.blocks.length / 2 : Nat) : Int) ≤ p
 ·have HE : Hid (d.pairE p ⟨k, y, n, l⟩ = 3) := by show d.pairE _ _ = 3; unfold Dk.pairE; rw [if_pos hout]
  rw [HE.out]
  clear hn hb hl hv
  by_cases h0 : p < 0
  all_goals
   first | (have h1 : ((d.blocks.length / 2 : Nat) : Int) ≤ p := by omega) | skip
   clear hout
   go_enter Try.func32, Try.ntmps32
   go_wp2_with fail
   exact bodyPost_ret (v := .tuple #[.agg #[.slice ab d.blocks.length cb, .slice al d.late.length cl], .int .i64 3]) (by simp [results, Try.results32, go_sem]) rfl ⟨rfl, (grow_alloc2 _ _ _).trans (grow_alloc _ _)⟩
 ·have HE : Hid (d.pairE p ⟨k, y, n, l⟩ = wrong ⟨k, y, n, l⟩) := by show d.pairE _ _ = _; unfold Dk.pairE; rw [if_neg hout]
  rw [HE.out] at hn ⊢
  have d0 : (wrong ⟨k, y, n, l⟩ != 0) = true := by simpa using hn
  have h0 : 0 ≤ p := by omega
  have h1 : p < ((d.blocks.length / 2 : Nat) : Int) := by omega
  clear hn hout hb hl
  go_enter Try.func32, Try.ntmps32
  go_wp2_with fail
  refine (rwrong_any k y n l _ _ (by exact bytes_grow hv ((grow_alloc2 _ _ _).trans (grow_alloc _ _)))).mono ?_
  rintro e w1 ⟨rfl, g1⟩
  have gw : Grow w w1 := ((grow_alloc2 _ _ _).trans (grow_alloc _ _)).trans g1
  have hbD : w1.heap[w.heap.size]? = some (.cells #[.slice ab d.blocks.length cb, .slice al d.late.length cl] 25 (0, 0)) :=
   (((grow_alloc2 _ _ _).trans g1).block _ (by simp)).trans (heap_new _ _ _)
  have hbZ : w1.heap[w.heap.size + 1 + 1]? = some (.cells #[.slice none 0 0, .slice none 0 0] 25 (0, 0)) := by
   have h := heap_new ((w.alloc (.cells #[.slice ab d.blocks.length cb, .slice al d.late.length cl] 25)).alloc (.cells #[.int .i64 k, .int .i64 y, .int .i64 n, .slice ao l.length cp] 33)) #[.slice none 0 0, .slice none 0 0] 25
   rw [World.size_alloc, World.size_alloc] at h
   exact (g1.block _ (by simp)).trans h
  clear g1
  obtain ⟨x0, x1⟩ := box2 hbD rfl rfl
  obtain ⟨y0, y1⟩ := box2 hbZ rfl rfl
  have f0 := box_frozen hbZ 0
  have f1 := box_frozen hbZ 1
  have cs := cell_set
  go_wp2_with fail
  have gB : GrowBut (w.heap.size + 1 + 1) w1 ((w1.setCell ⟨w.heap.size + 1 + 1, 0, none⟩ (.slice ab d.blocks.length cb)).setCell ⟨w.heap.size + 1 + 1, 1, none⟩ (.slice al d.late.length cl)) := ((GrowBut.refl _ _).set _ _ _).set _ _ _
  exact bodyPost_ret (v := .tuple #[.agg #[.slice ab d.blocks.length cb, .slice al d.late.length cl], .int .i64 (wrong ⟨k, y, n, l⟩)]) (by simp [results, Try.results32, go_sem, y0, y1, cs]) rfl ⟨rfl, gB.grow gw (by omega)⟩

theorem putPair_any (S : Nat → Prop) (d : Dk) (p : Int) (k y n : Int) (l : List UInt8) (vb vl v : Value) (w : World) (hS : ∀ b, S b → b < w.heap.size) (hb : BlocksP w vb d.blocks) (hl : LateS S w vl d.late) (hv : Bytes w v l) (hlen : d.blocks.length ≤ 256) (hm : d.late.length ≤ 999990) :
  Calls Try.prog 32 #[.agg #[vb, vl], .int .i64 p, .agg #[.int .i64 k, .int .i64 y, .int .i64 n, v]] w fun e w' => ∃ vl', e = .returned (.tuple #[.agg #[vb, vl'], .int .i64 (d.pairE p ⟨k, y, n, l⟩)]) ∧ LateS (Upon S w.heap.size) w' vl' (d.pairD p ⟨k, y, n, l⟩).late ∧ Grow w w' := by
 by_cases he : d.pairE p ⟨k, y, n, l⟩ = 0
 ·have hd : d.pairD p ⟨k, y, n, l⟩ = d.pairW p ⟨k, y, n, l⟩ := by unfold Dk.pairD; rw [if_pos he]
  rw [he, hd]
  unfold Dk.pairE at he
  by_cases hout : p < 0 ∨ ((d.blocks.length / 2 : Nat) : Int) ≤ p
  ·rw [if_pos hout] at he; omega
  ·rw [if_neg hout] at he
   exact putPair_yes S d p k y n l vb vl v w hS hb hl hv (by omega) (by omega) he hlen hm
 ·have hd : d.pairD p ⟨k, y, n, l⟩ = d := by unfold Dk.pairD; rw [if_neg he]
  rw [hd]
  exact (putPair_no d p k y n l vb vl v w hb hl.p hv hlen he).mono fun e w' ⟨h1, h2⟩ => ⟨vl, h1, (hl.grow h2).mono upon_l, h2⟩
end Go.Proofs.Ytgaecpdokgklpab
