/-
  What the program's disk.Own makes of a disk: the same, all of it in memory of its own.
  Condition: the disk lies in memory, of at most 256 blocks and 1000 writes, of at most 1000 bytes.
-/
import Derived.Test.YtgpfflfdigekeaaPLate
namespace Go.Proofs.Ytgpfflfdigekeaa
set_option maxRecDepth 100000
open Go.RowKit
open Go.Proofs.Ytgpfflfdigekeaa.Plain Go.Proofs.Ytgpfflfdigekeaa.Reg

/-- A disk all rows of which are its own, from block B on. -/
def DiskQ (B : Nat) (d : Dk) (v : Value) (w : World) : Prop := ∃ vb vl, v = .agg #[vb, vl] ∧ OwnBs B vb d.blocks w ∧ OwnLt B vl d.late w
theorem DiskQ.grow {B : Nat} {d : Dk} {v : Value} {w w' : World} (h : DiskQ B d v w) (hg : Grow w w') : DiskQ B d v w' := by
  obtain ⟨vb, vl, h1, h2, h3⟩ := h; exact ⟨vb, vl, h1, h2.grow hg, h3.grow hg⟩
theorem DiskQ.mono {B B' : Nat} {d : Dk} {v : Value} {w : World} (h : DiskQ B d v w) (hb : B' ≤ B) : DiskQ B' d v w := by
  obtain ⟨vb, vl, h1, h2, h3⟩ := h; exact ⟨vb, vl, h1, h2.mono hb, h3.mono hb⟩
theorem DiskQ.box {B : Nat} {d : Dk} {v : Value} {w w' : World} (h : DiskQ B d v w) (hs : BoxStep 46 w w') : DiskQ B d v w' := by
  obtain ⟨vb, vl, h1, h2, h3⟩ := h; exact ⟨vb, vl, h1, h2.box hs, h3.box hs⟩
theorem st_diskq (B : Nat) (d : Dk) : Stable (DiskQ B d) := fun _ _ _ hg h => h.grow hg

/-- All of these rows lie ahead of block C. -/
def Ahead (us : List Value) (C : Nat) : Prop := ∀ (i : Nat) (u : Value) (p : Nat), us[i]? = some u → u.ownBlock = some p → p < C
/-- .. of which no two blocks are the same row, nor a block's and a write's. -/
def DiskA (B : Nat) (d : Dk) (v : Value) (w : World) : Prop := ∃ vb vl us C, v = .agg #[vb, vl] ∧ OwnU B vb d.blocks us w ∧ Apart us ∧ Ahead us C ∧ B ≤ C ∧ OwnLt C vl d.late w
theorem DiskA.grow {B : Nat} {d : Dk} {v : Value} {w w' : World} (h : DiskA B d v w) (hg : Grow w w') : DiskA B d v w' := by
  obtain ⟨vb, vl, us, C, h1, h2, h3, h4, h5, h6⟩ := h; exact ⟨vb, vl, us, C, h1, h2.grow hg, h3, h4, h5, h6.grow hg⟩
theorem DiskA.mono {B B' : Nat} {d : Dk} {v : Value} {w : World} (h : DiskA B d v w) (hb : B' ≤ B) : DiskA B' d v w := by
  obtain ⟨vb, vl, us, C, h1, h2, h3, h4, h5, h6⟩ := h; exact ⟨vb, vl, us, C, h1, h2.mono hb, h3, h4, by omega, h6⟩
theorem DiskA.q {B : Nat} {d : Dk} {v : Value} {w : World} (h : DiskA B d v w) : DiskQ B d v w := by
  obtain ⟨vb, vl, us, C, h1, h2, h3, h4, h5, h6⟩ := h; exact ⟨vb, vl, h1, ⟨us, h2⟩, h6.mono h5⟩
theorem DiskA.box {B : Nat} {d : Dk} {v : Value} {w w' : World} (h : DiskA B d v w) (hs : BoxStep 46 w w') : DiskA B d v w' := by
  obtain ⟨vb, vl, us, C, h1, h2, h3, h4, h5, h6⟩ := h; exact ⟨vb, vl, us, C, h1, h2.box hs, h3, h4, h5, h6.box hs⟩
theorem st_diska (B : Nat) (d : Dk) : Stable (DiskA B d) := fun _ _ _ hg h => h.grow hg
/-- Writes behind the blocks v5. -/
def LtQ (B : Nat) (d : Dk) (v v5 : Value) (w : World) : Prop := ∃ us C, OwnU B v5 d.blocks us w ∧ Apart us ∧ Ahead us C ∧ B ≤ C ∧ OwnLt C v d.late w
theorem st_ltq (B : Nat) (d : Dk) (i : Nat) : StableW (pl1 i (LtQ B d)) := by
  rintro v ds w w' hg ⟨us, C, h2, h3, h4, h5, h6⟩
  exact ⟨us, C, h2.grow hg, h3, h4, h5, h6.grow hg⟩
theorem sp_ltq {B : Nat} {d : Dk} {v v5 : Value} {w w' : World} (hs : BoxStep 46 w w') (h : LtQ B d v v5 w) : LtQ B d v v5 w' := by
  obtain ⟨us, C, h2, h3, h4, h5, h6⟩ := h; exact ⟨us, C, h2.box hs, h3, h4, h5, h6.box hs⟩
theorem ahead_now {B : Nat} {v : Value} {bs : List (List UInt8)} {us : List Value} {w : World} (h : OwnU B v bs us w) : Ahead us w.heap.size := by
  intro i u p h1 h2
  have hi : i < bs.length := by
    rcases Nat.lt_or_ge i us.length with h' | h'
    · rw [← h.len]; exact h'
    · rw [List.getElem?_eq_none h'] at h1; cases h1
  obtain ⟨x, h3, h4⟩ := h.each i hi
  rw [h1] at h3; cases h3
  exact (h4.lt p h2).2
def BlkA (B : Nat) (bs : List (List UInt8)) (v : Value) (w : World) : Prop := ∃ us, OwnU B v bs us w ∧ Apart us
theorem st_blka (B : Nat) (bs : List (List UInt8)) : Stable (BlkA B bs) := fun _ _ _ hg h => h.imp fun _ x => ⟨x.1.grow hg, x.2⟩
theorem sp_blka {B : Nat} {bs : List (List UInt8)} {v : Value} {w w' : World} (hs : BoxStep 46 w w') (h : BlkA B bs v w) : BlkA B bs v w' := h.imp fun _ x => ⟨x.1.box hs, x.2⟩
theorem st_ownlt (B : Nat) (ws : List Wr) : Stable (fun v w => OwnLt B v ws w) := fun _ _ _ hg h => OwnLt.grow h hg
/-- A variable holds the disk that v is. -/
def HeldA (B g : Nat) (d : Dk) (v : Value) (w : World) : Prop := ∃ vb vl, w.heap[g]? = some (.cells #[vb, vl] 46 (0, 0)) ∧ v = .agg #[vb, vl] ∧ DiskA B d v w
theorem st_helda (B g : Nat) (d : Dk) (i : Nat) : StableW (pl1 i (fun _ v w => HeldA B g d v w)) := by
  rintro v ds w w' hg ⟨vb, vl, h2, h1, h3⟩
  exact ⟨vb, vl, (hg.block _ (heap_lt h2)).trans h2, h1, h3.grow hg⟩

/-- What holds while a disk is copied into the variable in block g + 1. -/
def OwnJ (w : World) (c : Array Value) (dn : Nat → Bool) (w' : World) : Prop :=
  Grow w w' ∧ w'.heap[w.heap.size]? = some (.cells c 46 (0, 0)) ∧ w.heap.size + 1 < w'.heap.size ∧ (dn 7 = false → w'.heap[w.heap.size + 1]? = some (.cells #[.slice none 0 0, .slice none 0 0] 46 (0, 0)))
theorem OwnJ.grow {w : World} {c : Array Value} {dn : Nat → Bool} {w' w'' : World} (h : OwnJ w c dn w') (hg : Grow w' w'') : OwnJ w c dn w'' :=
  ⟨h.1.trans hg, (hg.block _ (heap_lt h.2.1)).trans h.2.1, Nat.lt_of_lt_of_le h.2.2.1 hg.size, fun hd => (hg.block _ (heap_lt (h.2.2.2 hd))).trans (h.2.2.2 hd)⟩

set_option maxHeartbeats 4000000 in
theorem ownDisk_any (d : Dk) (vb vl : Value) (w : World) (hb : BlocksP w vb d.blocks) (hl : LateP w vl d.late) (hlen : d.blocks.length ≤ 256) (hm : d.late.length ≤ 1000) (hb16 : ∀ x ∈ d.blocks, x.length ≤ 1000) (hl16 : ∀ x ∈ d.late, x.2.length ≤ 1000) :
    Calls Try.prog 39 #[.agg #[vb, vl]] w fun e w' => ∃ v, e = .returned v ∧ DiskA w.heap.size d v w' ∧ Grow w w' := by
  obtain ⟨ab, cb, rfl⟩ := hb.form
  obtain ⟨al, cl, rfl⟩ := hl.form
  have gW := grow_alloc2 w (.cells #[.slice ab d.blocks.length cb, .slice al d.late.length cl] 46) (.cells #[.slice none 0 0, .slice none 0 0] 46)
  have hx := hx1 w #[.slice ab d.blocks.length cb, .slice al d.late.length cl] #[.slice none 0 0, .slice none 0 0]
  have hy := hy1 w #[.slice ab d.blocks.length cb, .slice al d.late.length cl] #[.slice none 0 0, .slice none 0 0]
  go_enter Try.func39, Try.ntmps39
  go_wp2_with fail
  refine wp_region_v [pl (ex (.pointer (some ⟨w.heap.size, 0, none⟩))), pl (ex (.slice ab d.blocks.length cb)), pl (BlkA (w.heap.size + 1 + 1) d.blocks), pl (ex (.pointer (some ⟨w.heap.size, 1, none⟩))), pl (ex (.slice al d.late.length cl)), pl1 2 (LtQ (w.heap.size + 1 + 1) d), pl (DiskA (w.heap.size + 1 + 1) d), pl1 6 ((fun _ v w' => HeldA (w.heap.size + 1 + 1) (w.heap.size + 1) d v w'))] [none, none, none, none, none, none, none, some ((BoxStep 46))] (OwnJ w #[.slice ab d.blocks.length cb, .slice al d.late.length cl]) (by kernel_rfl) (by kernel_rfl) ⟨st_pl (st_ex _), st_pl (st_ex _), st_pl (st_blka _ _), st_pl (st_ex _), st_pl (st_ex _), st_ltq _ _ _, st_pl (st_diska _ _), st_helda _ _ _ _, trivial⟩ ⟨⟨(fun w => .inl rfl), ⟨.inr (fun _ _ _ _ _ h => h), .inr (fun _ _ _ _ _ h => h), .inr ((fun v _ w w' hs hq => sp_blka hs hq)), .inr (fun _ _ _ _ _ h => h), .inr (fun _ _ _ _ _ h => h), .inr ((fun v _ w w' hs hq => sp_ltq hs hq)), .inr ((fun v _ w w' hs hq => DiskA.box hq hs)), .inl (by kernel_rfl), trivial⟩⟩, trivial⟩ ⟨(fun h => by cases h), (fun h => by cases h), (fun h => by cases h), (fun h => by cases h), (fun h => by cases h), (fun h => by cases h), (fun h => by cases h), fun _ _ _ _ h => h, trivial⟩ ⟨gW.drew, hx, heap_lt hy, fun _ => hy⟩ ?_ ?_
  · refine ⟨?_, ?_, ?_, ?_, ?_, ?_, ?_, ?_, trivial⟩
    · refine needv_plain rfl (fun a w' dn hr hg hin => ?_)
      have e1 : a.eval (.tmp 1) = .pointer (some ⟨w.heap.size, 0, none⟩) := insw_ext hin 1 (by kernel_rfl)
      refine uponw_val ?_ hg rfl
      clear hin hg
      have ek : ∀ x, a.eval (.const x) = x := fun _ => rfl
      have ef : ∀ f, a.eval (.func f) = .func (.func f) #[] #[] := fun _ => rfl
      generalize a.eval = ev at *
      go_simp
      all_goals first | done | omega | (intro _; omega) | go_arith
    · refine needv_plain rfl (fun a w' dn hr hg hin => ?_)
      have e3 : a.eval (.tmp 3) = .pointer (some ⟨w.heap.size, 0, none⟩) := insw_on hin 0 (by kernel_rfl)
      have z0 := box_cell hg.2.1 0 _ rfl
      refine uponw_val ?_ hg rfl
      clear hin hg hr
      have ek : ∀ x, a.eval (.const x) = x := fun _ => rfl
      have ef : ∀ f, a.eval (.func f) = .func (.func f) #[] #[] := fun _ => rfl
      generalize a.eval = ev at *
      go_simp
      all_goals first | done | omega | (intro _; omega) | go_arith
    · refine needv_plain rfl (fun a w' dn hr hg hin => ?_)
      have e4 : a.eval (.tmp 4) = .slice ab d.blocks.length cb := insw_on hin 1 (by kernel_rfl)
      refine uponw_call (f := 67) (args := #[.slice ab d.blocks.length cb]) ?_ ((ownBlocks_any d.blocks _ w' (hb.grow hg.1) hlen hb16).mono ?_)
      · clear hin hg hr
        have ek : ∀ x, a.eval (.const x) = x := fun _ => rfl
        have ef : ∀ f, a.eval (.func f) = .func (.func f) #[] #[] := fun _ => rfl
        generalize a.eval = ev at *
        go_simp
        all_goals first | done | omega | (intro _; omega) | go_arith
      · rintro e w2 ⟨v', us, rfl, ho, ha, g2⟩
        exact ⟨_, rfl, g2, OwnJ.grow hg g2, us, ho.mono (by have := hg.2.2.1; omega), ha⟩
    · refine needv_plain rfl (fun a w' dn hr hg hin => ?_)
      have e1 : a.eval (.tmp 1) = .pointer (some ⟨w.heap.size, 0, none⟩) := insw_ext hin 1 (by kernel_rfl)
      refine uponw_val ?_ hg rfl
      clear hin hg
      have ek : ∀ x, a.eval (.const x) = x := fun _ => rfl
      have ef : ∀ f, a.eval (.func f) = .func (.func f) #[] #[] := fun _ => rfl
      generalize a.eval = ev at *
      go_simp
      all_goals first | done | omega | (intro _; omega) | go_arith
    · refine needv_plain rfl (fun a w' dn hr hg hin => ?_)
      have e6 : a.eval (.tmp 6) = .pointer (some ⟨w.heap.size, 1, none⟩) := insw_on hin 3 (by kernel_rfl)
      have z1 := box_cell hg.2.1 1 _ rfl
      refine uponw_val ?_ hg rfl
      clear hin hg hr
      have ek : ∀ x, a.eval (.const x) = x := fun _ => rfl
      have ef : ∀ f, a.eval (.func f) = .func (.func f) #[] #[] := fun _ => rfl
      generalize a.eval = ev at *
      go_simp
      all_goals first | done | omega | (intro _; omega) | go_arith
    · refine needv_plain rfl (fun a w' dn hr hg hin => ?_)
      have e7 : a.eval (.tmp 7) = .slice al d.late.length cl := insw_on hin 4 (by kernel_rfl)
      have e5 : (BlkA (w.heap.size + 1 + 1) d.blocks) (a.eval (.tmp 5)) w' := insw_on hin 2 (by kernel_rfl)
      refine uponw_call (f := 66) (args := #[.slice al d.late.length cl, .int .i64 0]) ?_ ((ownWrites_any d.late 0 0 rfl _ w' (hl.grow hg.1) hm (by omega) hl16).mono ?_)
      · clear hin hg hr
        have ek : ∀ x, a.eval (.const x) = x := fun _ => rfl
        have ef : ∀ f, a.eval (.func f) = .func (.func f) #[] #[] := fun _ => rfl
        generalize a.eval = ev at *
        go_simp
        all_goals first | done | omega | (intro _; omega) | go_arith
      · rintro e w2 ⟨v', rfl, ho, g2⟩
        obtain ⟨us, hu, ha⟩ := e5
        exact ⟨_, rfl, g2, OwnJ.grow hg g2, us, w'.heap.size, hu.grow g2, ha, ahead_now hu, by have := hg.2.2.1; omega, ho⟩
    · refine needv_plain rfl (fun a w' dn hr hg hin => ?_)
      have e5 : (BlkA (w.heap.size + 1 + 1) d.blocks) (a.eval (.tmp 5)) w' := insw_on hin 2 (by kernel_rfl)
      have e8 : (LtQ (w.heap.size + 1 + 1) d) (a.eval (.tmp 8)) (a.eval (.tmp 5)) w' := insw_on hin 5 (by kernel_rfl)
      obtain ⟨us, C, ho, ha, hh, hC, hlt⟩ := e8
      obtain ⟨a5, c5, h5⟩ := ho.p.form
      obtain ⟨a8, c8, h8⟩ := hlt.form
      refine uponw_val (v := .agg #[.slice a5 d.blocks.length c5, .slice a8 d.late.length c8]) ?_ hg ⟨_, _, us, C, rfl, by rw [← h5]; exact ho, ha, hh, hC, by rw [← h8]; exact hlt⟩
      clear hin hg hr ho hlt e5
      have ek : ∀ x, a.eval (.const x) = x := fun _ => rfl
      have ef : ∀ f, a.eval (.func f) = .func (.func f) #[] #[] := fun _ => rfl
      generalize a.eval = ev at *
      go_simp
      all_goals first | done | omega | (intro _; omega) | go_arith
    · refine needv_plain rfl (fun a w' dn hr hg hin => ?_)
      have e2 : a.eval (.tmp 2) = .pointer (some ⟨w.heap.size + 1, 0, none⟩) := insw_ext hin 2 (by kernel_rfl)
      have e9 : (DiskA (w.heap.size + 1 + 1) d) (a.eval (.tmp 9)) w' := insw_on hin 6 (by kernel_rfl)
      have hA9 := e9
      obtain ⟨vb9, vl9, h9, ho, hlt⟩ := e9.q
      obtain ⟨a5, c5, rfl⟩ := ho.form
      obtain ⟨a8, c8, rfl⟩ := hlt.form
      have hh := hg.2.2.2 hr.un
      obtain ⟨hp1, hp2⟩ := box_put2 hh (.slice a5 d.blocks.length c5) (.slice a8 d.late.length c8)
      have hstep : BoxStep 46 w' _ := .inr ⟨_, _, _, hp2, hh, hp1, rfl⟩
      have y0 := box_cell hh 0 _ rfl
      have y1 := box_cell hh 1 _ rfl
      have f0 := box_frozen hh 0
      have f1 := box_frozen hh 1
      have cs := cell_set
      refine uponw_skip (w' := _) ?_ hstep ⟨hp2.grow hg.1 (by omega), (hp2.block _ (heap_lt hg.2.1) (by omega)).trans hg.2.1, Nat.lt_of_lt_of_le hg.2.2.1 hp2.size, fun h => by simp [upd] at h⟩ ⟨_, _, hp1, h9, hA9.box hstep⟩
      clear hin hg hr hp1 hp2 hlt hh ho hstep hA9 e9
      have ek : ∀ x, a.eval (.const x) = x := fun _ => rfl
      have ef : ∀ f, a.eval (.func f) = .func (.func f) #[] #[] := fun _ => rfl
      generalize a.eval = ev at *
      go_simp
      all_goals first | done | omega | (intro _; omega) | go_arith
  · intro vs w' dn hdn hg ht
    obtain ⟨q3, q4, q5, q6, q7, q8, q9, qo7, -⟩ := ht
    have r3 : vs 0 = .pointer (some ⟨w.heap.size, 0, none⟩) := q3
    have r4 : vs 1 = .slice ab d.blocks.length cb := q4
    replace q5 : (BlkA (w.heap.size + 1 + 1) d.blocks) (vs 2) w' := q5
    have r6 : vs 3 = .pointer (some ⟨w.heap.size, 1, none⟩) := q6
    have r7 : vs 4 = .slice al d.late.length cl := q7
    replace q8 : (LtQ (w.heap.size + 1 + 1) d) (vs 5) (vs 2) w' := q8
    replace q9 : (DiskA (w.heap.size + 1 + 1) d) (vs 6) w' := q9
    replace qo7 : ((fun _ v w' => HeldA (w.heap.size + 1 + 1) (w.heap.size + 1) d v w')) (vs 7) (vs 6) w' := qo7
    clear q3 q4 q6 q7
    simp only [putAll, Act.put, List.setIfInBounds_toArray, List.set_cons_zero, List.set_cons_succ, Nat.reduceAdd, r3, r4, r6, r7]
    clear r3 r4 r6 r7
    obtain ⟨vb9, vl9, hh, h9, hA⟩ := qo7
    rw [h9] at hA
    obtain ⟨a5, c5, rfl⟩ : ∃ a c, vb9 = .slice a d.blocks.length c := by
      obtain ⟨x, y, e, h1, _⟩ := hA.q; cases e; exact h1.form
    obtain ⟨a8, c8, rfl⟩ : ∃ a c, vl9 = .slice a d.late.length c := by
      obtain ⟨x, y, e, _, h1⟩ := hA.q; cases e; exact h1.form
    have y0 := box_cell hh 0 _ rfl
    have y1 := box_cell hh 1 _ rfl
    have gE := hg.1
    clear q5 q8 q9 hdn hg hh hx hy gW
    go_wp2_with fail
    exact bodyPost_ret (v := .agg #[.slice a5 d.blocks.length c5, .slice a8 d.late.length c8]) (by simp [results, Try.results39, go_sem, y0, y1]) rfl ⟨_, rfl, hA.mono (by omega), gE⟩
end Go.Proofs.Ytgpfflfdigekeaa
