/-
  sclaw4.alive answers true.
  Condition: pair.Look, Put and Mend keep their contracts (premises).
-/
import Derived.Test.YtgpfflfdigekeaaMake
namespace Go.Proofs.Ytgpfflfdigekeaa
set_option maxRecDepth 100000
open Go.RowKit
open Go.Proofs.Ytgpfflfdigekeaa.Plain Go.Proofs.Ytgpfflfdigekeaa.Reg

def rB : Rec := ⟨2, 7, 3, []⟩
theorem rB_ok : wrong ⟨2, 7, 3, []⟩ = 0 := by decide
def dB : Dk := Dk.new.pairD 1 ⟨2, 7, 3, []⟩
theorem pairE_B : Dk.new.pairE 1 ⟨2, 7, 3, []⟩ = 0 := by unfold Dk.pairE; rw [if_neg (by rw [new_len]; omega)]; exact rB_ok
theorem fineB : dB.Fine 900 := (new_fine.pair 1 _).mono (by omega)
theorem lookB1 : dB.how 1 = 1 ∧ dB.tell 1 = ⟨2, 7, 3, []⟩ := by
  have hd : dB = Dk.new.pairW 1 ⟨2, 7, 3, []⟩ := by unfold dB Dk.pairD; rw [pairE_B, if_pos rfl]
  have hg := pairW_get (d := Dk.new) (p := 1) (r := ⟨2, 7, 3, []⟩) (by omega) (by rw [new_len]; omega)
  rw [hd]
  refine how_both (noPair_in (by omega) (by show (2 : Int) * 1 + 1 < (Dk.new.blocks.length : Int); rw [new_len]; omega)) (side_blk hg.1 rB_ok (by omega) (by omega)).1 (side_blk hg.2 rB_ok (by omega) (by omega)).1 (by decide)
def dS : Dk := dB.flush.spoil 2 4 1
theorem fineS : dS.Fine 900 := (fineB.flush.spoil 2 4 1).mono (by omega)
theorem lookS : dS.how 1 = 2 ∧ dS.tell 1 = ⟨2, 7, 3, []⟩ := by
  have h := pair_spoil Dk.new 1 ⟨2, 7, 3, []⟩ 4 1 0 (by omega) (by rw [new_len]; omega) (by rw [new_len]; omega) rB_ok (by decide) (by omega) (by omega) (by decide) (.inl rfl)
  have hf : Dk.new.flush = Dk.new := rfl
  rw [hf] at h
  exact h
theorem mendS : (dS.mendD 1).late.length = 2 := by
  have hw : dS.pairE 1 ⟨2, 7, 3, []⟩ = 0 := by unfold Dk.pairE; rw [if_neg (by rw [fineS.len]; omega)]; exact rB_ok
  unfold Dk.mendD
  rw [lookS.1, lookS.2, if_pos (by omega)]
  unfold Dk.pairD
  rw [hw, if_pos rfl]
  have hl : dS.late = [] := (dB.flush.spoil_len 2 4 1).2
  show (dS.late ++ [_, _]).length = 2
  rw [hl]; rfl


set_option maxHeartbeats 4000000 in
theorem palive_of (HLC : LookC) (HPC : PutC) (HMC : MendC) (w : World) : Calls Try.prog 56 #[] w fun e w' => e = .returned (.bool true) ∧ Grow w w' := by
  have gW := grow_alloc w (.cells #[.int .i64 2, .int .i64 7, .int .i64 3, .slice none 0 0] 32)
  have hq := heap_new w #[.int .i64 2, .int .i64 7, .int .i64 3, .slice none 0 0] 32
  go_enter Try.func56, Try.ntmps56
  go_wp2_with fail
  generalize w.heap.size = gr at *
  generalize World.alloc w _ = W at *
  refine wp_region_x [pl ((fun _ _ => True)), pl (ex (.agg #[.int .i64 2, .int .i64 7, .int .i64 3, .slice none 0 0])), pl ((fun _ _ => True)), pl1 2 ((fun v v15 _ => v = v15)), pl1 3 ((fun v v12 _ => ∃ e, v12 = .tuple #[v, e])), pl (ex (.int .i64 0)), pl ((fun _ _ => True)), pl ((fun _ _ => True)), pl (ex (.int .i64 0))] [none, none, none, none, none, none, none, some ((BoxStep 46))] (fun dn f w'' => MakeJ W 0 2 6 7 Dk.new dB 0 dn f w'') (by kernel_rfl) (by kernel_rfl) ⟨st_pl ((fun _ _ _ _ _ => trivial)), st_pl (st_ex _), st_pl ((fun _ _ _ _ _ => trivial)), (fun _ _ _ _ _ h => h), (fun _ _ _ _ _ h => h), st_pl (st_ex _), st_pl ((fun _ _ _ _ _ => trivial)), st_pl ((fun _ _ _ _ _ => trivial)), st_pl (st_ex _), trivial⟩ ⟨⟨(fun w => .inl rfl), ⟨.inr ((fun _ _ _ _ _ _ => trivial)), .inr (fun _ _ _ _ _ h => h), .inr ((fun _ _ _ _ _ _ => trivial)), .inr ((fun _ _ _ _ _ h => h)), .inr ((fun _ _ _ _ _ h => h)), .inr (fun _ _ _ _ _ h => h), .inr ((fun _ _ _ _ _ _ => trivial)), .inl (by kernel_rfl), .inl (by kernel_rfl), trivial⟩⟩, trivial⟩ ⟨(fun h => by cases h), (fun h => by cases h), (fun h => by cases h), (fun h => by cases h), (fun h => by cases h), (fun h => by cases h), (fun h => by cases h), fun _ _ _ _ h => h, (fun h => by cases h), trivial⟩ (fun f => MakeJ.start _ _ _ _ _ _ _ _ f) ?_ ?_
  · refine ⟨?_, ?_, ?_, ?_, ?_, ?_, ?_, ?_, ?_, trivial⟩
    · refine needx_plain rfl (fun a w' dn hr hg hin => ?_)
      refine uponw_call (f := 35) (args := #[]) ?_ ((rnew_c (fun _ => False) w').mono ?_)
      · clear hin hg hr
        have ek : ∀ x, a.eval (.const x) = x := fun _ => rfl
        have ef : ∀ f, a.eval (.func f) = .func (.func f) #[] #[] := fun _ => rfl
        generalize a.eval = ev at *
        go_simp
        all_goals first | done | omega | (intro _; omega) | go_arith
      · rintro e w2 ⟨v2, rfl, hA, g2⟩
        exact ⟨_, rfl, g2, trivial, MakeJ.callA hg (by decide) (hr.not1 2 (by kernel_rfl)) (hr.not1 7 (by kernel_rfl)) (fun b h => h.elim) g2 hA, trivial⟩
    · refine needx_plain rfl (fun a w' dn hr hg hin => ?_)
      have e1 : a.eval (.tmp 1) = .pointer (some ⟨gr, 0, none⟩) := insw_ext hin 1 (by kernel_rfl)
      have hq' := (hg.1.block _ (heap_lt hq)).trans hq
      have z0 := box_cell hq' 0 _ rfl
      have z1 := box_cell hq' 1 _ rfl
      have z2 := box_cell hq' 2 _ rfl
      have z3 := box_cell hq' 3 _ rfl
      refine uponx_val ?_ hg rfl
      clear hin hg hr hq'
      have ek : ∀ x, a.eval (.const x) = x := fun _ => rfl
      have ef : ∀ f, a.eval (.func f) = .func (.func f) #[] #[] := fun _ => rfl
      generalize a.eval = ev at *
      go_simp
      all_goals first | done | omega | (intro _; omega) | go_arith
    · refine needx_plain rfl (fun a w' dn hr hg hin => ?_)
      have e13 : ((fun _ _ => True)) (a.eval (.tmp 13)) w' := insw_on hin 0 (by kernel_rfl)
      have e14 : a.eval (.tmp 14) = .agg #[.int .i64 2, .int .i64 7, .int .i64 3, .slice none 0 0] := insw_on hin 1 (by kernel_rfl)
      obtain ⟨S, hS, hdS, hnS⟩ := MakeJ.leans hg (hr.rd 0 (by kernel_rfl)) (hr.not1 7 (by kernel_rfl))
      obtain ⟨ab1, cb1, al1, cl1, h13, hb1, hl1⟩ := DiskS.form hdS
      replace h13 : a.eval (.tmp 13) = .agg #[.slice ab1 Dk.new.blocks.length cb1, .slice al1 Dk.new.late.length cl1] := h13
      refine uponw_call (f := 52) (args := #[.agg #[.slice ab1 Dk.new.blocks.length cb1, .slice al1 Dk.new.late.length cl1], .int .i64 1, .agg #[.int .i64 2, .int .i64 7, .int .i64 3, .slice none 0 0]]) ?_ ((HPC S Dk.new 1 2 7 3 [] _ _ w' hS (new_fine.mono (by omega)) ⟨_, _, rfl, hb1, hl1⟩ (bytes_nil _)).mono ?_)
      · clear hin hg hr hS hdS hnS hb1 hl1 e13
        generalize Dk.new.blocks.length = n1 at *
        generalize Dk.new.late.length = n2 at *
        have ek : ∀ x, a.eval (.const x) = x := fun _ => rfl
        have ef : ∀ f, a.eval (.func f) = .func (.func f) #[] #[] := fun _ => rfl
        generalize a.eval = ev at *
        go_simp
        all_goals first | done | omega | (intro _; omega) | go_arith
      · rw [pairE_B]
        rintro e w2 ⟨v2, rfl, hA, g2⟩
        exact ⟨_, rfl, g2, trivial, MakeJ.callB hg (by decide) (hr.not1 7 (by kernel_rfl)) hnS g2 hA, trivial⟩
    · refine needx_plain rfl (fun a w' dn hr hg hin => ?_)
      have e15 : ((fun _ _ => True)) (a.eval (.tmp 15)) w' := insw_on hin 2 (by kernel_rfl)
      exact uponx_move rfl hg rfl
    · refine needx_plain rfl (fun a w' dn hr hg hin => ?_)
      have e12 : ((fun v v15 _ => v = v15)) (a.eval (.tmp 12)) (a.eval (.tmp 15)) w' := insw_on hin 3 (by kernel_rfl)
      obtain ⟨v', hf2⟩ := hg.2.1 (hr.cl 3 2 (by kernel_rfl) (hr.rd 3 (by kernel_rfl)))
      have h15 : a.eval (.tmp 15) = .tuple #[v', .int .i64 0] := hf2
      have h12 : a.eval (.tmp 12) = .tuple #[v', .int .i64 0] := e12.trans h15
      refine uponx_val (v := v') ?_ hg ⟨_, h12⟩
      clear hin hg hr e12 hf2 h15
      have ek : ∀ x, a.eval (.const x) = x := fun _ => rfl
      have ef : ∀ f, a.eval (.func f) = .func (.func f) #[] #[] := fun _ => rfl
      generalize a.eval = ev at *
      go_simp
      all_goals first | done | omega | (intro _; omega) | go_arith
    · refine needx_plain rfl (fun a w' dn hr hg hin => ?_)
      have e12 : ((fun v v15 _ => v = v15)) (a.eval (.tmp 12)) (a.eval (.tmp 15)) w' := insw_on hin 3 (by kernel_rfl)
      obtain ⟨v', hf2⟩ := hg.2.1 (hr.cl 3 2 (by kernel_rfl) (hr.rd 3 (by kernel_rfl)))
      have h15 : a.eval (.tmp 15) = .tuple #[v', .int .i64 0] := hf2
      have h12 : a.eval (.tmp 12) = .tuple #[v', .int .i64 0] := e12.trans h15
      refine uponx_val ?_ hg rfl
      clear hin hg hr e12 hf2 h15
      have ek : ∀ x, a.eval (.const x) = x := fun _ => rfl
      have ef : ∀ f, a.eval (.func f) = .func (.func f) #[] #[] := fun _ => rfl
      generalize a.eval = ev at *
      go_simp
      all_goals first | done | omega | (intro _; omega) | go_arith
    · refine needx_plain rfl (fun a w' dn hr hg hin => ?_)
      refine uponx_step (v := .pointer (some ⟨w'.heap.size, 0, none⟩)) (w' := w'.alloc nilD) ?_ (grow_alloc _ _) (MakeJ.alloc hg (by decide) (hr.not1 7 (by kernel_rfl))) trivial
      clear hin hg hr
      unfold nilD
      have ek : ∀ x, a.eval (.const x) = x := fun _ => rfl
      have ef : ∀ f, a.eval (.func f) = .func (.func f) #[] #[] := fun _ => rfl
      generalize a.eval = ev at *
      go_simp
      all_goals first | done | omega | (intro _; omega) | go_arith
    · refine needx_plain rfl (fun a w' dn hr hg hin => ?_)
      have e2 : ((fun _ _ => True)) (a.eval (.tmp 2)) w' := insw_on hin 6 (by kernel_rfl)
      have e16 : ((fun v v12 _ => ∃ e, v12 = .tuple #[v, e])) (a.eval (.tmp 16)) (a.eval (.tmp 12)) w' := insw_on hin 4 (by kernel_rfl)
      obtain ⟨g, v', hf, hz, hfB, hP, hJ'⟩ := MakeJ.store hg (by decide) (hr.rd 2 (by kernel_rfl)) (hr.rd 6 (by kernel_rfl)) hr.un
      have h2 : a.eval (.tmp 2) = .pointer (some ⟨g, 0, none⟩) := hf
      have h15 : a.eval (.tmp 15) = .tuple #[v', .int .i64 0] := hfB
      have e12 : a.eval (.tmp 12) = a.eval (.tmp 15) := insw_on hin 3 (by kernel_rfl)
      obtain ⟨ee, h16⟩ := e16
      rw [e12, h15] at h16
      injection h16 with h16
      injection h16 with h16
      injection h16 with h16 _
      obtain ⟨ab1, cb1, al1, cl1, hv', -, -⟩ := DiskP.form hP
      rw [hv'] at h16
      refine uponx_skip (w' := _) ?_ (box_step2 hz _ _) (hJ' _ _ hv') trivial
      have y0 := box_cell hz 0 _ rfl
      have y1 := box_cell hz 1 _ rfl
      have f0 := box_frozen hz 0
      have f1 := box_frozen hz 1
      have cs := cell_set
      replace h16 := h16.symm
      clear hin hg hr hz hJ' hP hf hfB e2 e12 h15 hv'
      generalize dB.blocks.length = n1 at *
      generalize dB.late.length = n2 at *
      have ek : ∀ x, a.eval (.const x) = x := fun _ => rfl
      have ef : ∀ f, a.eval (.func f) = .func (.func f) #[] #[] := fun _ => rfl
      generalize a.eval = ev at *
      go_simp
      all_goals first | done | omega | (intro _; omega) | go_arith
    · refine needx_plain rfl (fun a w' dn hr hg hin => ?_)
      have e : a.eval (.tmp 17) = .int .i64 0 := insw_on hin 5 (by kernel_rfl)
      exact uponx_assign rfl hg e
  · intro vs w' dn hdn hg ht
    obtain ⟨q13, q14, q15, q12, q16, q17, q2, qo7, q3, -⟩ := ht
    replace q13 : ((fun _ _ => True)) (vs 0) w' := q13
    have r14 : vs 1 = .agg #[.int .i64 2, .int .i64 7, .int .i64 3, .slice none 0 0] := q14
    replace q15 : ((fun _ _ => True)) (vs 2) w' := q15
    replace q12 : ((fun v v15 _ => v = v15)) (vs 3) (vs 2) w' := q12
    replace q16 : ((fun v v12 _ => ∃ e, v12 = .tuple #[v, e])) (vs 4) (vs 3) w' := q16
    have r17 : vs 5 = .int .i64 0 := q17
    replace q2 : ((fun _ _ => True)) (vs 6) w' := q2
    replace qo7 : ((fun _ _ => True)) (vs 7) w' := qo7
    have r3 : vs 8 = .int .i64 0 := q3
    clear q14 q17 q3
    simp only [putAll, Act.put, List.setIfInBounds_toArray, List.set_cons_zero, List.set_cons_succ, Nat.reduceAdd, r14, r17, r3]
    clear r14 r17 r3
    obtain ⟨gN, g2, vb2, vl2, f6, hgW, hx, hd⟩ := MakeJ.done hg (hdn 6 (by decide)) (hdn 7 (by decide))
    rw [f6]
    replace gW := gW.trans gN
    replace hq := (gN.block _ (heap_lt hq)).trans hq
    clear hg hdn f6 q13 q15 q12 q16 q2 qo7 gN
    generalize vs 0 = u0
    generalize vs 2 = u2
    generalize vs 3 = u3
    generalize vs 4 = u4
    obtain ⟨ab, cb, al, cl, ev, -, -⟩ := hd.form
    cases ev
    have y0 := box_cell hx 0 _ rfl
    have y1 := box_cell hx 1 _ rfl
    have hlk := HLC dB 1 _ _ fineB hd
    rw [lookB1.1, lookB1.2] at hlk
    simp only [List.length_nil, List.map_nil] at hlk
    have hfl := fun (v2 : Value) (w2 : World) (h : DiskP dB v2 w2) => rflush_c _ 900 dB v2 w2 (fun _ h => h) h.s fineB (by omega)
    generalize dB.blocks.length = n1 at *
    generalize dB.late.length = n2 at *
    go_wp2_with fail
    refine hlk.mono ?_
    rintro e w3 ⟨dv3, rfl, ho3, gN⟩
    obtain ⟨a3, c3, rfl⟩ := own_slice ho3
    have gM := grow_alloc w3 (.cells #[.int .i64 2, .int .i64 7, .int .i64 3, .slice a3 0 c3] 32)
    have hx3 := heap_new w3 #[.int .i64 2, .int .i64 7, .int .i64 3, .slice a3 0 c3] 32
    have hb3 := bytes_grow (bytes_own (l := []) ho3) gM
    replace gN := gN.trans gM
    replace gW := gW.trans gN
    replace hq := (gN.block _ (heap_lt hq)).trans hq
    replace hx := (gN.block _ (heap_lt hx)).trans hx
    replace hd := st_diskp _ _ _ _ gN hd
    clear gN gM hlk ho3 y0 y1
    have y0 := box_cell hx 0 _ rfl
    have y1 := box_cell hx 1 _ rfl
    replace hfl := hfl _ _ hd
    go_wp2_with fail
    refine hfl.mono ?_
    rintro e w4 ⟨v4, rfl, hd4, gN⟩
    replace hd4 := hd4.p
    obtain ⟨ab4, cb4, al4, cl4, rfl, -, -⟩ := hd4.form
    replace gW := gW.trans gN
    replace hq := (gN.block _ (heap_lt hq)).trans hq
    replace hx3 := (gN.block _ (heap_lt hx3)).trans hx3
    replace hb3 := bytes_grow hb3 gN
    clear gN hfl y0 y1 hx hd
    have hsp := rspoil_c _ 0 dB.flush 2 4 1 _ _ (fun _ h => h) hd4.s fineB.flush
    generalize dB.flush.blocks.length = n3 at *
    generalize dB.flush.late.length = n4 at *
    go_wp2_with fail
    refine hsp.mono ?_
    rintro e w5 ⟨v5, rfl, hd5, gN⟩
    replace hd5 : DiskP dS v5 w5 := hd5.p
    obtain ⟨ab5, cb5, al5, cl5, rfl, -, -⟩ := hd5.form
    have hlk := fun (v2 : Value) (w2 : World) (h : DiskP dS v2 w2) => HLC dS 1 v2 w2 fineS h
    have hmd := fun (v2 : Value) (w2 : World) (h : DiskP dS v2 w2) => HMC _ dS 1 v2 w2 (fun _ h => h) fineS h.s
    have gM := grow_alloc w5 (.cells #[.slice ab5 dS.blocks.length cb5, .slice al5 dS.late.length cl5] 46)
    have hx5 := heap_new w5 #[.slice ab5 dS.blocks.length cb5, .slice al5 dS.late.length cl5] 46
    replace hd5 := st_diskp _ _ _ _ gM hd5
    replace gN := gN.trans gM
    replace gW := gW.trans gN
    replace hq := (gN.block _ (heap_lt hq)).trans hq
    replace hx3 := (gN.block _ (heap_lt hx3)).trans hx3
    replace hb3 := bytes_grow hb3 gN
    clear gN gM hsp hd4
    replace hlk := hlk _ _ hd5
    rw [lookS.1, lookS.2] at hlk
    simp only [List.length_nil, List.map_nil] at hlk
    generalize dS.blocks.length = n5 at *
    generalize dS.late.length = n6 at *
    have y0 := box_cell hx5 0 _ rfl
    have y1 := box_cell hx5 1 _ rfl
    go_wp2_with fail
    refine hlk.mono ?_
    rintro e w6 ⟨dv6, rfl, ho6, gN⟩
    obtain ⟨a6, c6, rfl⟩ := own_slice ho6
    have gM := grow_alloc w6 (.cells #[.int .i64 2, .int .i64 7, .int .i64 3, .slice a6 0 c6] 32)
    have hx6 := heap_new w6 #[.int .i64 2, .int .i64 7, .int .i64 3, .slice a6 0 c6] 32
    have hb6 := bytes_grow (bytes_own (l := []) ho6) gM
    replace gN := gN.trans gM
    replace gW := gW.trans gN
    replace hq := (gN.block _ (heap_lt hq)).trans hq
    replace hx3 := (gN.block _ (heap_lt hx3)).trans hx3
    replace hb3 := bytes_grow hb3 gN
    replace hx5 := (gN.block _ (heap_lt hx5)).trans hx5
    replace hd5 := st_diskp _ _ _ _ gN hd5
    clear gN gM hlk ho6 y0 y1
    have y0 := box_cell hx5 0 _ rfl
    have y1 := box_cell hx5 1 _ rfl
    replace hmd := hmd _ _ hd5
    go_wp2_with fail
    refine hmd.mono ?_
    rintro e w7 ⟨D7, v7, h7, rfl, hd7, gN, hin7, -, -⟩
    obtain ⟨e7, e7'⟩ := hin7 (by omega) (by omega)
    rw [lookS.1] at e7
    subst e7
    subst e7'
    obtain ⟨ab7, cb7, al7, cl7, rfl, -, -⟩ := hd7.form
    rw [mendS]
    have gM := grow_alloc w7 (.cells #[.slice ab7 (dS.mendD 1).blocks.length cb7, .slice al7 2 cl7] 46)
    have hx7 := heap_new w7 #[.slice ab7 (dS.mendD 1).blocks.length cb7, .slice al7 2 cl7] 46
    replace gN := gN.trans gM
    replace gW := gW.trans gN
    replace hq := (gN.block _ (heap_lt hq)).trans hq
    replace hx3 := (gN.block _ (heap_lt hx3)).trans hx3
    replace hb3 := bytes_grow hb3 gN
    replace hx6 := (gN.block _ (heap_lt hx6)).trans hx6
    replace hb6 := bytes_grow hb6 gN
    clear gN gM hmd hin7 hd7 y0 y1 hx5 hd5
    generalize (dS.mendD 1).blocks.length = n7 at *
    have r0 := box_cell hq 0 _ rfl
    have r1 := box_cell hq 1 _ rfl
    have r2 := box_cell hq 2 _ rfl
    have r3 := box_cell hq 3 _ rfl
    have p0 := box_cell hx3 0 _ rfl
    have p1 := box_cell hx3 1 _ rfl
    have p2 := box_cell hx3 2 _ rfl
    have p3 := box_cell hx3 3 _ rfl
    have hs1 := rsame_any 2 7 3 2 7 3 [] [] _ _ _ hb3 (bytes_nil _)
    rw [sameB_refl] at hs1
    go_wp2_with fail
    refine hs1.mono ?_
    rintro e w8 ⟨rfl, gN⟩
    replace gW := gW.trans gN
    replace hq := (gN.block _ (heap_lt hq)).trans hq
    replace hx6 := (gN.block _ (heap_lt hx6)).trans hx6
    replace hb6 := bytes_grow hb6 gN
    replace hx7 := (gN.block _ (heap_lt hx7)).trans hx7
    clear gN hs1 r0 r1 r2 r3 p0 p1 p2 p3 hx3 hb3
    have r0 := box_cell hq 0 _ rfl
    have r1 := box_cell hq 1 _ rfl
    have r2 := box_cell hq 2 _ rfl
    have r3 := box_cell hq 3 _ rfl
    have p0 := box_cell hx6 0 _ rfl
    have p1 := box_cell hx6 1 _ rfl
    have p2 := box_cell hx6 2 _ rfl
    have p3 := box_cell hx6 3 _ rfl
    have hs1 := rsame_any 2 7 3 2 7 3 [] [] _ _ _ hb6 (bytes_nil _)
    rw [sameB_refl] at hs1
    go_wp2_with fail
    refine hs1.mono ?_
    rintro e w9 ⟨rfl, gN⟩
    replace gW := gW.trans gN
    replace hq := (gN.block _ (heap_lt hq)).trans hq
    replace hx7 := (gN.block _ (heap_lt hx7)).trans hx7
    clear gN hs1 r0 r1 r2 r3 p0 p1 p2 p3 hx6 hb6
    have q1 := box_cell hx7 1 _ rfl
    go_wp2_with fail
    go_ret
    exact ⟨rfl, gW⟩
end Go.Proofs.Ytgpfflfdigekeaa
