/-
  sclaw5.alive answers true.
  Condition: the program's index keeps its contracts (premises).
-/
import Derived.Test.YtgaecpdokgklpabMake
import Derived.Test.YtgaecpdokgklpabIdxC
namespace Go.Proofs.Ytgaecpdokgklpab
set_option maxRecDepth 100000
open Go.RowKit
open Go.Proofs.Ytgaecpdokgklpab.Plain Go.Proofs.Ytgaecpdokgklpab.Reg

theorem rX_ok : wrong ⟨2, 7, 3, []⟩ = 0 := by decide
def dX : Dk := Dk.new.pairD 2 ⟨2, 7, 3, []⟩
theorem pairE_X : Dk.new.pairE 2 ⟨2, 7, 3, []⟩ = 0 := by unfold Dk.pairE; rw [if_neg (by rw [new_len]; omega)]; exact rX_ok
theorem fineX : dX.Fine 900 := (new_fine.pair 2 _).mono (by omega)
theorem scanX : scanE dX 6 = [⟨⟨2, 7, 3, []⟩, 2⟩] := by kernel_rfl
def mX : List Ent := [⟨⟨2, 7, 3, []⟩, 2⟩, ⟨⟨3, 7, 4, []⟩, 0⟩]
theorem addX : insertE ⟨⟨3, 7, 4, []⟩, 0⟩ [⟨⟨2, 7, 3, []⟩, 2⟩] = mX := by kernel_rfl
theorem rightX : rightI [⟨⟨2, 7, 3, []⟩, 2⟩] = true := by kernel_rfl
theorem rightY : rightI mX = true := by kernel_rfl
theorem lastX : lastOf mX 7 = some ⟨⟨3, 7, 4, []⟩, 0⟩ := by kernel_rfl
theorem findX : findOf mX 7 3 = some ⟨⟨2, 7, 3, []⟩, 2⟩ := by kernel_rfl
theorem dropX : dropE mX 2 = [⟨⟨3, 7, 4, []⟩, 0⟩] := by kernel_rfl
theorem freeX {n : Int} (h : FreeOf mX 6 n) : n = 1 := by
 refine free_one h ⟨1, ⟨fun n hn => ?_, fun x hx => ?_⟩, .inl ⟨by decide, rfl⟩⟩
 ·obtain rfl : n = 0 := by omega
  exact ⟨⟨⟨3, 7, 4, []⟩, 0⟩, by simp [mX], rfl⟩
 ·simp only [mX, List.mem_cons, List.not_mem_nil, or_false] at hx
  rcases hx with rfl | rfl <;> decide


set_option maxHeartbeats 4000000 in
theorem ialive_of (HOC : IOwnC) (HSC : IScanC) (HFC : IFreeC) (HAC : IAddC) (HDC : IDropC) (HLC : ILastC) (HNC : IFindC) (w : World) : Calls Try.prog 8 #[] w fun e w' => e = .returned (.bool true) ∧ Grow w w' := by
 have gW := grow_alloc w (.cells #[.int .i64 2, .int .i64 7, .int .i64 3, .slice none 0 0] 33)
 have hq := heap_new w #[.int .i64 2, .int .i64 7, .int .i64 3, .slice none 0 0] 33
 go_enter Try.func8, Try.ntmps8
 go_wp2_with fail
 generalize w.heap.size = gr at *
 generalize World.alloc w _ = W at *
 refine wp_region_x [pl ((fun _ _ => True)), pl (ex (.agg #[.int .i64 2, .int .i64 7, .int .i64 3, .slice none 0 0])), pl ((fun _ _ => True)), pl1 2 ((fun v v15 _ => v = v15)), pl1 3 ((fun v v12 _ => ∃ e, v12 = .tuple #[v, e])), pl (ex (.int .i64 0)), pl ((fun _ _ => True)), pl ((fun _ _ => True)), pl (ex (.int .i64 0))] [none, none, none, none, none, none, none, some ((BoxStep 25))] (fun dn f w'' => MakeJ W 0 2 6 7 Dk.new dX 0 dn f w'') (by kernel_rfl) (by kernel_rfl) ⟨st_pl ((fun _ _ _ _ _ => trivial)), st_pl (st_ex _), st_pl ((fun _ _ _ _ _ => trivial)), (fun _ _ _ _ _ h => h), (fun _ _ _ _ _ h => h), st_pl (st_ex _), st_pl ((fun _ _ _ _ _ => trivial)), st_pl ((fun _ _ _ _ _ => trivial)), st_pl (st_ex _), trivial⟩ ⟨⟨(fun w => .inl rfl), ⟨.inr ((fun _ _ _ _ _ _ => trivial)), .inr (fun _ _ _ _ _ h => h), .inr ((fun _ _ _ _ _ _ => trivial)), .inr ((fun _ _ _ _ _ h => h)), .inr ((fun _ _ _ _ _ h => h)), .inr (fun _ _ _ _ _ h => h), .inr ((fun _ _ _ _ _ _ => trivial)), .inl (by kernel_rfl), .inl (by kernel_rfl), trivial⟩⟩, trivial⟩ ⟨(fun h => by cases h), (fun h => by cases h), (fun h => by cases h), (fun h => by cases h), (fun h => by cases h), (fun h => by cases h), (fun h => by cases h), fun _ _ _ _ h => h, (fun h => by cases h), trivial⟩ (fun f => MakeJ.start _ _ _ _ _ _ _ _ f) ?_ ?_
 ·refine ⟨?_, ?_, ?_, ?_, ?_, ?_, ?_, ?_, ?_, trivial⟩
  ·refine needx_plain rfl (fun a w' dn hr hg hin => ?_)
   refine uponw_call (f := 33) (args := #[]) ?_ ((rnew_c (fun _ => False) w').mono ?_)
   ·clear hin hg hr
    obtain ⟨ek, ef⟩ := evs a
    generalize a.eval = ev at *
    go_simp
    all_goals first | omega | (intro _; omega) | go_arith
   ·rintro e w2 ⟨v2, rfl, hA, g2⟩
    exact ⟨_, rfl, g2, trivial, MakeJ.callA hg (by decide) (hr.not1 2 (by kernel_rfl)) (hr.not1 7 (by kernel_rfl)) (fun b h => h.elim) g2 hA, trivial⟩
  ·refine needx_plain rfl (fun a w' dn hr hg hin => ?_)
   have e1 : a.eval (.tmp 1) = .pointer (some ⟨gr, 0, none⟩) := insw_ext hin 1 (by kernel_rfl)
   have hq' := (hg.1.block _ (heap_lt hq)).trans hq
   have z0 := box_cell hq' 0 _ rfl
   have z1 := box_cell hq' 1 _ rfl
   have z2 := box_cell hq' 2 _ rfl
   have z3 := box_cell hq' 3 _ rfl
   refine uponx_val ?_ hg rfl
   clear hin hg hr hq'
   obtain ⟨ek, ef⟩ := evs a
   generalize a.eval = ev at *
   go_simp
   all_goals first | omega | (intro _; omega) | go_arith
  ·refine needx_plain rfl (fun a w' dn hr hg hin => ?_)
   have e12 : ((fun _ _ => True)) (a.eval (.tmp 12)) w' := insw_on hin 0 (by kernel_rfl)
   have e13 : a.eval (.tmp 13) = _ := insw_on hin 1 (by kernel_rfl)
   obtain ⟨S, hS, hdS, hnS⟩ := MakeJ.leans hg (hr.rd 0 (by kernel_rfl)) (hr.not1 7 (by kernel_rfl))
   obtain ⟨ab1, cb1, al1, cl1, h12, hb1, hl1⟩ := DiskS.form hdS
   replace h12 : a.eval (.tmp 12) = .agg #[.slice ab1 Dk.new.blocks.length cb1, .slice al1 Dk.new.late.length cl1] := h12
   refine uponw_call (f := 32) (args := #[.agg #[.slice ab1 Dk.new.blocks.length cb1, .slice al1 Dk.new.late.length cl1], .int .i64 2, .agg #[.int .i64 2, .int .i64 7, .int .i64 3, .slice none 0 0]]) ?_ ((rputPair_c S Dk.new 2 2 7 3 [] _ _ w' hS ⟨_, _, rfl, hb1, hl1⟩ (bytes_nil _) (by rw [new_len]; omega) (by show 0 ≤ 999990; omega)).mono ?_)
   ·clear hin hg hr hS hdS hnS hb1 hl1 e12
    generalize Dk.new.blocks.length = n1 at *
    generalize Dk.new.late.length = n2 at *
    obtain ⟨ek, ef⟩ := evs a
    generalize a.eval = ev at *
    go_simp
    all_goals first | omega | (intro _; omega) | go_arith
   ·rw [pairE_X]
    rintro e w2 ⟨v2, rfl, hA, g2⟩
    exact ⟨_, rfl, g2, trivial, MakeJ.callB hg (by decide) (hr.not1 7 (by kernel_rfl)) hnS g2 hA, trivial⟩
  ·refine needx_plain rfl (fun a w' dn hr hg hin => ?_)
   have e14 : ((fun _ _ => True)) (a.eval (.tmp 14)) w' := insw_on hin 2 (by kernel_rfl)
   exact uponx_move rfl hg rfl
  ·refine needx_plain rfl (fun a w' dn hr hg hin => ?_)
   have e11 : ((fun v v15 _ => v = v15)) (a.eval (.tmp 11)) (a.eval (.tmp 14)) w' := insw_on hin 3 (by kernel_rfl)
   obtain ⟨v', hf2⟩ := hg.2.1 (hr.cl 3 2 (by kernel_rfl) (hr.rd 3 (by kernel_rfl)))
   have h14 : a.eval (.tmp 14) = .tuple #[v', .int .i64 0] := hf2
   have h11 : a.eval (.tmp 11) = .tuple #[v', .int .i64 0] := e11.trans h14
   refine uponx_val (v := v') ?_ hg ⟨_, h11⟩
   clear hin hg hr e11 hf2 h14
   obtain ⟨ek, ef⟩ := evs a
   generalize a.eval = ev at *
   go_simp
   all_goals first | omega | (intro _; omega) | go_arith
  ·refine needx_plain rfl (fun a w' dn hr hg hin => ?_)
   have e11 : ((fun v v15 _ => v = v15)) (a.eval (.tmp 11)) (a.eval (.tmp 14)) w' := insw_on hin 3 (by kernel_rfl)
   obtain ⟨v', hf2⟩ := hg.2.1 (hr.cl 3 2 (by kernel_rfl) (hr.rd 3 (by kernel_rfl)))
   have h14 : a.eval (.tmp 14) = .tuple #[v', .int .i64 0] := hf2
   have h11 : a.eval (.tmp 11) = .tuple #[v', .int .i64 0] := e11.trans h14
   refine uponx_val ?_ hg rfl
   clear hin hg hr e11 hf2 h14
   obtain ⟨ek, ef⟩ := evs a
   generalize a.eval = ev at *
   go_simp
   all_goals first | omega | (intro _; omega) | go_arith
  ·refine needx_plain rfl (fun a w' dn hr hg hin => ?_)
   refine uponx_step (v := .pointer (some ⟨w'.heap.size, 0, none⟩)) (w' := w'.alloc nilD) ?_ (grow_alloc _ _) (MakeJ.alloc hg (by decide) (hr.not1 7 (by kernel_rfl))) trivial
   clear hin hg hr
   unfold nilD
   obtain ⟨ek, ef⟩ := evs a
   generalize a.eval = ev at *
   go_simp
   all_goals first | omega | (intro _; omega) | go_arith
  ·refine needx_plain rfl (fun a w' dn hr hg hin => ?_)
   have e2 : ((fun _ _ => True)) (a.eval (.tmp 2)) w' := insw_on hin 6 (by kernel_rfl)
   have e15 : ((fun v v12 _ => ∃ e, v12 = .tuple #[v, e])) (a.eval (.tmp 15)) (a.eval (.tmp 11)) w' := insw_on hin 4 (by kernel_rfl)
   obtain ⟨g, v', hf, hz, hfB, hP, hJ'⟩ := MakeJ.store hg (by decide) (hr.rd 2 (by kernel_rfl)) (hr.rd 6 (by kernel_rfl)) hr.un
   have h2 : a.eval (.tmp 2) = .pointer (some ⟨g, 0, none⟩) := hf
   have h14 : a.eval (.tmp 14) = .tuple #[v', .int .i64 0] := hfB
   have e11 : a.eval (.tmp 11) = a.eval (.tmp 14) := insw_on hin 3 (by kernel_rfl)
   obtain ⟨ee, h15⟩ := e15
   rw [e11, h14] at h15
   injection h15 with h15
   injection h15 with h15
   injection h15 with h15 _
   obtain ⟨ab1, cb1, al1, cl1, hv', -, -⟩ := DiskP.form hP
   rw [hv'] at h15
   refine uponx_skip (w' := _) ?_ (box_step2 hz _ _) (hJ' _ _ hv') trivial
   obtain ⟨y0, y1⟩ := box2 hz rfl rfl
   have f0 := box_frozen hz 0
   have f1 := box_frozen hz 1
   have cs := cell_set
   replace h15 := h15.symm
   clear hin hg hr hz hJ' hP hf hfB e2 e11 h14 hv'
   generalize dX.blocks.length = n1 at *
   generalize dX.late.length = n2 at *
   obtain ⟨ek, ef⟩ := evs a
   generalize a.eval = ev at *
   go_simp
   all_goals first | omega | (intro _; omega) | go_arith
  ·refine needx_plain rfl (fun a w' dn hr hg hin => ?_)
   have e : a.eval (.tmp 16) = _ := insw_on hin 5 (by kernel_rfl)
   exact uponx_assign rfl hg e
 ·intro vs w' dn hdn hg ht
  obtain ⟨q12, q13, q14, q11, q15, q16, q2, qo7, q3, -⟩ := ht
  replace q12 : ((fun _ _ => True)) (vs 0) w' := q12
  have r13 : vs 1 = .agg #[.int .i64 2, .int .i64 7, .int .i64 3, .slice none 0 0] := q13
  replace q14 : ((fun _ _ => True)) (vs 2) w' := q14
  replace q11 : ((fun v v15 _ => v = v15)) (vs 3) (vs 2) w' := q11
  replace q15 : ((fun v v12 _ => ∃ e, v12 = .tuple #[v, e])) (vs 4) (vs 3) w' := q15
  have r16 : vs 5 = .int .i64 0 := q16
  replace q2 : ((fun _ _ => True)) (vs 6) w' := q2
  replace qo7 : ((fun _ _ => True)) (vs 7) w' := qo7
  have r3 : vs 8 = .int .i64 0 := q3
  clear q13 q16 q3
  simp only [putAll, Act.put, List.setIfInBounds_toArray, List.set_cons_zero, List.set_cons_succ, Nat.reduceAdd, r13, r16, r3]
  clear r13 r16 r3
  obtain ⟨gN, g2, vb2, vl2, f6, hgW, hx, hd⟩ := MakeJ.done hg (hdn 6 (by decide)) (hdn 7 (by decide))
  rw [f6]
  replace gW := gW.trans gN
  replace hq := (gN.block _ (heap_lt hq)).trans hq
  clear hg hdn f6 q12 q14 q11 q15 q2 qo7 gN
  generalize vs 0 = u0
  generalize vs 2 = u2
  obtain ⟨ab1, cb1, al1, cl1, hv2, -, -⟩ := hd.form
  cases hv2
  have hds := hd.s
  have HF : Hid _ := fineX
  generalize dX.blocks.length = n1 at *
  generalize dX.late.length = n2 at *
  obtain ⟨x0, x1⟩ := box2 hx rfl rfl
  go_wp2_with fail
  refine (HSC _ dX _ _ (fun b h => h) HF.out hds).mono ?_
  rw [scanX]
  rintro e w1 ⟨v1, rfl, hL, g1⟩
  replace hL := hL.all (by decide)
  obtain ⟨a1, c1, hv1⟩ : ∃ a c, v1 = .slice a 1 c := hL.form
  subst hv1
  have gw1 := gW.trans g1
  clear x0 x1 hx hd hds g1 hq gW HF
  go_wp2_with fail
  refine (HAC _ [⟨⟨2, 7, 3, []⟩, 2⟩] ⟨⟨3, 7, 4, []⟩, 0⟩ none 0 _ _ (fun b h => h) rightX (by intro x hx; rw [List.mem_singleton.1 hx]; decide) (by decide) hL (.inl ⟨none, 0, rfl, rfl, fun _ => rfl⟩)).mono ?_
  rw [addX]
  rintro e w2 ⟨v2, rfl, hM, g2⟩
  replace hM := hM.all (by decide)
  obtain ⟨a2, c2, hv2⟩ : ∃ a c, v2 = .slice a 2 c := hM.form
  subst hv2
  have gw2 := gw1.trans g2
  replace hL := hL.grow g2
  clear gw1 g2
  go_wp2_with fail
  refine (HLC _ mX 7 _ _ (fun b h => h) rightY hM).mono ?_
  rw [lastX]
  rintro e w3 ⟨v3, rfl, ⟨x, a3, c3, rfl, hxx⟩, g3⟩
  obtain ⟨rfl, -⟩ := hxx _ rfl
  have gw3 := gw2.trans g3
  have g3' := grow_alloc w3 (.cells #[.int .i64 3, .int .i64 7, .int .i64 4, .slice a3 0 c3, .int .i64 0] 37)
  have hA := heap_new w3 #[.int .i64 3, .int .i64 7, .int .i64 4, .slice a3 0 c3, .int .i64 0] 37
  have gwa := gw3.trans g3'
  replace hL := hL.grow (g3.trans g3')
  replace hM := (hM.grow (g3.trans g3')).all (by decide)
  clear gw2 gw3 g3 g3' hxx
  go_wp2_with fail
  refine (HNC _ mX 7 3 _ _ (fun b h => h) rightY hM).mono ?_
  rw [findX]
  rintro e w4 ⟨v4, rfl, ⟨x, a4, c4, rfl, hxx⟩, g4⟩
  obtain ⟨rfl, -⟩ := hxx _ rfl
  have g4' := grow_alloc w4 (.cells #[.int .i64 2, .int .i64 7, .int .i64 3, .slice a4 0 c4, .int .i64 2] 37)
  have hB := heap_new w4 #[.int .i64 2, .int .i64 7, .int .i64 3, .slice a4 0 c4, .int .i64 2] 37
  have gwb := gwa.trans (g4.trans g4')
  replace hA := ((g4.trans g4').block _ (heap_lt hA)).trans hA
  replace hL := hL.grow (g4.trans g4')
  replace hM := (hM.grow (g4.trans g4')).all (by decide)
  have p4 := box_cell hA 4 _ rfl
  have q4 := box_cell hB 4 _ rfl
  obtain ⟨b, off, a5, c5, hv5, -, -, -, -, r4, -⟩ := ents_at hL 0 (by simp)
  subst hv5
  simp only [Nat.zero_mul, Nat.add_zero] at r4
  clear gwa g4 g4' hxx hA hB hL
  go_wp2_with fail
  refine (HFC _ mX 6 _ _ rightY (by decide) hM).mono ?_
  rintro e w5 ⟨n5, rfl, h5, g5⟩
  obtain rfl := freeX h5
  have gw5 := gwb.trans g5
  replace hM := (hM.grow g5).all (by decide)
  clear gwb g5 h5 p4 q4 r4
  go_wp2_with fail
  refine (HDC _ mX 2 _ _ (fun b h => h) rightY hM).mono ?_
  rw [dropX]
  rintro e w6 ⟨v6, rfl, hD, g6⟩
  obtain ⟨a6, c6, hv6⟩ : ∃ a c, v6 = .slice a 1 c := hD.form
  subst hv6
  have gw6 := gw5.trans g6
  replace hM := (hM.grow g6).all (by decide)
  clear gw5 g6 hD
  go_wp2_with fail
  refine (HOC _ mX _ _ (fun b h => h) rightY hM).mono ?_
  rintro e w7 ⟨v7, rfl, hO, g7⟩
  obtain ⟨a7, c7, hv7⟩ : ∃ a c, v7 = .slice a 2 c := hO.form
  subst hv7
  have gw7 := gw6.trans g7
  clear gw6 g7 hO hM
  go_wp2_with fail
  go_ret
  exact ⟨rfl, gw7⟩
end Go.Proofs.Ytgaecpdokgklpab
