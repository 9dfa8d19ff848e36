/-
  sclaw4.PairSpoil answers true for every disk, pair, record, byte, turn and side.
  Condition: the disk and the record's data lie in memory; pair.Look, Put and Mend keep their contracts (premises).
-/
import Derived.Test.YtgpfflfdigekeaaPAlive
namespace Go.Proofs.Ytgpfflfdigekeaa
set_option maxRecDepth 100000
open Go.RowKit
open Go.Proofs.Ytgpfflfdigekeaa.Plain Go.Proofs.Ytgpfflfdigekeaa.Reg

theorem flush_len {n : Nat} {d : Dk} (h : d.Fine n) : d.flush.blocks.length = 12 := h.flush.len


set_option maxHeartbeats 8000000 in
theorem pairSpoil_of (HLC : LookC) (HPC : PutC) (HMC : MendC) (d : Dk) (p k y n : Int) (l : List UInt8) (nn by_ sd : Int) (vb vl v : Value) (w : World) (hb : BlocksP w vb d.blocks) (hl : LateP w vl d.late) (hv0 : Bytes w v l) :
    Calls Try.prog 13 #[.agg #[vb, vl], .int .i64 p, .agg #[.int .i64 k, .int .i64 y, .int .i64 n, v], .int .i64 nn, .int .i64 by_, .int .i64 sd] w fun e w' => e = .returned (.bool true) ∧ Grow w w' := by
  obtain ⟨ab, cb, rfl⟩ := hb.form
  obtain ⟨al, cl, rfl⟩ := hl.form
  obtain ⟨av, cv, rfl, -, -⟩ := bytes_src hv0
  have hd : DiskS (fun b => b < w.heap.size) d (.agg #[.slice ab d.blocks.length cb, .slice al d.late.length cl]) w := ⟨_, _, rfl, hb.s, hl.s⟩
  have hv := bytes_s hv0
  obtain ⟨S, hS⟩ : ∃ S : Nat → Prop, S = fun b => b < w.heap.size := ⟨_, rfl⟩
  rw [← hS] at hd hv
  have hSw : ∀ b, S b → b < w.heap.size := fun b h => by rw [hS] at h; exact h
  have gW := grow_alloc2 w (.cells #[.slice ab d.blocks.length cb, .slice al d.late.length cl] 46) (.cells #[.int .i64 k, .int .i64 y, .int .i64 n, .slice av l.length cv] 32)
  have hx : ((w.alloc (.cells #[.slice ab d.blocks.length cb, .slice al d.late.length cl] 46)).alloc (.cells #[.int .i64 k, .int .i64 y, .int .i64 n, .slice av l.length cv] 32)).heap[w.heap.size]? = some (.cells #[.slice ab d.blocks.length cb, .slice al d.late.length cl] 46 (0, 0)) := ((grow_alloc _ _).block _ (by simp)).trans (heap_new _ _ _)
  have hq : ((w.alloc (.cells #[.slice ab d.blocks.length cb, .slice al d.late.length cl] 46)).alloc (.cells #[.int .i64 k, .int .i64 y, .int .i64 n, .slice av l.length cv] 32)).heap[w.heap.size + 1]? = some (.cells #[.int .i64 k, .int .i64 y, .int .i64 n, .slice av l.length cv] 32 (0, 0)) := by
    have h := heap_new (w.alloc (.cells #[.slice ab d.blocks.length cb, .slice al d.late.length cl] 46)) #[.int .i64 k, .int .i64 y, .int .i64 n, .slice av l.length cv] 32
    rw [World.size_alloc] at h
    exact h
  clear hS hb hl hv0
  replace hd := hd.grow gW
  replace hv := hv.grow gW
  go_enter Try.func13, Try.ntmps13
  go_wp2_with fail
  refine (palive_of HLC HPC HMC _).mono ?_
  rintro e w3 ⟨rfl, gN⟩
  replace gW := gW.trans gN
  replace hx := (gN.block _ (heap_lt hx)).trans hx
  replace hq := (gN.block _ (heap_lt hq)).trans hq
  replace hd := hd.grow gN
  replace hv := hv.grow gN
  clear gN
  have y0 := box_cell hx 0 _ rfl
  have y1 := box_cell hx 1 _ rfl
  go_wp2_with fail
  refine (rright_c d _ _ hd.p).mono ?_
  rintro e w4 ⟨rfl, gN⟩
  replace gW := gW.trans gN
  replace hx := (gN.block _ (heap_lt hx)).trans hx
  replace hq := (gN.block _ (heap_lt hq)).trans hq
  replace hd := hd.grow gN
  replace hv := hv.grow gN
  clear gN y0 y1
  have r0 := box_cell hq 0 _ rfl
  have r1 := box_cell hq 1 _ rfl
  have r2 := box_cell hq 2 _ rfl
  have r3 := box_cell hq 3 _ rfl
  by_cases hR : d.right = true
  · rw [hR]
    by_cases hp0 : p < 0
    · go_wp2_with fail
      go_ret
      exact ⟨rfl, gW⟩
    · have hp0' : 0 ≤ p := by omega
      clear hp0
      by_cases hp6 : 6 ≤ p
      · go_wp2_with fail
        go_ret
        exact ⟨rfl, gW⟩
      · have hp6' : p < 6 := by omega
        clear hp6
        have hF := (Dk.right_fine hR).mono (m := 100) (by omega)
        have HF : Hid (d.Fine 100) := hF
        clear hR hF
        have hwr := rwrong_any k y n l _ _ hv.p
        generalize hwe : wrong ⟨k, y, n, l⟩ = we at *
        have HWE : Hid _ := hwe
        clear hwe
        go_wp2_with fail
        refine hwr.mono ?_
        rintro e w5 ⟨rfl, gN⟩
        replace gW := gW.trans gN
        replace hx := (gN.block _ (heap_lt hx)).trans hx
        replace hq := (gN.block _ (heap_lt hq)).trans hq
        replace hd := hd.grow gN
        replace hv := hv.grow gN
        clear gN hwr r0 r1 r2 r3
        have r0 := box_cell hq 0 _ rfl
        have r1 := box_cell hq 1 _ rfl
        have r2 := box_cell hq 2 _ rfl
        have r3 := box_cell hq 3 _ rfl
        by_cases hw0 : we = 0
        · subst hw0
          by_cases hk1 : k = 1
          · subst hk1
            go_wp2_with fail
            go_ret
            exact ⟨rfl, gW⟩
          · have dk : (k == 1) = false := by simpa using hk1
            have HK : Hid (k ≠ 1) := hk1
            clear hk1
            by_cases hn0 : nn < 0
            · go_wp2_with fail
              go_ret
              exact ⟨rfl, gW⟩
            · have hn0' : 0 ≤ nn := by omega
              clear hn0
              by_cases hn16 : 16 ≤ nn
              · go_wp2_with fail
                go_ret
                exact ⟨rfl, gW⟩
              · have hn16' : nn < 16 := by omega
                clear hn16
                have a255 := and_255 by_
                by_cases hy0 : by_ % 256 = 0
                · go_wp2_with fail
                  go_ret
                  exact ⟨rfl, gW⟩
                · have dy : (by_ % 256 == 0) = false := by simpa using hy0
                  have HY : Hid (by_ % 256 ≠ 0) := hy0
                  clear hy0
                  by_cases hs0 : sd < 0
                  · go_wp2_with fail
                    go_ret
                    exact ⟨rfl, gW⟩
                  · have hs0' : 0 ≤ sd := by omega
                    clear hs0
                    by_cases hs1 : 1 < sd
                    · go_wp2_with fail
                      go_ret
                      exact ⟨rfl, gW⟩
                    · have hs1' : sd ≤ 1 := by omega
                      clear hs1
                      go_wp2_with fail
                      clear dy a255 r0 r1 r2 r3
                      have hFl : d.flush.Fine 0 := HF.out.flush
                      have hle := hFl.len
                      have HPE : Hid (d.flush.pairE p ⟨k, y, n, l⟩ = 0) := by show _ = _; rw [pairE_in hp0' (by omega)]; exact HWE.out
                      have HFD : Hid ((d.flush.pairD p ⟨k, y, n, l⟩).Fine 2) := hFl.pair p _
                      have HLK : Hid _ := pair_spoil d p ⟨k, y, n, l⟩ nn by_ sd hp0' (by rw [HF.out.len]; omega) (by rw [HF.out.len]; omega) HWE.out HK.out hn0' hn16' HY.out (by omega)
                      have HPE2 : Hid (Dk.new.pairE p ⟨k, y, n, l⟩ = 0) := by show _ = _; rw [pairE_in hp0' (by rw [new_len]; omega)]; exact HWE.out
                      have HFD2 : Hid ((Dk.new.pairD p ⟨k, y, n, l⟩).Fine 2) := new_fine.pair p _
                      have HLK2 : Hid _ := pair_half p ⟨k, y, n, l⟩ sd hp0' hp6' HWE.out HK.out (by omega)
                      clear hle hFl
                      generalize hD : d.flush.pairD p ⟨k, y, n, l⟩ = D at *
                      have HD : Hid _ := hD
                      clear hD
                      generalize hE : Dk.new.pairD p ⟨k, y, n, l⟩ = E at *
                      have HE : Hid _ := hE
                      clear hE
                      have hSW : ∀ b, S b → b < w5.heap.size := fun b h => Nat.lt_of_lt_of_le (hSw b h) gW.size
                      generalize hg0 : w.heap.size = g0 at *
                      clear hg0
                      have hwz : w.heap.size ≤ w5.heap.size := gW.size
                      refine wp_region_x [pl (ex (.agg #[.slice ab d.blocks.length cb, .slice al d.late.length cl])), pl ((fun _ _ => True)), pl (ex (.int .i64 p)), pl (ex (.agg #[.int .i64 k, .int .i64 y, .int .i64 n, .slice av l.length cv])), pl ((fun _ _ => True)), pl1 4 ((fun v v15 _ => v = v15)), pl1 5 ((fun v v12 _ => ∃ e, v12 = .tuple #[v, e])), pl (ex (.int .i64 0)), pl ((fun _ _ => True)), pl ((fun _ _ => True)), pl (ex (.int .i64 0))] [none, none, none, none, none, none, none, none, none, some ((BoxStep 46))] (fun dn f w'' => MakeJ w5 1 4 8 9 d.flush D 0 dn f w'') (by kernel_rfl) (by kernel_rfl) ⟨st_pl (st_ex _), st_pl ((fun _ _ _ _ _ => trivial)), st_pl (st_ex _), st_pl (st_ex _), st_pl ((fun _ _ _ _ _ => trivial)), (fun _ _ _ _ _ h => h), (fun _ _ _ _ _ h => h), st_pl (st_ex _), st_pl ((fun _ _ _ _ _ => trivial)), st_pl ((fun _ _ _ _ _ => trivial)), st_pl (st_ex _), trivial⟩ ⟨⟨(fun w => .inl rfl), ⟨.inr (fun _ _ _ _ _ h => h), .inr ((fun _ _ _ _ _ _ => trivial)), .inr (fun _ _ _ _ _ h => h), .inr (fun _ _ _ _ _ h => h), .inr ((fun _ _ _ _ _ _ => trivial)), .inr ((fun _ _ _ _ _ h => h)), .inr ((fun _ _ _ _ _ h => h)), .inr (fun _ _ _ _ _ h => h), .inr ((fun _ _ _ _ _ _ => trivial)), .inl (by kernel_rfl), .inl (by kernel_rfl), trivial⟩⟩, trivial⟩ ⟨(fun h => by cases h), (fun h => by cases h), (fun h => by cases h), (fun h => by cases h), (fun h => by cases h), (fun h => by cases h), (fun h => by cases h), (fun h => by cases h), (fun h => by cases h), fun _ _ _ _ h => h, (fun h => by cases h), trivial⟩ (fun f => MakeJ.start _ _ _ _ _ _ _ _ f) ?_ ?_
                      · refine ⟨?_, ?_, ?_, ?_, ?_, ?_, ?_, ?_, ?_, ?_, ?_, trivial⟩
                        · refine needx_plain rfl (fun a w' dn hr hg hin => ?_)
                          have e6 : a.eval (.tmp 6) = .pointer (some ⟨g0, 0, none⟩) := insw_ext hin 6 (by kernel_rfl)
                          have hx' := (hg.1.block _ (heap_lt hx)).trans hx
                          have z0 := box_cell hx' 0 _ rfl
                          have z1 := box_cell hx' 1 _ rfl
                          refine uponx_val ?_ hg rfl
                          clear hin hg hr hx'
                          have ek : ∀ x, a.eval (.const x) = x := fun _ => rfl
                          have ef : ∀ f, a.eval (.func f) = .func (.func f) #[] #[] := fun _ => rfl
                          generalize a.eval = ev at *
                          go_simp
                          all_goals first | done | omega | (intro _; omega) | go_arith
                        · refine needx_plain rfl (fun a w' dn hr hg hin => ?_)
                          have e65 : a.eval (.tmp 65) = .agg #[.slice ab d.blocks.length cb, .slice al d.late.length cl] := insw_on hin 0 (by kernel_rfl)
                          refine uponw_call (f := 45) (args := #[.agg #[.slice ab d.blocks.length cb, .slice al d.late.length cl]]) ?_ ((rflush_c S 100 d _ w' (fun b h => Nat.lt_of_lt_of_le (hSW b h) hg.1.size) (hd.grow hg.1) HF.out (by omega)).mono ?_)
                          · clear hin hg hr
                            have ek : ∀ x, a.eval (.const x) = x := fun _ => rfl
                            have ef : ∀ f, a.eval (.func f) = .func (.func f) #[] #[] := fun _ => rfl
                            generalize a.eval = ev at *
                            go_simp
                            all_goals first | done | omega | (intro _; omega) | go_arith
                          · rintro e w2 ⟨v2, rfl, hA, g2⟩
                            exact ⟨_, rfl, g2, trivial, MakeJ.callA hg (by decide) (hr.not1 4 (by kernel_rfl)) (hr.not1 9 (by kernel_rfl)) hSW g2 hA, trivial⟩
                        · refine needx_plain rfl (fun a w' dn hr hg hin => ?_)
                          have e : a.eval (.tmp 1) = .int .i64 p := insw_ext hin 1 (by kernel_rfl)
                          exact uponx_move rfl hg e
                        · refine needx_plain rfl (fun a w' dn hr hg hin => ?_)
                          have e8 : a.eval (.tmp 8) = .pointer (some ⟨g0 + 1, 0, none⟩) := insw_ext hin 8 (by kernel_rfl)
                          have hq' := (hg.1.block _ (heap_lt hq)).trans hq
                          have z0 := box_cell hq' 0 _ rfl
                          have z1 := box_cell hq' 1 _ rfl
                          have z2 := box_cell hq' 2 _ rfl
                          have z3 := box_cell hq' 3 _ rfl
                          refine uponx_val ?_ hg rfl
                          clear hin hg hr hq'
                          have ek : ∀ x, a.eval (.const x) = x := fun _ => rfl
                          have ef : ∀ f, a.eval (.func f) = .func (.func f) #[] #[] := fun _ => rfl
                          generalize a.eval = ev at *
                          go_simp
                          all_goals first | done | omega | (intro _; omega) | go_arith
                        · refine needx_plain rfl (fun a w' dn hr hg hin => ?_)
                          have e66 : ((fun _ _ => True)) (a.eval (.tmp 66)) w' := insw_on hin 1 (by kernel_rfl)
                          have e67 : a.eval (.tmp 67) = .int .i64 p := insw_on hin 2 (by kernel_rfl)
                          have e68 : a.eval (.tmp 68) = .agg #[.int .i64 k, .int .i64 y, .int .i64 n, .slice av l.length cv] := insw_on hin 3 (by kernel_rfl)
                          obtain ⟨S', hS', hdS', hnS'⟩ := MakeJ.leans hg (hr.rd 1 (by kernel_rfl)) (hr.not1 9 (by kernel_rfl))
                          obtain ⟨ab1, cb1, al1, cl1, h66, hb1, hl1⟩ := DiskS.form hdS'
                          replace h66 : a.eval (.tmp 66) = .agg #[.slice ab1 d.flush.blocks.length cb1, .slice al1 d.flush.late.length cl1] := h66
                          refine uponw_call (f := 52) (args := #[.agg #[.slice ab1 d.flush.blocks.length cb1, .slice al1 d.flush.late.length cl1], .int .i64 p, .agg #[.int .i64 k, .int .i64 y, .int .i64 n, .slice av l.length cv]]) ?_ ((HPC S' d.flush p k y n l _ _ w' hS' (HF.out.flush.mono (by omega)) ⟨_, _, rfl, hb1, hl1⟩ (hv.grow hg.1).p).mono ?_)
                          · clear hin hg hr hS' hdS' hnS' hb1 hl1 e66
                            generalize d.flush.blocks.length = n1 at *
                            generalize d.flush.late.length = n2 at *
                            have ek : ∀ x, a.eval (.const x) = x := fun _ => rfl
                            have ef : ∀ f, a.eval (.func f) = .func (.func f) #[] #[] := fun _ => rfl
                            generalize a.eval = ev at *
                            go_simp
                            all_goals first | done | omega | (intro _; omega) | go_arith
                          · rw [HPE.out, HD.out]
                            rintro e w2 ⟨v2, rfl, hA, g2⟩
                            exact ⟨_, rfl, g2, trivial, MakeJ.callB hg (by decide) (hr.not1 9 (by kernel_rfl)) hnS' g2 hA, trivial⟩
                        · refine needx_plain rfl (fun a w' dn hr hg hin => ?_)
                          have e69 : ((fun _ _ => True)) (a.eval (.tmp 69)) w' := insw_on hin 4 (by kernel_rfl)
                          exact uponx_move rfl hg rfl
                        · refine needx_plain rfl (fun a w' dn hr hg hin => ?_)
                          have e64 : ((fun v v15 _ => v = v15)) (a.eval (.tmp 64)) (a.eval (.tmp 69)) w' := insw_on hin 5 (by kernel_rfl)
                          obtain ⟨v', hf2⟩ := hg.2.1 (hr.cl 5 4 (by kernel_rfl) (hr.rd 5 (by kernel_rfl)))
                          have h15 : a.eval (.tmp 69) = .tuple #[v', .int .i64 0] := hf2
                          have h12 : a.eval (.tmp 64) = .tuple #[v', .int .i64 0] := e64.trans h15
                          refine uponx_val (v := v') ?_ hg ⟨_, h12⟩
                          clear hin hg hr e64 hf2 h15
                          have ek : ∀ x, a.eval (.const x) = x := fun _ => rfl
                          have ef : ∀ f, a.eval (.func f) = .func (.func f) #[] #[] := fun _ => rfl
                          generalize a.eval = ev at *
                          go_simp
                          all_goals first | done | omega | (intro _; omega) | go_arith
                        · refine needx_plain rfl (fun a w' dn hr hg hin => ?_)
                          have e64 : ((fun v v15 _ => v = v15)) (a.eval (.tmp 64)) (a.eval (.tmp 69)) w' := insw_on hin 5 (by kernel_rfl)
                          obtain ⟨v', hf2⟩ := hg.2.1 (hr.cl 5 4 (by kernel_rfl) (hr.rd 5 (by kernel_rfl)))
                          have h15 : a.eval (.tmp 69) = .tuple #[v', .int .i64 0] := hf2
                          have h12 : a.eval (.tmp 64) = .tuple #[v', .int .i64 0] := e64.trans h15
                          refine uponx_val ?_ hg rfl
                          clear hin hg hr e64 hf2 h15
                          have ek : ∀ x, a.eval (.const x) = x := fun _ => rfl
                          have ef : ∀ f, a.eval (.func f) = .func (.func f) #[] #[] := fun _ => rfl
                          generalize a.eval = ev at *
                          go_simp
                          all_goals first | done | omega | (intro _; omega) | go_arith
                        · refine needx_plain rfl (fun a w' dn hr hg hin => ?_)
                          refine uponx_step (v := .pointer (some ⟨w'.heap.size, 0, none⟩)) (w' := w'.alloc nilD) ?_ (grow_alloc _ _) (MakeJ.alloc hg (by decide) (hr.not1 9 (by kernel_rfl))) trivial
                          clear hin hg hr
                          unfold nilD
                          have ek : ∀ x, a.eval (.const x) = x := fun _ => rfl
                          have ef : ∀ f, a.eval (.func f) = .func (.func f) #[] #[] := fun _ => rfl
                          generalize a.eval = ev at *
                          go_simp
                          all_goals first | done | omega | (intro _; omega) | go_arith
                        · refine needx_plain rfl (fun a w' dn hr hg hin => ?_)
                          have e13 : ((fun _ _ => True)) (a.eval (.tmp 13)) w' := insw_on hin 8 (by kernel_rfl)
                          have e70 : ((fun v v12 _ => ∃ e, v12 = .tuple #[v, e])) (a.eval (.tmp 70)) (a.eval (.tmp 64)) w' := insw_on hin 6 (by kernel_rfl)
                          obtain ⟨g, v', hf, hz, hfB, hP, hJ'⟩ := MakeJ.store hg (by decide) (hr.rd 4 (by kernel_rfl)) (hr.rd 8 (by kernel_rfl)) hr.un
                          have h2 : a.eval (.tmp 13) = .pointer (some ⟨g, 0, none⟩) := hf
                          have h15 : a.eval (.tmp 69) = .tuple #[v', .int .i64 0] := hfB
                          have e12 : a.eval (.tmp 64) = a.eval (.tmp 69) := insw_on hin 5 (by kernel_rfl)
                          obtain ⟨ee, h16⟩ := e70
                          rw [e12, h15] at h16
                          injection h16 with h16
                          injection h16 with h16
                          injection h16 with h16 _
                          obtain ⟨ab1, cb1, al1, cl1, hv', -, -⟩ := DiskP.form hP
                          rw [hv'] at h16
                          refine uponx_skip (w' := _) ?_ (box_step2 hz _ _) (hJ' _ _ hv') trivial
                          have y0 := box_cell hz 0 _ rfl
                          have y1 := box_cell hz 1 _ rfl
                          have f0 := box_frozen hz 0
                          have f1 := box_frozen hz 1
                          have cs := cell_set
                          replace h16 := h16.symm
                          clear hin hg hr hz hJ' hP hf hfB e13 e12 h15 hv'
                          generalize D.blocks.length = n1 at *
                          generalize D.late.length = n2 at *
                          have ek : ∀ x, a.eval (.const x) = x := fun _ => rfl
                          have ef : ∀ f, a.eval (.func f) = .func (.func f) #[] #[] := fun _ => rfl
                          generalize a.eval = ev at *
                          go_simp
                          all_goals first | done | omega | (intro _; omega) | go_arith
                        · refine needx_plain rfl (fun a w' dn hr hg hin => ?_)
                          have e : a.eval (.tmp 71) = .int .i64 0 := insw_on hin 7 (by kernel_rfl)
                          exact uponx_assign rfl hg e
                      · intro vs w' dn hdn hg ht
                        obtain ⟨q65, q66, q67, q68, q69, q64, q70, q71, q13, qo9, q14, -⟩ := ht
                        have r65 : vs 0 = .agg #[.slice ab d.blocks.length cb, .slice al d.late.length cl] := q65
                        replace q66 : ((fun _ _ => True)) (vs 1) w' := q66
                        have r67 : vs 2 = .int .i64 p := q67
                        have r68 : vs 3 = .agg #[.int .i64 k, .int .i64 y, .int .i64 n, .slice av l.length cv] := q68
                        replace q69 : ((fun _ _ => True)) (vs 4) w' := q69
                        replace q64 : ((fun v v15 _ => v = v15)) (vs 5) (vs 4) w' := q64
                        replace q70 : ((fun v v12 _ => ∃ e, v12 = .tuple #[v, e])) (vs 6) (vs 5) w' := q70
                        have r71 : vs 7 = .int .i64 0 := q71
                        replace q13 : ((fun _ _ => True)) (vs 8) w' := q13
                        replace qo9 : ((fun _ _ => True)) (vs 9) w' := qo9
                        have r14 : vs 10 = .int .i64 0 := q14
                        clear q65 q67 q68 q71 q14
                        simp only [putAll, Act.put, List.setIfInBounds_toArray, List.set_cons_zero, List.set_cons_succ, Nat.reduceAdd, r65, r67, r68, r71, r14]
                        clear r65 r67 r68 r71 r14
                        obtain ⟨gN, g2, vb2, vl2, f6, hgW, hx2, hd2⟩ := MakeJ.done hg (hdn 8 (by decide)) (hdn 9 (by decide))
                        rw [f6]
                        have g5 := gN
                        replace gW := gW.trans gN
                        replace hx := (gN.block _ (heap_lt hx)).trans hx
                        replace hq := (gN.block _ (heap_lt hq)).trans hq
                        replace hd := hd.grow gN
                        replace hv := hv.grow gN
                        clear hg hdn f6 q66 q69 q64 q70 q13 qo9 gN
                        generalize vs 1 = u1
                        generalize vs 4 = u4
                        generalize vs 5 = u5
                        generalize vs 6 = u6
                        obtain ⟨ab2, cb2, al2, cl2, ev, -, -⟩ := hd2.form
                        cases ev
                        have y0 := box_cell hx2 0 _ rfl
                        have y1 := box_cell hx2 1 _ rfl
                        have hfl := rflush_c _ 2 D _ _ (fun _ h => h) hd2.s HFD.out (by omega)
                        have HFF : Hid (D.flush.Fine 0) := HFD.out.flush
                        generalize D.blocks.length = n1 at *
                        generalize D.late.length = n2 at *
                        go_wp2_with fail
                        refine hfl.mono ?_
                        rintro e w6 ⟨v6, rfl, hd6, gN⟩
                        replace hd6 := hd6.p
                        obtain ⟨ab6, cb6, al6, cl6, rfl, -, -⟩ := hd6.form
                        replace gW := gW.trans gN
                        replace hx := (gN.block _ (heap_lt hx)).trans hx
                        replace hq := (gN.block _ (heap_lt hq)).trans hq
                        replace hd := hd.grow gN
                        replace hv := hv.grow gN
                        replace g5 := g5.trans gN
                        clear gN hfl y0 y1 hx2 hd2
                        have hsp := rspoil_c _ 0 D.flush (2 * p + sd) nn by_ _ _ (fun _ h => h) hd6.s HFF.out
                        have HFY : Hid ((D.flush.spoil (2 * p + sd) nn by_).Fine 900) := (HFF.out.spoil _ _ _).mono (by omega)
                        generalize D.flush.spoil (2 * p + sd) nn by_ = Y at *
                        generalize D.flush.blocks.length = n3 at *
                        generalize D.flush.late.length = n4 at *
                        go_wp2_with fail
                        refine hsp.mono ?_
                        rintro e w7 ⟨v7, rfl, hd7, gN⟩
                        replace hd7 := hd7.p
                        obtain ⟨ab7, cb7, al7, cl7, rfl, -, -⟩ := hd7.form
                        have gM := grow_alloc w7 (.cells #[.slice ab7 Y.blocks.length cb7, .slice al7 Y.late.length cl7] 46)
                        have hx7 := heap_new w7 #[.slice ab7 Y.blocks.length cb7, .slice al7 Y.late.length cl7] 46
                        replace hd7 := st_diskp _ _ _ _ gM hd7
                        replace gN := gN.trans gM
                        replace gW := gW.trans gN
                        replace hx := (gN.block _ (heap_lt hx)).trans hx
                        replace hq := (gN.block _ (heap_lt hq)).trans hq
                        replace hd := hd.grow gN
                        replace hv := hv.grow gN
                        replace g5 := g5.trans gN
                        clear gN gM hsp hd6
                        have hlk := HLC Y p _ _ HFY.out hd7
                        rw [HLK.out.1, HLK.out.2] at hlk
                        simp only at hlk
                        generalize Y.blocks.length = n5 at *
                        generalize Y.late.length = n6 at *
                        have y0 := box_cell hx7 0 _ rfl
                        have y1 := box_cell hx7 1 _ rfl
                        go_wp2_with fail
                        refine hlk.mono ?_
                        rintro e w8 ⟨dv8, rfl, ho8, gN⟩
                        obtain ⟨a8, c8, rfl⟩ := own_slice ho8
                        have gM := grow_alloc w8 (.cells #[.int .i64 k, .int .i64 y, .int .i64 n, .slice a8 l.length c8] 32)
                        have hx8 := heap_new w8 #[.int .i64 k, .int .i64 y, .int .i64 n, .slice a8 l.length c8] 32
                        have hb8 := bytes_grow (bytes_own ho8) gM
                        have hz8 : w5.heap.size ≤ w8.heap.size := (g5.trans gN).size
                        have hq8 : g0 + 1 < w8.heap.size := heap_lt ((gN.block _ (heap_lt hq)).trans hq)
                        replace gN := gN.trans gM
                        replace gW := gW.trans gN
                        replace hx := (gN.block _ (heap_lt hx)).trans hx
                        replace hq := (gN.block _ (heap_lt hq)).trans hq
                        replace hd := hd.grow gN
                        replace hv := hv.grow gN
                        replace g5 := g5.trans gN
                        clear gN gM hlk ho8 y0 y1 hx7 hd7
                        have r0 := box_cell hq 0 _ rfl
                        have r1 := box_cell hq 1 _ rfl
                        have r2 := box_cell hq 2 _ rfl
                        have r3 := box_cell hq 3 _ rfl
                        have p0 := box_cell hx8 0 _ rfl
                        have p1 := box_cell hx8 1 _ rfl
                        have p2 := box_cell hx8 2 _ rfl
                        have p3 := box_cell hx8 3 _ rfl
                        have hsm := rsame_any k y n k y n l l _ _ _ hb8 hv.p
                        rw [sameB_refl] at hsm
                        go_wp2_with fail
                        refine hsm.mono ?_
                        rintro e w9 ⟨rfl, gN⟩
                        replace gW := gW.trans gN
                        replace hx := (gN.block _ (heap_lt hx)).trans hx
                        replace hq := (gN.block _ (heap_lt hq)).trans hq
                        replace hd := hd.grow gN
                        replace hv := hv.grow gN
                        replace g5 := g5.trans gN
                        replace hx8 := (gN.block _ (heap_lt hx8)).trans hx8
                        clear gN hsm r0 r1 r2 r3 p0 p1 p2 p3 hb8
                        have hS8 : ∀ b, S b → b < w8.heap.size := fun b h => by
                          have h1 := hSW b h
                          omega
                        have hS9 : ∀ b, S b → b < w9.heap.size := fun b h => Nat.lt_trans (hS8 b h) (heap_lt hx8)
                        generalize w8.heap.size = g8 at *
                        go_wp2_with fail
                        clear hx hd
                        refine wp_region_x [pl ((fun _ _ => True)), pl (ex (.int .i64 p)), pl (ex (.agg #[.int .i64 k, .int .i64 y, .int .i64 n, .slice av l.length cv])), pl ((fun _ _ => True)), pl1 3 ((fun v v15 _ => v = v15)), pl1 4 ((fun v v12 _ => ∃ e, v12 = .tuple #[v, e])), pl (ex (.int .i64 0)), pl ((fun _ _ => True)), pl ((fun _ _ => True)), pl (ex (.int .i64 0))] [none, none, none, none, none, none, none, none, some ((BoxStep 46))] (fun dn f w'' => MakeJ w9 0 3 7 8 Dk.new E 0 dn f w'') (by kernel_rfl) (by kernel_rfl) ⟨st_pl ((fun _ _ _ _ _ => trivial)), st_pl (st_ex _), st_pl (st_ex _), st_pl ((fun _ _ _ _ _ => trivial)), (fun _ _ _ _ _ h => h), (fun _ _ _ _ _ h => h), st_pl (st_ex _), st_pl ((fun _ _ _ _ _ => trivial)), st_pl ((fun _ _ _ _ _ => trivial)), st_pl (st_ex _), trivial⟩ ⟨⟨(fun w => .inl rfl), ⟨.inr ((fun _ _ _ _ _ _ => trivial)), .inr (fun _ _ _ _ _ h => h), .inr (fun _ _ _ _ _ h => h), .inr ((fun _ _ _ _ _ _ => trivial)), .inr ((fun _ _ _ _ _ h => h)), .inr ((fun _ _ _ _ _ h => h)), .inr (fun _ _ _ _ _ h => h), .inr ((fun _ _ _ _ _ _ => trivial)), .inl (by kernel_rfl), .inl (by kernel_rfl), trivial⟩⟩, trivial⟩ ⟨(fun h => by cases h), (fun h => by cases h), (fun h => by cases h), (fun h => by cases h), (fun h => by cases h), (fun h => by cases h), (fun h => by cases h), (fun h => by cases h), fun _ _ _ _ h => h, (fun h => by cases h), trivial⟩ (fun f => MakeJ.start _ _ _ _ _ _ _ _ f) ?_ ?_
                        · refine ⟨?_, ?_, ?_, ?_, ?_, ?_, ?_, ?_, ?_, ?_, trivial⟩
                          · refine needx_plain rfl (fun a w' dn hr hg hin => ?_)
                            refine uponw_call (f := 35) (args := #[]) ?_ ((rnew_c (fun _ => False) w').mono ?_)
                            · clear hin hg hr
                              have ek : ∀ x, a.eval (.const x) = x := fun _ => rfl
                              have ef : ∀ f, a.eval (.func f) = .func (.func f) #[] #[] := fun _ => rfl
                              generalize a.eval = ev at *
                              go_simp
                              all_goals first | done | omega | (intro _; omega) | go_arith
                            · rintro e w2 ⟨v2, rfl, hA, g2⟩
                              exact ⟨_, rfl, g2, trivial, MakeJ.callA hg (by decide) (hr.not1 3 (by kernel_rfl)) (hr.not1 8 (by kernel_rfl)) (fun b h => h.elim) g2 hA, trivial⟩
                          · refine needx_plain rfl (fun a w' dn hr hg hin => ?_)
                            have e : a.eval (.tmp 1) = .int .i64 p := insw_ext hin 1 (by kernel_rfl)
                            exact uponx_move rfl hg e
                          · refine needx_plain rfl (fun a w' dn hr hg hin => ?_)
                            have e8 : a.eval (.tmp 8) = .pointer (some ⟨g0 + 1, 0, none⟩) := insw_ext hin 8 (by kernel_rfl)
                            have hq' := (hg.1.block _ (heap_lt hq)).trans hq
                            have z0 := box_cell hq' 0 _ rfl
                            have z1 := box_cell hq' 1 _ rfl
                            have z2 := box_cell hq' 2 _ rfl
                            have z3 := box_cell hq' 3 _ rfl
                            refine uponx_val ?_ hg rfl
                            clear hin hg hr hq'
                            have ek : ∀ x, a.eval (.const x) = x := fun _ => rfl
                            have ef : ∀ f, a.eval (.func f) = .func (.func f) #[] #[] := fun _ => rfl
                            generalize a.eval = ev at *
                            go_simp
                            all_goals first | done | omega | (intro _; omega) | go_arith
                          · refine needx_plain rfl (fun a w' dn hr hg hin => ?_)
                            have e98 : ((fun _ _ => True)) (a.eval (.tmp 98)) w' := insw_on hin 0 (by kernel_rfl)
                            have e99 : a.eval (.tmp 99) = .int .i64 p := insw_on hin 1 (by kernel_rfl)
                            have e100 : a.eval (.tmp 100) = .agg #[.int .i64 k, .int .i64 y, .int .i64 n, .slice av l.length cv] := insw_on hin 2 (by kernel_rfl)
                            obtain ⟨S', hS', hdS', hnS'⟩ := MakeJ.leans hg (hr.rd 0 (by kernel_rfl)) (hr.not1 8 (by kernel_rfl))
                            obtain ⟨ab1, cb1, al1, cl1, h66, hb1, hl1⟩ := DiskS.form hdS'
                            replace h66 : a.eval (.tmp 98) = .agg #[.slice ab1 Dk.new.blocks.length cb1, .slice al1 Dk.new.late.length cl1] := h66
                            refine uponw_call (f := 52) (args := #[.agg #[.slice ab1 Dk.new.blocks.length cb1, .slice al1 Dk.new.late.length cl1], .int .i64 p, .agg #[.int .i64 k, .int .i64 y, .int .i64 n, .slice av l.length cv]]) ?_ ((HPC S' Dk.new p k y n l _ _ w' hS' (new_fine.mono (by omega)) ⟨_, _, rfl, hb1, hl1⟩ (hv.grow hg.1).p).mono ?_)
                            · clear hin hg hr hS' hdS' hnS' hb1 hl1 e98
                              generalize Dk.new.blocks.length = n1 at *
                              generalize Dk.new.late.length = n2 at *
                              have ek : ∀ x, a.eval (.const x) = x := fun _ => rfl
                              have ef : ∀ f, a.eval (.func f) = .func (.func f) #[] #[] := fun _ => rfl
                              generalize a.eval = ev at *
                              go_simp
                              all_goals first | done | omega | (intro _; omega) | go_arith
                            · rw [HPE2.out, HE.out]
                              rintro e w2 ⟨v2, rfl, hA, g2⟩
                              exact ⟨_, rfl, g2, trivial, MakeJ.callB hg (by decide) (hr.not1 8 (by kernel_rfl)) hnS' g2 hA, trivial⟩
                          · refine needx_plain rfl (fun a w' dn hr hg hin => ?_)
                            have e101 : ((fun _ _ => True)) (a.eval (.tmp 101)) w' := insw_on hin 3 (by kernel_rfl)
                            exact uponx_move rfl hg rfl
                          · refine needx_plain rfl (fun a w' dn hr hg hin => ?_)
                            have e97 : ((fun v v15 _ => v = v15)) (a.eval (.tmp 97)) (a.eval (.tmp 101)) w' := insw_on hin 4 (by kernel_rfl)
                            obtain ⟨v', hf2⟩ := hg.2.1 (hr.cl 4 3 (by kernel_rfl) (hr.rd 4 (by kernel_rfl)))
                            have h15 : a.eval (.tmp 101) = .tuple #[v', .int .i64 0] := hf2
                            have h12 : a.eval (.tmp 97) = .tuple #[v', .int .i64 0] := e97.trans h15
                            refine uponx_val (v := v') ?_ hg ⟨_, h12⟩
                            clear hin hg hr e97 hf2 h15
                            have ek : ∀ x, a.eval (.const x) = x := fun _ => rfl
                            have ef : ∀ f, a.eval (.func f) = .func (.func f) #[] #[] := fun _ => rfl
                            generalize a.eval = ev at *
                            go_simp
                            all_goals first | done | omega | (intro _; omega) | go_arith
                          · refine needx_plain rfl (fun a w' dn hr hg hin => ?_)
                            have e97 : ((fun v v15 _ => v = v15)) (a.eval (.tmp 97)) (a.eval (.tmp 101)) w' := insw_on hin 4 (by kernel_rfl)
                            obtain ⟨v', hf2⟩ := hg.2.1 (hr.cl 4 3 (by kernel_rfl) (hr.rd 4 (by kernel_rfl)))
                            have h15 : a.eval (.tmp 101) = .tuple #[v', .int .i64 0] := hf2
                            have h12 : a.eval (.tmp 97) = .tuple #[v', .int .i64 0] := e97.trans h15
                            refine uponx_val ?_ hg rfl
                            clear hin hg hr e97 hf2 h15
                            have ek : ∀ x, a.eval (.const x) = x := fun _ => rfl
                            have ef : ∀ f, a.eval (.func f) = .func (.func f) #[] #[] := fun _ => rfl
                            generalize a.eval = ev at *
                            go_simp
                            all_goals first | done | omega | (intro _; omega) | go_arith
                          · refine needx_plain rfl (fun a w' dn hr hg hin => ?_)
                            refine uponx_step (v := .pointer (some ⟨w'.heap.size, 0, none⟩)) (w' := w'.alloc nilD) ?_ (grow_alloc _ _) (MakeJ.alloc hg (by decide) (hr.not1 8 (by kernel_rfl))) trivial
                            clear hin hg hr
                            unfold nilD
                            have ek : ∀ x, a.eval (.const x) = x := fun _ => rfl
                            have ef : ∀ f, a.eval (.func f) = .func (.func f) #[] #[] := fun _ => rfl
                            generalize a.eval = ev at *
                            go_simp
                            all_goals first | done | omega | (intro _; omega) | go_arith
                          · refine needx_plain rfl (fun a w' dn hr hg hin => ?_)
                            have e18 : ((fun _ _ => True)) (a.eval (.tmp 18)) w' := insw_on hin 7 (by kernel_rfl)
                            have e102 : ((fun v v12 _ => ∃ e, v12 = .tuple #[v, e])) (a.eval (.tmp 102)) (a.eval (.tmp 97)) w' := insw_on hin 5 (by kernel_rfl)
                            obtain ⟨g, v', hf, hz, hfB, hP, hJ'⟩ := MakeJ.store hg (by decide) (hr.rd 3 (by kernel_rfl)) (hr.rd 7 (by kernel_rfl)) hr.un
                            have h2 : a.eval (.tmp 18) = .pointer (some ⟨g, 0, none⟩) := hf
                            have h15 : a.eval (.tmp 101) = .tuple #[v', .int .i64 0] := hfB
                            have e12 : a.eval (.tmp 97) = a.eval (.tmp 101) := insw_on hin 4 (by kernel_rfl)
                            obtain ⟨ee, h16⟩ := e102
                            rw [e12, h15] at h16
                            injection h16 with h16
                            injection h16 with h16
                            injection h16 with h16 _
                            obtain ⟨ab1, cb1, al1, cl1, hv', -, -⟩ := DiskP.form hP
                            rw [hv'] at h16
                            refine uponx_skip (w' := _) ?_ (box_step2 hz _ _) (hJ' _ _ hv') trivial
                            have y0 := box_cell hz 0 _ rfl
                            have y1 := box_cell hz 1 _ rfl
                            have f0 := box_frozen hz 0
                            have f1 := box_frozen hz 1
                            have cs := cell_set
                            replace h16 := h16.symm
                            clear hin hg hr hz hJ' hP hf hfB e18 e12 h15 hv'
                            generalize E.blocks.length = n1 at *
                            generalize E.late.length = n2 at *
                            have ek : ∀ x, a.eval (.const x) = x := fun _ => rfl
                            have ef : ∀ f, a.eval (.func f) = .func (.func f) #[] #[] := fun _ => rfl
                            generalize a.eval = ev at *
                            go_simp
                            all_goals first | done | omega | (intro _; omega) | go_arith
                          · refine needx_plain rfl (fun a w' dn hr hg hin => ?_)
                            have e : a.eval (.tmp 103) = .int .i64 0 := insw_on hin 6 (by kernel_rfl)
                            exact uponx_assign rfl hg e
                        · intro vs w' dn hdn hg ht
                          obtain ⟨q98, q99, q100, q101, q97, q102, q103, q18, qo8, q19, -⟩ := ht
                          replace q98 : ((fun _ _ => True)) (vs 0) w' := q98
                          have r99 : vs 1 = .int .i64 p := q99
                          have r100 : vs 2 = .agg #[.int .i64 k, .int .i64 y, .int .i64 n, .slice av l.length cv] := q100
                          replace q101 : ((fun _ _ => True)) (vs 3) w' := q101
                          replace q97 : ((fun v v15 _ => v = v15)) (vs 4) (vs 3) w' := q97
                          replace q102 : ((fun v v12 _ => ∃ e, v12 = .tuple #[v, e])) (vs 5) (vs 4) w' := q102
                          have r103 : vs 6 = .int .i64 0 := q103
                          replace q18 : ((fun _ _ => True)) (vs 7) w' := q18
                          replace qo8 : ((fun _ _ => True)) (vs 8) w' := qo8
                          have r19 : vs 9 = .int .i64 0 := q19
                          clear q99 q100 q103 q19
                          simp only [putAll, Act.put, List.setIfInBounds_toArray, List.set_cons_zero, List.set_cons_succ, Nat.reduceAdd, r99, r100, r103, r19]
                          clear r99 r100 r103 r19
                          obtain ⟨gN, g3, vb3, vl3, f7, hgW3, hx3, hd3⟩ := MakeJ.done hg (hdn 7 (by decide)) (hdn 8 (by decide))
                          rw [f7]
                          replace gW := gW.trans gN
                          replace hq := (gN.block _ (heap_lt hq)).trans hq
                          replace hv := hv.grow gN
                          replace hx8 := (gN.block _ (heap_lt hx8)).trans hx8
                          clear hg hdn f7 q98 q101 q97 q102 q18 qo8 gN
                          generalize vs 0 = s0
                          generalize vs 3 = s3
                          generalize vs 4 = s4
                          generalize vs 5 = s5
                          obtain ⟨ab3, cb3, al3, cl3, ev, -, -⟩ := hd3.form
                          cases ev
                          have y0 := box_cell hx3 0 _ rfl
                          have y1 := box_cell hx3 1 _ rfl
                          have hkp := rkeep_c _ 2 E (1 + sd) _ _ (fun _ h => h) hd3.s HFD2.out (by omega)
                          have HFK : Hid ((E.keep (1 + sd)).Fine 900) := (HFD2.out.kept _).mono (by omega)
                          generalize E.keep (1 + sd) = K at *
                          generalize E.blocks.length = n1 at *
                          generalize E.late.length = n2 at *
                          go_wp2_with fail
                          refine hkp.mono ?_
                          rintro e w10 ⟨v10, rfl, hd10, gN⟩
                          replace hd10 := hd10.p
                          obtain ⟨ab4, cb4, al4, cl4, rfl, -, -⟩ := hd10.form
                          replace gW := gW.trans gN
                          replace hq := (gN.block _ (heap_lt hq)).trans hq
                          replace hv := hv.grow gN
                          replace hx8 := (gN.block _ (heap_lt hx8)).trans hx8
                          clear gN hkp y0 y1 hx3 hd3
                          have hlk := HLC K p _ _ HFK.out hd10
                          rw [HLK2.out.1, HLK2.out.2] at hlk
                          simp only at hlk
                          generalize K.blocks.length = n3 at *
                          generalize K.late.length = n4 at *
                          go_wp2_with fail
                          refine hlk.mono ?_
                          rintro e w11 ⟨dv11, rfl, ho11, gN⟩
                          obtain ⟨a11, c11, rfl⟩ := own_slice ho11
                          replace gW := gW.trans gN
                          replace hq := (gN.block _ (heap_lt hq)).trans hq
                          replace hv := hv.grow gN
                          replace hx8 := (gN.block _ (heap_lt hx8)).trans hx8
                          clear gN hlk hd10
                          obtain ⟨hp1, hp2⟩ := box_put hx8 (.int .i64 k) (.int .i64 y) (.int .i64 n) (.slice a11 l.length c11)
                          have hstep : BoxStep 32 w11 _ := .inr ⟨g8, _, _, hp2, hx8, hp1, rfl⟩
                          have hb11 := bytes_own (own_box (by decide) hstep ho11)
                          have z0 := box_cell hx8 0 _ rfl
                          have z1 := box_cell hx8 1 _ rfl
                          have z2 := box_cell hx8 2 _ rfl
                          have z3 := box_cell hx8 3 _ rfl
                          have f0 := box_frozen hx8 0
                          have f1 := box_frozen hx8 1
                          have f2 := box_frozen hx8 2
                          have f3 := box_frozen hx8 3
                          have cs := cell_set
                          replace hq := (hp2.block _ (heap_lt hq) (by omega)).trans hq
                          replace hv := hv.but hp2 (fun h => absurd (hS8 _ h) (Nat.lt_irrefl _))
                          replace gW := hp2.grow gW (by omega)
                          have hsm := rsame_any k y n k y n l l _ _ _ hb11 hv.p
                          rw [sameB_refl] at hsm
                          have r0 := box_cell hq 0 _ rfl
                          have r1 := box_cell hq 1 _ rfl
                          have r2 := box_cell hq 2 _ rfl
                          have r3 := box_cell hq 3 _ rfl
                          have p0 := box_cell hp1 0 _ rfl
                          have p1 := box_cell hp1 1 _ rfl
                          have p2 := box_cell hp1 2 _ rfl
                          have p3 := box_cell hp1 3 _ rfl
                          clear hp2 hstep ho11 hx8
                          go_wp2_with fail
                          refine hsm.mono ?_
                          rintro e w12 ⟨rfl, gN⟩
                          replace gW := gW.trans gN
                          clear gN hsm r0 r1 r2 r3 p0 p1 p2 p3 hb11 hq hp1 hv z0 z1 z2 z3 f0 f1 f2 f3
                          go_wp2_with fail
                          go_ret
                          exact ⟨rfl, gW⟩
        · have dw : (we != 0) = true := by simpa using hw0
          clear hw0
          go_wp2_with fail
          go_ret
          exact ⟨rfl, gW⟩
  · have hR' : d.right = false := by simpa using hR
    rw [hR']
    clear hR hR'
    go_wp2_with fail
    go_ret
    exact ⟨rfl, gW⟩
end Go.Proofs.Ytgpfflfdigekeaa
