/-
  sclaw3.DiskKeep answers true for every disk and number.
  Condition: the disk lies in memory.
-/
import Derived.Test.YtobhchebggaipaaDAlive
namespace Go.Proofs.Ytobhchebggaipaa
open Go.RowKit
open Go.Proofs.Ytobhchebggaipaa.Plain Go.Proofs.Ytobhchebggaipaa.Reg

theorem run_str2 (w : World) (v : Value) (l : List UInt8) (h : Bytes w v l) : (convert 22 9 v).run Try.prog w = .ok (.string ⟨l.toArray⟩) w := run_str w v l h

/-- Is this what block k was, or one of the first j writes of it? -/
def oneB (d : Dk) (x : List UInt8) (k j : Nat) : Bool := (x == d.blocks.getD k []) || (d.late.take j).any (fun y => y.1 == (k : Int) && y.2 == x)
theorem oneB_zero (d : Dk) (x : List UInt8) (k : Nat) : oneB d x k 0 = (x == d.blocks.getD k []) := by simp [oneB]
theorem oneB_succ (d : Dk) (x : List UInt8) (k j : Nat) (h : j < d.late.length) : oneB d x k (j + 1) = (oneB d x k j || (d.late[j].1 == (k : Int) && d.late[j].2 == x)) := by
  unfold oneB
  rw [List.take_succ_eq_append_getElem h, List.any_append, Bool.or_assoc]
  simp
theorem oneB_end (d : Dk) (bt : Int) (hp : ∀ x ∈ d.late, 0 ≤ x.1) (k : Nat) (hk : k < d.blocks.length) (hk2 : k < (d.keep bt).blocks.length) : oneB d (d.keep bt).blocks[k] k d.late.length = true := by
  have h := d.keepTo_some (bitOn bt) hp k hk d.late.length (Nat.le_refl _)
  rw [show d.keepTo (bitOn bt) d.late.length = (d.keep bt).blocks from rfl, getD_at _ _ _ hk2] at h
  unfold oneB
  rw [List.take_length]
  rcases h with h | ⟨i, hi, h1, h2⟩
  · rw [h]; simp
  · have : d.late.any (fun y => y.1 == (k : Int) && y.2 == (d.keep bt).blocks[k]) = true := by
      rw [List.any_eq_true]
      exact ⟨d.late[i], List.getElem_mem _, by rw [h1, h2]; simp⟩
    rw [this]; simp

set_option maxRecDepth 100000 in
set_option maxHeartbeats 4000000 in
theorem diskKeep_any (d : Dk) (bt : Int) (vb vl : Value) (w : World) (hb : BlocksP w vb d.blocks) (hl : LateP w vl d.late) :
    Calls Try.prog 10 #[.agg #[vb, vl], .int .i64 bt] w fun e w' => e = .returned (.bool true) ∧ Grow w w' := by
  obtain ⟨ab, cb, rfl⟩ := hb.form
  obtain ⟨al, cl, rfl⟩ := hl.form
  have gW := grow_alloc w (.cells #[.slice ab d.blocks.length cb, .slice al d.late.length cl] 46)
  have hx := heap_new w #[.slice ab d.blocks.length cb, .slice al d.late.length cl] 46
  go_enter Try.func10, Try.ntmps10
  go_wp2_with fail
  refine (dalive_any _).mono ?_
  rintro e w3 ⟨rfl, gN⟩
  replace gW := gW.trans gN
  replace hx := (gN.block _ (heap_lt hx)).trans hx
  replace hb := hb.grow gW
  replace hl := hl.grow gW
  clear gN
  have y0 := box_cell hx 0 _ rfl
  have y1 := box_cell hx 1 _ rfl
  generalize w.heap.size = g0 at *
  go_wp2_with fail
  refine (rightDisk_any d _ _ _ hb hl).mono ?_
  rintro e w4 ⟨rfl, gN⟩
  replace gW := gW.trans gN
  replace hx := (gN.block _ (heap_lt hx)).trans hx
  replace hb := hb.grow gN
  replace hl := hl.grow gN
  clear y0 y1 gN
  by_cases hR : d.right = true
  · rw [hR]
    obtain ⟨h12, h40, hb16, hl16, hp⟩ := Dk.right_all hR
    have h12a : d.blocks.length ≤ 256 := by omega
    have h12b : 0 < d.blocks.length := by omega
    have HP : Hid (∀ x ∈ d.late, 0 ≤ x.1 ∧ x.1 < (d.blocks.length : Int)) := hp
    clear hp h12 hR
    go_wp2_with fail
    refine wp_region_x [pl (ex (.agg #[.slice ab d.blocks.length cb, .slice al d.late.length cl])), pl (DiskQ 0 (d.keep 0)), pl (ex (.agg #[.slice ab d.blocks.length cb, .slice al d.late.length cl])), pl (ex (.int .i64 bt)), pl (DiskQ 0 (d.keep bt)), pl ((fun _ _ => True)), pl ((fun _ _ => True)), pl ((fun _ _ => True)), pl ((fun _ _ => True))] [none, none, none, none, none, none, none, some ((BoxStep 46)), some ((BoxStep 46))] (fun dn f w'' => TwoJ w4 1 4 5 6 7 8 dn f w'') (by kernel_rfl) (by kernel_rfl) ⟨st_pl (st_ex _), st_pl (st_diskq _ _), st_pl (st_ex _), st_pl (st_ex _), st_pl (st_diskq _ _), st_pl ((fun _ _ _ _ _ => trivial)), st_pl ((fun _ _ _ _ _ => trivial)), st_pl ((fun _ _ _ _ _ => trivial)), st_pl ((fun _ _ _ _ _ => trivial)), trivial⟩ ⟨⟨(fun w => .inl rfl), ⟨.inr (fun _ _ _ _ _ h => h), .inr ((fun v _ w w' hs hq => DiskQ.box hq hs)), .inr (fun _ _ _ _ _ h => h), .inr (fun _ _ _ _ _ h => h), .inr ((fun v _ w w' hs hq => DiskQ.box hq hs)), .inr ((fun _ _ _ _ _ _ => trivial)), .inr ((fun _ _ _ _ _ _ => trivial)), .inl (by kernel_rfl), .inl (by kernel_rfl), trivial⟩⟩, ⟨(fun w => .inl rfl), ⟨.inr (fun _ _ _ _ _ h => h), .inr ((fun v _ w w' hs hq => DiskQ.box hq hs)), .inr (fun _ _ _ _ _ h => h), .inr (fun _ _ _ _ _ h => h), .inr ((fun v _ w w' hs hq => DiskQ.box hq hs)), .inr ((fun _ _ _ _ _ _ => trivial)), .inr ((fun _ _ _ _ _ _ => trivial)), .inr ((fun _ _ _ _ _ _ => trivial)), .inl (by kernel_rfl), trivial⟩⟩, trivial⟩ ⟨(fun h => by cases h), (fun h => by cases h), (fun h => by cases h), (fun h => by cases h), (fun h => by cases h), (fun h => by cases h), (fun h => by cases h), fun _ _ _ _ h => h, fun _ _ _ _ h => h, trivial⟩ (fun f => TwoJ.start _ _ _ _ _ _ _ f) ?_ ?_
    · refine ⟨?_, ?_, ?_, ?_, ?_, ?_, ?_, ?_, ?_, trivial⟩
      · refine needx_plain rfl (fun a w' dn hr hg hin => ?_)
        have e2 : a.eval (.tmp 2) = .pointer (some ⟨g0, 0, none⟩) := insw_ext hin 2 (by kernel_rfl)
        have z0 := box_cell ((hg.1.block _ (heap_lt hx)).trans hx) 0 _ rfl
        have z1 := box_cell ((hg.1.block _ (heap_lt hx)).trans hx) 1 _ rfl
        refine uponx_val ?_ hg rfl
        clear hin hg hr
        have ek : ∀ x, a.eval (.const x) = x := fun _ => rfl
        have ef : ∀ f, a.eval (.func f) = .func (.func f) #[] #[] := fun _ => rfl
        generalize a.eval = ev at *
        go_simp
        all_goals first | done | omega | (intro _; omega) | go_arith
      · refine needx_plain rfl (fun a w' dn hr hg hin => ?_)
        have e17 : a.eval (.tmp 17) = .agg #[.slice ab d.blocks.length cb, .slice al d.late.length cl] := insw_on hin 0 (by kernel_rfl)
        refine uponw_call (f := 40) (args := #[.agg #[.slice ab d.blocks.length cb, .slice al d.late.length cl], .int .i64 0]) ?_ ((keepP_any d 0 _ _ w' (hb.grow hg.1) (hl.grow hg.1) h12b h12a (by omega) hb16 hl16 HP.out).mono ?_)
        · clear hin hg hr
          have ek : ∀ x, a.eval (.const x) = x := fun _ => rfl
          have ef : ∀ f, a.eval (.func f) = .func (.func f) #[] #[] := fun _ => rfl
          generalize a.eval = ev at *
          go_simp
          all_goals first | done | omega | (intro _; omega) | go_arith
        · rintro e w2 ⟨v2, rfl, hA, g2⟩
          exact ⟨_, rfl, g2, trivial, TwoJ.call1 (TwoJ.grow hg g2) (by decide) (hr.not1 7 (by kernel_rfl)), hA.mono (Nat.zero_le _)⟩
      · refine needx_plain rfl (fun a w' dn hr hg hin => ?_)
        have e2 : a.eval (.tmp 2) = .pointer (some ⟨g0, 0, none⟩) := insw_ext hin 2 (by kernel_rfl)
        have z0 := box_cell ((hg.1.block _ (heap_lt hx)).trans hx) 0 _ rfl
        have z1 := box_cell ((hg.1.block _ (heap_lt hx)).trans hx) 1 _ rfl
        refine uponx_val ?_ hg rfl
        clear hin hg hr
        have ek : ∀ x, a.eval (.const x) = x := fun _ => rfl
        have ef : ∀ f, a.eval (.func f) = .func (.func f) #[] #[] := fun _ => rfl
        generalize a.eval = ev at *
        go_simp
        all_goals first | done | omega | (intro _; omega) | go_arith
      · refine needx_plain rfl (fun a w' dn hr hg hin => ?_)
        have e : a.eval (.tmp 1) = .int .i64 bt := insw_ext hin 1 (by kernel_rfl)
        exact uponx_move rfl hg e
      · refine needx_plain rfl (fun a w' dn hr hg hin => ?_)
        have e19 : a.eval (.tmp 19) = .agg #[.slice ab d.blocks.length cb, .slice al d.late.length cl] := insw_on hin 2 (by kernel_rfl)
        have e20 : a.eval (.tmp 20) = .int .i64 bt := insw_on hin 3 (by kernel_rfl)
        refine uponw_call (f := 40) (args := #[.agg #[.slice ab d.blocks.length cb, .slice al d.late.length cl], .int .i64 bt]) ?_ ((keepP_any d bt _ _ w' (hb.grow hg.1) (hl.grow hg.1) h12b h12a (by omega) hb16 hl16 HP.out).mono ?_)
        · clear hin hg hr
          have ek : ∀ x, a.eval (.const x) = x := fun _ => rfl
          have ef : ∀ f, a.eval (.func f) = .func (.func f) #[] #[] := fun _ => rfl
          generalize a.eval = ev at *
          go_simp
          all_goals first | done | omega | (intro _; omega) | go_arith
        · rintro e w2 ⟨v2, rfl, hA, g2⟩
          exact ⟨_, rfl, g2, trivial, (TwoJ.call1 (TwoJ.grow hg g2).symm (by decide) (hr.not1 8 (by kernel_rfl))).symm, hA.mono (Nat.zero_le _)⟩
      · refine needx_plain rfl (fun a w' dn hr hg hin => ?_)
        refine uponx_step (v := .pointer (some ⟨w'.heap.size, 0, none⟩)) (w' := w'.alloc nilD) ?_ (grow_alloc _ _) (TwoJ.alloc1 hg (by decide) (hr.not1 7 (by kernel_rfl))) trivial
        clear hin hg hr
        unfold nilD
        have ek : ∀ x, a.eval (.const x) = x := fun _ => rfl
        have ef : ∀ f, a.eval (.func f) = .func (.func f) #[] #[] := fun _ => rfl
        generalize a.eval = ev at *
        go_simp
        all_goals first | done | omega | (intro _; omega) | go_arith
      · refine needx_plain rfl (fun a w' dn hr hg hin => ?_)
        refine uponx_step (v := .pointer (some ⟨w'.heap.size, 0, none⟩)) (w' := w'.alloc nilD) ?_ (grow_alloc _ _) (TwoJ.alloc1 (TwoJ.symm hg) (by decide) (hr.not1 8 (by kernel_rfl))).symm trivial
        clear hin hg hr
        unfold nilD
        have ek : ∀ x, a.eval (.const x) = x := fun _ => rfl
        have ef : ∀ f, a.eval (.func f) = .func (.func f) #[] #[] := fun _ => rfl
        generalize a.eval = ev at *
        go_simp
        all_goals first | done | omega | (intro _; omega) | go_arith
      · refine needx_plain rfl (fun a w' dn hr hg hin => ?_)
        have e5 : ((fun _ _ => True)) (a.eval (.tmp 5)) w' := insw_on hin 5 (by kernel_rfl)
        have e18 : (DiskQ 0 (d.keep 0)) (a.eval (.tmp 18)) w' := insw_on hin 1 (by kernel_rfl)
        obtain ⟨ab1, cb1, al1, cl1, h18, -, -⟩ := DiskP.form (DiskQ.p e18)
        obtain ⟨g, hf, hz, hJ'⟩ := TwoJ.store1 hg (by decide) (hr.rd 5 (by kernel_rfl)) (hr.rd 6 (by kernel_rfl)) hr.un h18
        have h5 : a.eval (.tmp 5) = .pointer (some ⟨g, 0, none⟩) := hf
        refine uponx_skip (w' := _) ?_ (box_step2 hz _ _) hJ' trivial
        have y0 := box_cell hz 0 _ rfl
        have y1 := box_cell hz 1 _ rfl
        have f0 := box_frozen hz 0
        have f1 := box_frozen hz 1
        have cs := cell_set
        clear hin hg hr hz hJ' e18 hf e5
        generalize (d.keep 0).blocks.length = n1 at *
        generalize (d.keep 0).late.length = n2 at *
        have ek : ∀ x, a.eval (.const x) = x := fun _ => rfl
        have ef : ∀ f, a.eval (.func f) = .func (.func f) #[] #[] := fun _ => rfl
        generalize a.eval = ev at *
        go_simp
        all_goals first | done | omega | (intro _; omega) | go_arith
      · refine needx_plain rfl (fun a w' dn hr hg hin => ?_)
        have e6 : ((fun _ _ => True)) (a.eval (.tmp 6)) w' := insw_on hin 6 (by kernel_rfl)
        have e21 : (DiskQ 0 (d.keep bt)) (a.eval (.tmp 21)) w' := insw_on hin 4 (by kernel_rfl)
        obtain ⟨ab1, cb1, al1, cl1, h21, -, -⟩ := DiskP.form (DiskQ.p e21)
        obtain ⟨g, hf, hz, hJ'⟩ := TwoJ.store1 (TwoJ.symm hg) (by decide) (hr.rd 6 (by kernel_rfl)) (hr.rd 5 (by kernel_rfl)) hr.un h21
        have h6 : a.eval (.tmp 6) = .pointer (some ⟨g, 0, none⟩) := hf
        refine uponx_skip (w' := _) ?_ (box_step2 hz _ _) hJ'.symm trivial
        have y0 := box_cell hz 0 _ rfl
        have y1 := box_cell hz 1 _ rfl
        have f0 := box_frozen hz 0
        have f1 := box_frozen hz 1
        have cs := cell_set
        clear hin hg hr hz hJ' e21 hf e6
        generalize (d.keep bt).blocks.length = n1 at *
        generalize (d.keep bt).late.length = n2 at *
        have ek : ∀ x, a.eval (.const x) = x := fun _ => rfl
        have ef : ∀ f, a.eval (.func f) = .func (.func f) #[] #[] := fun _ => rfl
        generalize a.eval = ev at *
        go_simp
        all_goals first | done | omega | (intro _; omega) | go_arith
    · intro vs w' dn hdn hg ht
      obtain ⟨q17, q18, q19, q20, q21, q5, q6, qo7, qo8, -⟩ := ht
      have r17 : vs 0 = .agg #[.slice ab d.blocks.length cb, .slice al d.late.length cl] := q17
      replace q18 : (DiskQ 0 (d.keep 0)) (vs 1) w' := q18
      have r19 : vs 2 = .agg #[.slice ab d.blocks.length cb, .slice al d.late.length cl] := q19
      have r20 : vs 3 = .int .i64 bt := q20
      replace q21 : (DiskQ 0 (d.keep bt)) (vs 4) w' := q21
      replace q5 : ((fun _ _ => True)) (vs 5) w' := q5
      replace q6 : ((fun _ _ => True)) (vs 6) w' := q6
      replace qo7 : ((fun _ _ => True)) (vs 7) w' := qo7
      replace qo8 : ((fun _ _ => True)) (vs 8) w' := qo8
      clear q17 q19 q20
      simp only [putAll, Act.put, List.setIfInBounds_toArray, List.set_cons_zero, List.set_cons_succ, Nat.reduceAdd, r17, r19, r20]
      clear r17 r19 r20
      obtain ⟨gk, gl, vbk, vlk, vbl, vll, f5, f6, c20, c22, hxk, hxl⟩ := TwoJ.done hg (hdn 5 (by decide)) (hdn 6 (by decide)) (hdn 7 (by decide)) (hdn 8 (by decide))
      replace q18 := DiskQ.p q18
      replace q21 := DiskQ.p q21
      rw [c20] at q18
      rw [c22] at q21
      obtain ⟨x1, x2, ex, hbk, hlk⟩ := q18
      cases ex
      obtain ⟨x1, x2, ex, hbl, hll⟩ := q21
      cases ex
      rw [f5, f6]
      have g4 := hg.1
      replace hx := (g4.block _ (heap_lt hx)).trans hx
      replace hb := hb.grow g4
      replace hl := hl.grow g4
      replace gW := gW.trans g4
      clear hg hdn q5 q6 qo7 qo8 f5 f6 g4
      generalize vs 1 = u20
      generalize vs 4 = u22
      clear c20 c22
      have HKN : Hid ((d.keep 0).blocks = d.blocks) := d.keep_none
      have HKA : Hid (d.keep (-1) = d.flush) := d.keep_all (by omega)
      have HKL : Hid ((d.keep bt).blocks.length = d.blocks.length) := d.keepTo_length _ _
      have HFL : Hid (d.flush.blocks.length = d.blocks.length) := d.keepTo_length _ _
      rw [HKN.out] at hbk
      obtain ⟨abk, cbk, rfl⟩ := hbk.form
      obtain ⟨alk, clk, rfl⟩ := hlk.form
      obtain ⟨abl, cbl, rfl⟩ := hbl.form
      obtain ⟨all, cll, rfl⟩ := hll.form
      have hz1 : (d.keep 0).late.length = 0 := rfl
      have hz2 : (d.keep bt).late.length = 0 := rfl
      rw [hz1] at hxk
      rw [hz2] at hxl
      clear hz1 hz2 hlk hll
      rw [HKL.out] at hxl hbl
      go_wp2_with fail
      have y0 := box_cell hx 0 _ rfl
      have y1 := box_cell hx 1 _ rfl
      have p0 := box_cell hxk 0 _ rfl
      have p1 := box_cell hxk 1 _ rfl
      have q0 := box_cell hxl 0 _ rfl
      have q1 := box_cell hxl 1 _ rfl
      refine wp_region_told [ex (.pointer (some ⟨gk, 0, none⟩)), ex (.slice abk d.blocks.length cbk), ex (.pointer (some ⟨g0, 0, none⟩)), ex (.slice ab d.blocks.length cb), ex (.bool true), ex (.bool false), ex (.bool false), ex (.agg #[.slice ab d.blocks.length cb, .slice al d.late.length cl]), (DiskP d.flush), ex (.agg #[.slice ab d.blocks.length cb, .slice al d.late.length cl]), (DiskP d.flush), ex (.bool true), ex (.bool false), ex (.bool false), ex (.bool false), ex (.pointer (some ⟨gl, 1, none⟩)), ex (.slice all 0 cll), ex (.int .i64 0), ex (.pointer (some ⟨gk, 1, none⟩)), ex (.slice alk 0 clk), ex (.int .i64 0), ex (.int .i64 0), ex (.bool false), ex (.bool false)] (by kernel_rfl) (by kernel_rfl) ⟨st_ex _, st_ex _, st_ex _, st_ex _, st_ex _, st_ex _, st_ex _, st_ex _, st_diskp _, st_ex _, st_diskp _, st_ex _, st_ex _, st_ex _, st_ex _, st_ex _, st_ex _, st_ex _, st_ex _, st_ex _, st_ex _, st_ex _, st_ex _, st_ex _, trivial⟩ ?_ ?_
      · refine ⟨?_, ?_, ?_, ?_, ?_, ?_, ?_, ?_, ?_, ?_, ?_, ?_, ?_, ?_, ?_, ?_, ?_, ?_, ?_, ?_, ?_, ?_, ?_, ?_, trivial⟩
        · refine need_plain rfl (fun a w' hg hin => ?_)
          have e5 : a.eval (.tmp 5) = .pointer (some ⟨gk, 0, none⟩) := ins_ext hin 5 (by kernel_rfl)
          refine upon_val ?_ rfl
          clear hin hg
          have ek : ∀ x, a.eval (.const x) = x := fun _ => rfl
          have ef : ∀ f, a.eval (.func f) = .func (.func f) #[] #[] := fun _ => rfl
          generalize a.eval = ev at *
          go_simp
          all_goals first | done | omega | (intro _; omega) | go_arith
        · refine need_plain rfl (fun a w' hg hin => ?_)
          have e22 : a.eval (.tmp 22) = .pointer (some ⟨gk, 0, none⟩) := ins_on hin 0 (by kernel_rfl)
          have z0 := (Below.cell hg (cell_lt p0)).trans p0
          refine upon_val ?_ rfl
          clear hin hg
          have ek : ∀ x, a.eval (.const x) = x := fun _ => rfl
          have ef : ∀ f, a.eval (.func f) = .func (.func f) #[] #[] := fun _ => rfl
          generalize a.eval = ev at *
          go_simp
          all_goals first | done | omega | (intro _; omega) | go_arith
        · refine need_plain rfl (fun a w' hg hin => ?_)
          have e2 : a.eval (.tmp 2) = .pointer (some ⟨g0, 0, none⟩) := ins_ext hin 2 (by kernel_rfl)
          refine upon_val ?_ rfl
          clear hin hg
          have ek : ∀ x, a.eval (.const x) = x := fun _ => rfl
          have ef : ∀ f, a.eval (.func f) = .func (.func f) #[] #[] := fun _ => rfl
          generalize a.eval = ev at *
          go_simp
          all_goals first | done | omega | (intro _; omega) | go_arith
        · refine need_plain rfl (fun a w' hg hin => ?_)
          have e24 : a.eval (.tmp 24) = .pointer (some ⟨g0, 0, none⟩) := ins_on hin 2 (by kernel_rfl)
          have z0 := (Below.cell hg (cell_lt y0)).trans y0
          refine upon_val ?_ rfl
          clear hin hg
          have ek : ∀ x, a.eval (.const x) = x := fun _ => rfl
          have ef : ∀ f, a.eval (.func f) = .func (.func f) #[] #[] := fun _ => rfl
          generalize a.eval = ev at *
          go_simp
          all_goals first | done | omega | (intro _; omega) | go_arith
        · refine need_plain rfl (fun a w' hg hin => ?_)
          have e23 : a.eval (.tmp 23) = .slice abk d.blocks.length cbk := ins_on hin 1 (by kernel_rfl)
          have e25 : a.eval (.tmp 25) = .slice ab d.blocks.length cb := ins_on hin 3 (by kernel_rfl)
          refine upon_call (f := 47) (args := #[.slice abk d.blocks.length cbk, .slice ab d.blocks.length cb]) ?_ ((sameBlocks_any d.blocks d.blocks _ _ w' (hbk.grow hg) (hb.grow hg) (by omega)).mono ?_)
          · clear hin hg
            have ek : ∀ x, a.eval (.const x) = x := fun _ => rfl
            have ef : ∀ f, a.eval (.func f) = .func (.func f) #[] #[] := fun _ => rfl
            generalize a.eval = ev at *
            go_simp
            all_goals first | done | omega | (intro _; omega) | go_arith
          · rw [beq_true' rfl]
            rintro e w2 ⟨rfl, g2⟩
            exact ⟨_, rfl, g2, rfl⟩
        · refine need_plain rfl (fun a w' hg hin => ?_)
          have e26 : a.eval (.tmp 26) = .bool true := ins_on hin 4 (by kernel_rfl)
          refine upon_val ?_ rfl
          clear hin hg
          have ek : ∀ x, a.eval (.const x) = x := fun _ => rfl
          have ef : ∀ f, a.eval (.func f) = .func (.func f) #[] #[] := fun _ => rfl
          generalize a.eval = ev at *
          go_simp
          all_goals first | done | omega | (intro _; omega) | go_arith
        · refine need_plain rfl (fun a w' hg hin => ?_)
          have e : a.eval (.tmp 27) = .bool false := ins_on hin 5 (by kernel_rfl)
          exact upon_move rfl e
        · refine need_yes 6 false rfl (fun a w' hin => ins_on hin 6 (by kernel_rfl)) (fun a w' hg hin => ?_)
          have e2 : a.eval (.tmp 2) = .pointer (some ⟨g0, 0, none⟩) := ins_ext hin 2 (by kernel_rfl)
          have z0 := (Below.cell hg (cell_lt y0)).trans y0
          have z1 := (Below.cell hg (cell_lt y1)).trans y1
          refine upon_val ?_ rfl
          clear hin hg
          have ek : ∀ x, a.eval (.const x) = x := fun _ => rfl
          have ef : ∀ f, a.eval (.func f) = .func (.func f) #[] #[] := fun _ => rfl
          generalize a.eval = ev at *
          go_simp
          all_goals first | done | omega | (intro _; omega) | go_arith
        · refine need_yes 6 false rfl (fun a w' hin => ins_on hin 6 (by kernel_rfl)) (fun a w' hg hin => ?_)
          have e29 : a.eval (.tmp 29) = .agg #[.slice ab d.blocks.length cb, .slice al d.late.length cl] := ins_on hin 7 (by kernel_rfl)
          refine upon_call (f := 40) (args := #[.agg #[.slice ab d.blocks.length cb, .slice al d.late.length cl], .int .i64 (-1)]) ?_ ((keepP_any d (-1) _ _ w' (hb.grow hg) (hl.grow hg) h12b h12a (by omega) hb16 hl16 HP.out).mono ?_)
          · clear hin hg
            have ek : ∀ x, a.eval (.const x) = x := fun _ => rfl
            have ef : ∀ f, a.eval (.func f) = .func (.func f) #[] #[] := fun _ => rfl
            generalize a.eval = ev at *
            go_simp
            all_goals first | done | omega | (intro _; omega) | go_arith
          · rw [HKA.out]
            rintro e w2 ⟨v2, rfl, hA, g2⟩
            exact ⟨_, rfl, g2, hA.p⟩
        · refine need_yes 6 false rfl (fun a w' hin => ins_on hin 6 (by kernel_rfl)) (fun a w' hg hin => ?_)
          have e2 : a.eval (.tmp 2) = .pointer (some ⟨g0, 0, none⟩) := ins_ext hin 2 (by kernel_rfl)
          have z0 := (Below.cell hg (cell_lt y0)).trans y0
          have z1 := (Below.cell hg (cell_lt y1)).trans y1
          refine upon_val ?_ rfl
          clear hin hg
          have ek : ∀ x, a.eval (.const x) = x := fun _ => rfl
          have ef : ∀ f, a.eval (.func f) = .func (.func f) #[] #[] := fun _ => rfl
          generalize a.eval = ev at *
          go_simp
          all_goals first | done | omega | (intro _; omega) | go_arith
        · refine need_yes 6 false rfl (fun a w' hin => ins_on hin 6 (by kernel_rfl)) (fun a w' hg hin => ?_)
          have e31 : a.eval (.tmp 31) = .agg #[.slice ab d.blocks.length cb, .slice al d.late.length cl] := ins_on hin 9 (by kernel_rfl)
          refine upon_call (f := 42) (args := #[.agg #[.slice ab d.blocks.length cb, .slice al d.late.length cl]]) ?_ ((flushP_any d _ _ w' (hb.grow hg) (hl.grow hg) h12b h12a (by omega) hb16 hl16 HP.out).mono ?_)
          · clear hin hg
            have ek : ∀ x, a.eval (.const x) = x := fun _ => rfl
            have ef : ∀ f, a.eval (.func f) = .func (.func f) #[] #[] := fun _ => rfl
            generalize a.eval = ev at *
            go_simp
            all_goals first | done | omega | (intro _; omega) | go_arith
          · rintro e w2 ⟨v2, rfl, hA, g2⟩
            exact ⟨_, rfl, g2, hA.p⟩
        · refine need_yes 6 false rfl (fun a w' hin => ins_on hin 6 (by kernel_rfl)) (fun a w' hg hin => ?_)
          have e30 : (DiskP d.flush) (a.eval (.tmp 30)) w' := ins_on hin 8 (by kernel_rfl)
          have e32 : (DiskP d.flush) (a.eval (.tmp 32)) w' := ins_on hin 10 (by kernel_rfl)
          obtain ⟨ab1, cb1, al1, cl1, h30, hb1, hl1⟩ := DiskP.form e30
          obtain ⟨ab2, cb2, al2, cl2, h32, hb2, hl2⟩ := DiskP.form e32
          have hKb : d.flush.blocks.length ≤ 1000 := by rw [HFL.out]; omega
          have hKl : d.flush.late.length ≤ 1000 := by show 0 ≤ _; omega
          clear e30 e32
          generalize d.flush = D1 at *
          refine upon_call (f := 31) (args := #[.agg #[.slice ab1 D1.blocks.length cb1, .slice al1 D1.late.length cl1], .agg #[.slice ab2 D1.blocks.length cb2, .slice al2 D1.late.length cl2]]) ?_ ((sameDisk_any D1 D1 _ _ _ _ w' hb1 hl1 hb2 hl2 (by omega) (by omega)).mono ?_)
          · clear hin hg hb1 hb2 hl1 hl2
            have ek : ∀ x, a.eval (.const x) = x := fun _ => rfl
            have ef : ∀ f, a.eval (.func f) = .func (.func f) #[] #[] := fun _ => rfl
            generalize a.eval = ev at *
            go_simp
            all_goals first | done | omega | (intro _; omega) | go_arith
          · rw [Dk.same_refl]
            rintro e w2 ⟨rfl, g2⟩
            exact ⟨_, rfl, g2, rfl⟩
        · refine need_yes 6 false rfl (fun a w' hin => ins_on hin 6 (by kernel_rfl)) (fun a w' hg hin => ?_)
          have e33 : a.eval (.tmp 33) = .bool true := ins_on hin 11 (by kernel_rfl)
          refine upon_val ?_ rfl
          clear hin hg
          have ek : ∀ x, a.eval (.const x) = x := fun _ => rfl
          have ef : ∀ f, a.eval (.func f) = .func (.func f) #[] #[] := fun _ => rfl
          generalize a.eval = ev at *
          go_simp
          all_goals first | done | omega | (intro _; omega) | go_arith
        · refine need_plain rfl (fun a w' hg hin => ?_)
          have ec : a.eval (.tmp 28) = .bool false := ins_on hin 6 (by kernel_rfl)
          have e : a.eval (.tmp 34) = .bool false := ins_on hin 12 (by kernel_rfl)
          exact upon_pick rfl ec e
        · refine need_plain rfl (fun a w' hg hin => ?_)
          have e : a.eval (.tmp 35) = .bool false := ins_on hin 13 (by kernel_rfl)
          exact upon_move rfl e
        · refine need_yes 14 false rfl (fun a w' hin => ins_on hin 14 (by kernel_rfl)) (fun a w' hg hin => ?_)
          have e6 : a.eval (.tmp 6) = .pointer (some ⟨gl, 0, none⟩) := ins_ext hin 6 (by kernel_rfl)
          refine upon_val ?_ rfl
          clear hin hg
          have ek : ∀ x, a.eval (.const x) = x := fun _ => rfl
          have ef : ∀ f, a.eval (.func f) = .func (.func f) #[] #[] := fun _ => rfl
          generalize a.eval = ev at *
          go_simp
          all_goals first | done | omega | (intro _; omega) | go_arith
        · refine need_yes 14 false rfl (fun a w' hin => ins_on hin 14 (by kernel_rfl)) (fun a w' hg hin => ?_)
          have e37 : a.eval (.tmp 37) = .pointer (some ⟨gl, 1, none⟩) := ins_on hin 15 (by kernel_rfl)
          have z1 := (Below.cell hg (cell_lt q1)).trans q1
          refine upon_val ?_ rfl
          clear hin hg
          have ek : ∀ x, a.eval (.const x) = x := fun _ => rfl
          have ef : ∀ f, a.eval (.func f) = .func (.func f) #[] #[] := fun _ => rfl
          generalize a.eval = ev at *
          go_simp
          all_goals first | done | omega | (intro _; omega) | go_arith
        · refine need_yes 14 false rfl (fun a w' hin => ins_on hin 14 (by kernel_rfl)) (fun a w' hg hin => ?_)
          have e38 : a.eval (.tmp 38) = .slice all 0 cll := ins_on hin 16 (by kernel_rfl)
          refine upon_val ?_ rfl
          clear hin hg
          have ek : ∀ x, a.eval (.const x) = x := fun _ => rfl
          have ef : ∀ f, a.eval (.func f) = .func (.func f) #[] #[] := fun _ => rfl
          generalize a.eval = ev at *
          go_simp
          all_goals first | done | omega | (intro _; omega) | go_arith
        · refine need_yes 14 false rfl (fun a w' hin => ins_on hin 14 (by kernel_rfl)) (fun a w' hg hin => ?_)
          have e5 : a.eval (.tmp 5) = .pointer (some ⟨gk, 0, none⟩) := ins_ext hin 5 (by kernel_rfl)
          refine upon_val ?_ rfl
          clear hin hg
          have ek : ∀ x, a.eval (.const x) = x := fun _ => rfl
          have ef : ∀ f, a.eval (.func f) = .func (.func f) #[] #[] := fun _ => rfl
          generalize a.eval = ev at *
          go_simp
          all_goals first | done | omega | (intro _; omega) | go_arith
        · refine need_yes 14 false rfl (fun a w' hin => ins_on hin 14 (by kernel_rfl)) (fun a w' hg hin => ?_)
          have e40 : a.eval (.tmp 40) = .pointer (some ⟨gk, 1, none⟩) := ins_on hin 18 (by kernel_rfl)
          have z1 := (Below.cell hg (cell_lt p1)).trans p1
          refine upon_val ?_ rfl
          clear hin hg
          have ek : ∀ x, a.eval (.const x) = x := fun _ => rfl
          have ef : ∀ f, a.eval (.func f) = .func (.func f) #[] #[] := fun _ => rfl
          generalize a.eval = ev at *
          go_simp
          all_goals first | done | omega | (intro _; omega) | go_arith
        · refine need_yes 14 false rfl (fun a w' hin => ins_on hin 14 (by kernel_rfl)) (fun a w' hg hin => ?_)
          have e41 : a.eval (.tmp 41) = .slice alk 0 clk := ins_on hin 19 (by kernel_rfl)
          refine upon_val ?_ rfl
          clear hin hg
          have ek : ∀ x, a.eval (.const x) = x := fun _ => rfl
          have ef : ∀ f, a.eval (.func f) = .func (.func f) #[] #[] := fun _ => rfl
          generalize a.eval = ev at *
          go_simp
          all_goals first | done | omega | (intro _; omega) | go_arith
        · refine need_yes 14 false rfl (fun a w' hin => ins_on hin 14 (by kernel_rfl)) (fun a w' hg hin => ?_)
          have e39 : a.eval (.tmp 39) = .int .i64 0 := ins_on hin 17 (by kernel_rfl)
          have e42 : a.eval (.tmp 42) = .int .i64 0 := ins_on hin 20 (by kernel_rfl)
          refine upon_val ?_ rfl
          clear hin hg
          have ek : ∀ x, a.eval (.const x) = x := fun _ => rfl
          have ef : ∀ f, a.eval (.func f) = .func (.func f) #[] #[] := fun _ => rfl
          generalize a.eval = ev at *
          go_simp
          all_goals first | done | omega | (intro _; omega) | go_arith
        · refine need_yes 14 false rfl (fun a w' hin => ins_on hin 14 (by kernel_rfl)) (fun a w' hg hin => ?_)
          have e43 : a.eval (.tmp 43) = .int .i64 0 := ins_on hin 21 (by kernel_rfl)
          refine upon_val ?_ rfl
          clear hin hg
          have ek : ∀ x, a.eval (.const x) = x := fun _ => rfl
          have ef : ∀ f, a.eval (.func f) = .func (.func f) #[] #[] := fun _ => rfl
          generalize a.eval = ev at *
          go_simp
          all_goals first | done | omega | (intro _; omega) | go_arith
        · refine need_plain rfl (fun a w' hg hin => ?_)
          have ec : a.eval (.tmp 36) = .bool false := ins_on hin 14 (by kernel_rfl)
          have e : a.eval (.tmp 44) = .bool false := ins_on hin 22 (by kernel_rfl)
          exact upon_pick rfl ec e
      · intro vs w' hg ht
        obtain ⟨q22, q23, q24, q25, q26, q27, q28, q29, q30, q31, q32, q33, q34, q35, q36, q37, q38, q39, q40, q41, q42, q43, q44, q45, -⟩ := ht
        have r22 : vs 0 = .pointer (some ⟨gk, 0, none⟩) := q22
        have r23 : vs 1 = .slice abk d.blocks.length cbk := q23
        have r24 : vs 2 = .pointer (some ⟨g0, 0, none⟩) := q24
        have r25 : vs 3 = .slice ab d.blocks.length cb := q25
        have r26 : vs 4 = .bool true := q26
        have r27 : vs 5 = .bool false := q27
        have r28 : vs 6 = .bool false := q28
        have r29 : vs 7 = .agg #[.slice ab d.blocks.length cb, .slice al d.late.length cl] := q29
        have r31 : vs 9 = .agg #[.slice ab d.blocks.length cb, .slice al d.late.length cl] := q31
        have r33 : vs 11 = .bool true := q33
        have r34 : vs 12 = .bool false := q34
        have r35 : vs 13 = .bool false := q35
        have r36 : vs 14 = .bool false := q36
        have r37 : vs 15 = .pointer (some ⟨gl, 1, none⟩) := q37
        have r38 : vs 16 = .slice all 0 cll := q38
        have r39 : vs 17 = .int .i64 0 := q39
        have r40 : vs 18 = .pointer (some ⟨gk, 1, none⟩) := q40
        have r41 : vs 19 = .slice alk 0 clk := q41
        have r42 : vs 20 = .int .i64 0 := q42
        have r43 : vs 21 = .int .i64 0 := q43
        have r44 : vs 22 = .bool false := q44
        have r45 : vs 23 = .bool false := q45
        clear q22 q23 q24 q25 q26 q27 q28 q29 q31 q33 q34 q35 q36 q37 q38 q39 q40 q41 q42 q43 q44 q45
        simp only [putAll, Act.put, List.setIfInBounds_toArray, List.set_cons_zero, List.set_cons_succ, r22, r23, r24, r25, r26, r27, r28, r29, r31, r33, r34, r35, r36, r37, r38, r39, r40, r41, r42, r43, r44, r45]
        clear r22 r23 r24 r25 r26 r27 r28 r29 r31 r33 r34 r35 r36 r37 r38 r39 r40 r41 r42 r43 r44 r45
        replace gW := gW.trans hg
        replace hx := (hg.block _ (heap_lt hx)).trans hx
        replace hb := hb.grow hg
        replace hl := hl.grow hg
        replace hbl := hbl.grow hg
        replace hxl := (hg.block _ (heap_lt hxl)).trans hxl
        clear y0 y1 p0 p1 q0 q1 hxk hbk hg q30 q32
        generalize vs 8 = u30
        generalize vs 10 = u32
        have q0 := box_cell hxl 0 _ rfl
        go_wp2_with fail
        clear q0 hxl
        go_loopw [49] (fun i wr => ∃ k : Nat, k ≤ d.blocks.length ∧ i = .int .i64 k ∧ Grow w' wr) (fun i _ => d.blocks.length - (intOf i).toNat)
        case atStart => exact ⟨0, Nat.zero_le _, rfl, Grow.refl _⟩
        case round =>
          obtain ⟨k, hk, rfl, gr⟩ := hrel
          by_cases hlt : k < d.blocks.length
          · have hlk : k < (d.keep bt).blocks.length := by rw [HKL.out]; exact hlt
            obtain ⟨b1, o1, hv1, u1, hu1, hB1⟩ := (hbl.grow gr).at k hlk
            cases hv1
            obtain ⟨b2, o2, hv2, u2, hu2, hB2⟩ := (hb.grow gr).at k hlt
            cases hv2
            obtain ⟨a1, c1, rfl, -, -⟩ := bytes_src hB1
            obtain ⟨a2, c2, rfl, -, -⟩ := bytes_src hB2
            have HOE : Hid (oneB d (d.keep bt).blocks[k] k d.late.length = true) := oneB_end d bt (fun x hx => (HP.out x hx).1) k hlt hlk
            have HO0 : Hid (oneB d (d.keep bt).blocks[k] k 0 = ((d.keep bt).blocks[k] == d.blocks[k])) := by show _ = _; rw [oneB_zero, getD_at _ _ _ hlt]
            generalize (d.keep bt).blocks[k] = x at *
            clear hlk
            generalize d.blocks[k] = z at *
            have hxr := (gr.block _ (heap_lt hx)).trans hx
            have y0 := box_cell hxr 0 _ rfl
            have y1 := box_cell hxr 1 _ rfl
            go_wp2_with fail
            refine wp_region_told [ex (.slice a1 x.length c1), ex (str x), ex (.pointer (some ⟨g0, 0, none⟩)), ex (.slice (some ⟨b2, o2, none⟩) d.blocks.length cb), ex (.int .i64 k), ex (.pointer (some ⟨b2, o2 + k, none⟩)), ex (.slice a2 z.length c2), ex (str z), ex (.bool (x == z)), ex (.bool (x == z))] (by kernel_rfl) (by kernel_rfl) ⟨st_ex _, st_ex _, st_ex _, st_ex _, st_ex _, st_ex _, st_ex _, st_ex _, st_ex _, st_ex _, trivial⟩ ?_ ?_
            · refine ⟨?_, ?_, ?_, ?_, ?_, ?_, ?_, ?_, ?_, ?_, trivial⟩
              · refine need_plain rfl (fun a w' hg hin => ?_)
                have e : a.eval (.tmp 8) = .slice a1 x.length c1 := ins_ext hin 8 (by kernel_rfl)
                exact upon_move rfl e
              · refine need_plain rfl (fun a w' hg hin => ?_)
                have e54 : a.eval (.tmp 54) = .slice a1 x.length c1 := ins_on hin 0 (by kernel_rfl)
                refine upon_val ?_ rfl
                have hrun := run_str w' _ _ (bytes_grow hB1 hg)
                clear hin hg
                have ek : ∀ x, a.eval (.const x) = x := fun _ => rfl
                have ef : ∀ f, a.eval (.func f) = .func (.func f) #[] #[] := fun _ => rfl
                generalize a.eval = ev at *
                go_simp
                all_goals first | done | omega | (intro _; omega) | go_arith
              · refine need_plain rfl (fun a w' hg hin => ?_)
                have e2 : a.eval (.tmp 2) = .pointer (some ⟨g0, 0, none⟩) := ins_ext hin 2 (by kernel_rfl)
                refine upon_val ?_ rfl
                clear hin hg
                have ek : ∀ x, a.eval (.const x) = x := fun _ => rfl
                have ef : ∀ f, a.eval (.func f) = .func (.func f) #[] #[] := fun _ => rfl
                generalize a.eval = ev at *
                go_simp
                all_goals first | done | omega | (intro _; omega) | go_arith
              · refine need_plain rfl (fun a w' hg hin => ?_)
                have e56 : a.eval (.tmp 56) = .pointer (some ⟨g0, 0, none⟩) := ins_on hin 2 (by kernel_rfl)
                have z0 := (Below.cell hg (cell_lt y0)).trans y0
                refine upon_val ?_ rfl
                clear hin hg
                have ek : ∀ x, a.eval (.const x) = x := fun _ => rfl
                have ef : ∀ f, a.eval (.func f) = .func (.func f) #[] #[] := fun _ => rfl
                generalize a.eval = ev at *
                go_simp
                all_goals first | done | omega | (intro _; omega) | go_arith
              · refine need_plain rfl (fun a w' hg hin => ?_)
                have e : a.eval (.tmp 7) = .int .i64 k := ins_ext hin 7 (by kernel_rfl)
                exact upon_move rfl e
              · refine need_plain rfl (fun a w' hg hin => ?_)
                have e57 : a.eval (.tmp 57) = .slice (some ⟨b2, o2, none⟩) d.blocks.length cb := ins_on hin 3 (by kernel_rfl)
                have e58 : a.eval (.tmp 58) = .int .i64 k := ins_on hin 4 (by kernel_rfl)
                refine upon_val ?_ rfl
                clear hin hg
                have ek : ∀ x, a.eval (.const x) = x := fun _ => rfl
                have ef : ∀ f, a.eval (.func f) = .func (.func f) #[] #[] := fun _ => rfl
                generalize a.eval = ev at *
                go_simp
                all_goals first | done | omega | (intro _; omega) | go_arith
              · refine need_plain rfl (fun a w' hg hin => ?_)
                have e59 : a.eval (.tmp 59) = .pointer (some ⟨b2, o2 + k, none⟩) := ins_on hin 5 (by kernel_rfl)
                have z0 := (Below.cell hg (cell_lt hu2)).trans hu2
                refine upon_val ?_ rfl
                clear hin hg
                have ek : ∀ x, a.eval (.const x) = x := fun _ => rfl
                have ef : ∀ f, a.eval (.func f) = .func (.func f) #[] #[] := fun _ => rfl
                generalize a.eval = ev at *
                go_simp
                all_goals first | done | omega | (intro _; omega) | go_arith
              · refine need_plain rfl (fun a w' hg hin => ?_)
                have e60 : a.eval (.tmp 60) = .slice a2 z.length c2 := ins_on hin 6 (by kernel_rfl)
                refine upon_val ?_ rfl
                have hrun := run_str w' _ _ (bytes_grow hB2 hg)
                clear hin hg
                have ek : ∀ x, a.eval (.const x) = x := fun _ => rfl
                have ef : ∀ f, a.eval (.func f) = .func (.func f) #[] #[] := fun _ => rfl
                generalize a.eval = ev at *
                go_simp
                all_goals first | done | omega | (intro _; omega) | go_arith
              · refine need_plain rfl (fun a w' hg hin => ?_)
                have e55 : a.eval (.tmp 55) = str x := ins_on hin 1 (by kernel_rfl)
                have e61 : a.eval (.tmp 61) = str z := ins_on hin 7 (by kernel_rfl)
                refine upon_val ?_ rfl
                unfold str at e55 e61
                clear hin hg
                have ek : ∀ x, a.eval (.const x) = x := fun _ => rfl
                have ef : ∀ f, a.eval (.func f) = .func (.func f) #[] #[] := fun _ => rfl
                generalize a.eval = ev at *
                go_simp
              · refine need_plain rfl (fun a w' hg hin => ?_)
                have e : a.eval (.tmp 62) = .bool (x == z) := ins_on hin 8 (by kernel_rfl)
                exact upon_assign rfl e
            · intro vs w' hg ht
              obtain ⟨q54, q55, q56, q57, q58, q59, q60, q61, q62, q9, -⟩ := ht
              have r54 : vs 0 = .slice a1 x.length c1 := q54
              have r55 : vs 1 = str x := q55
              have r56 : vs 2 = .pointer (some ⟨g0, 0, none⟩) := q56
              have r57 : vs 3 = .slice (some ⟨b2, o2, none⟩) d.blocks.length cb := q57
              have r58 : vs 4 = .int .i64 k := q58
              have r59 : vs 5 = .pointer (some ⟨b2, o2 + k, none⟩) := q59
              have r60 : vs 6 = .slice a2 z.length c2 := q60
              have r61 : vs 7 = str z := q61
              have r62 : vs 8 = .bool (x == z) := q62
              have r9 : vs 9 = .bool (x == z) := q9
              clear q54 q55 q56 q57 q58 q59 q60 q61 q62 q9
              simp only [putAll, Act.put, List.setIfInBounds_toArray, List.set_cons_zero, List.set_cons_succ, r54, r55, r56, r57, r58, r59, r60, r61, r62, r9]
              clear r54 r55 r56 r57 r58 r59 r60 r61 r62 r9
              have g2 := gr.trans hg
              replace hxr := (hg.block _ (heap_lt hxr)).trans hxr
              have hlr := hl.grow g2
              have hBr := bytes_grow hB1 hg
              rw [← HO0.out]
              clear y0 y1 hu1 hu2 hB1 hB2 hg gr
              have y1 := box_cell hxr 1 _ rfl
              go_wp2_with fail
              clear y1
              go_loopw [9, 66] (fun o i wr => ∃ m : Nat, m ≤ d.late.length ∧ o = .bool (oneB d x k m) ∧ i = .int .i64 m ∧ Grow w' wr) (fun _ i _ => d.late.length - (intOf i).toNat)
              case atStart => exact ⟨0, Nat.zero_le _, rfl, rfl, Grow.refl _⟩
              case round =>
                obtain ⟨m, hm, rfl, rfl, gr⟩ := hrel
                by_cases hlm : m < d.late.length
                · obtain ⟨b3, o3, hv3, hc0, u3, hc1, hB3⟩ := (hlr.grow gr).at m hlm
                  cases hv3
                  have HOS : Hid _ := oneB_succ d x k m hlm
                  obtain ⟨a3, c3, rfl, -, -⟩ := bytes_src hB3
                  generalize d.late[m] = lm at *
                  obtain ⟨at_, data⟩ := lm
                  simp only at hc0 hc1 hB3 HOS
                  have gA := grow_alloc wr (.cells #[.int .i64 at_, .slice a3 data.length c3] 60)
                  have r3 := run_str2 _ _ _ (bytes_grow hB3 gA)
                  have rx := run_str2 _ _ _ (bytes_grow (bytes_grow hBr gr) gA)
                  have gE := gr.trans gA
                  clear hB3 gA gr
                  by_cases h1 : oneB d x k m = true
                  · have HN : Hid (oneB d x k (m + 1) = true) := by show _ = _; rw [HOS.out, h1]; rfl
                    rw [h1]
                    clear h1 HOS
                    go_wp2_with fail
                    go_roundw
                    case rel => exact ⟨m + 1, by omega, by rw [HN.out], by simp, gE⟩
                    case measure => simp [intOf]; omega
                  · have h1' : oneB d x k m = false := by simpa using h1
                    by_cases h2 : at_ = (k : Int)
                    · by_cases h3 : data = x
                      · have HN : Hid (oneB d x k (m + 1) = true) := by show _ = _; rw [HOS.out, h2, h3]; simp
                        rw [h1']
                        subst h2
                        subst h3
                        clear h1 h1' HOS
                        go_wp2_with fail
                        go_roundw
                        case rel => exact ⟨m + 1, by omega, by rw [HN.out], by simp, gE⟩
                        case measure => simp [intOf]; omega
                      · have HN : Hid (oneB d x k (m + 1) = false) := by show _ = _; rw [HOS.out, h1']; simp [h3]
                        have h3' : (data == x) = false := beq_false' h3
                        rw [h1']
                        subst h2
                        clear h1 h1' HOS
                        go_wp2_with fail
                        go_roundw
                        case rel => exact ⟨m + 1, by omega, by rw [HN.out], by simp, gE⟩
                        case measure => simp [intOf]; omega
                    · have HN : Hid (oneB d x k (m + 1) = false) := by show _ = _; rw [HOS.out, h1']; simp [h2]
                      have h2' : (at_ == (k : Int)) = false := beq_false' h2
                      rw [h1']
                      clear h1 h1' HOS h2
                      go_wp2_with fail
                      go_roundw
                      case rel => exact ⟨m + 1, by omega, by rw [HN.out], by simp, gE⟩
                      case measure => simp [intOf]; omega
                · have hm' : m = d.late.length := by omega
                  subst hm'
                  rw [HOE.out]
                  have gE := g2.trans gr
                  clear hlm
                  go_wp2_with fail
                  go_roundw
                  case rel => exact ⟨k + 1, by omega, by simp, gE⟩
                  case measure => simp [intOf]; omega
          · have gE := gW.trans gr
            go_wp2_with fail
            go_ret
            exact ⟨rfl, gE⟩
  · have hR' : d.right = false := by simpa using hR
    rw [hR']
    clear hb hl hR hR'
    go_wp2_with fail
    go_ret
    exact ⟨rfl, gW⟩
end Go.Proofs.Ytobhchebggaipaa
