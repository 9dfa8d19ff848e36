/-
  A drawn region that writes, where what is kept may hang on which operations are done: as the law ahead of it, the fact on the world told with those.
  No condition beyond the premises that each theorem writes out.
-/
import Derived.Test.YtgpfflfdigekeaaRegw
namespace Go.Proofs.Ytgpfflfdigekeaa.Reg
set_option maxRecDepth 100000
open Go Go.RowKit

def upd (dn : Nat → Bool) (i : Nat) : Nat → Bool := fun j => if j = i then true else dn j
/-- Operation i is ready: it is not done, what it waits for is, and what is done has its own done. -/
structure Ready (ops : Array Oper) (i : Nat) (dn : Nat → Bool) : Prop where
  un : dn i = false
  rd : ∀ j, waits ops i j = true → dn j = true
  cl : ∀ j k, waits ops j k = true → dn j = true → dn k = true
theorem Ready.not1 {ops : Array Oper} {i : Nat} {dn : Nat → Bool} (h : Ready ops i dn) (j : Nat) (hj : waits ops j i = true) : dn j = false := by
  cases hd : dn j with
  | false => rfl
  | true => have := h.cl j i hj hd; rw [h.un] at this; cases this
theorem Ready.notBy {ops : Array Oper} {i : Nat} {dn : Nat → Bool} (h : Ready ops i dn) (j k : Nat) (hk : dn k = false) (hj : waits ops j k = true) : dn j = false := by
  cases hd : dn j with
  | false => rfl
  | true => have := h.cl j k hj hd; rw [hk] at this; cases this
theorem upd_listed {listed : Array Bool} {i : Nat} (h : i < listed.size) : (fun j => (listed.setIfInBounds i true).getD j false) = upd (fun j => listed.getD j false) i := by
  funext j
  show (listed.setIfInBounds i true).getD j false = _
  rw [getD_set _ _ _ h]
  unfold upd
  by_cases hij : i = j
  · subst hij; simp
  · rw [if_neg hij, if_neg (fun e => hij e.symm)]

def NeedV (P : Program) (L : List Pl) (T : List (Option Step)) (J : (Nat → Bool) → World → Prop) (ops : Array Oper) (a0 : Act) (i : Nat) (o : Oper) : Prop :=
  ∀ a w dn, Ready ops i dn → J dn w → InsW L ops a0 i o a w → (wants ops a o → uponW P (stepAt T i) (J (upd dn i)) w (fun v w' => (plAt L i).2 v ((plAt L i).1.map (gv ops a)) w') ((execOp a.eval o).run P w)) ∧ (¬ wants ops a o → J (upd dn i) w ∧ (plAt L i).2 undef ((plAt L i).1.map (gv ops a)) w)

def NeedAllV (P : Program) (L : List Pl) (T : List (Option Step)) (J : (Nat → Bool) → World → Prop) (ops : Array Oper) (a0 : Act) : List Oper → Nat → Prop
  | [], _ => True
  | o :: l, i => NeedV P L T J ops a0 i o ∧ NeedAllV P L T J ops a0 l (i + 1)

theorem needAllV_at {P : Program} {L : List Pl} {T : List (Option Step)} {J : (Nat → Bool) → World → Prop} {ops : Array Oper} {a0 : Act} :
    ∀ (l : List Oper) (i j : Nat) (o : Oper), NeedAllV P L T J ops a0 l i → l[j]? = some o → NeedV P L T J ops a0 (i + j) o
  | [], _, _, _, _, h => by simp at h
  | o' :: l, i, 0, o, h, hj => by simp at hj; subst hj; exact h.1
  | o' :: l, i, j + 1, o, h, hj => by
    have := needAllV_at l (i + 1) j o h.2 (by simpa using hj)
    rwa [show i + 1 + j = i + (j + 1) from by omega] at this

/-- What holds at every stage, 'listed' done. -/
structure InvV (L : List Pl) (J : (Nat → Bool) → World → Prop) (ops : Array Oper) (a0 : Act) (listed : Array Bool) (a : Act) (w : World) : Prop where
  lsize : listed.size = ops.size
  keep : J (fun j => listed.getD j false) w
  tsize : a.tmps.size = a0.tmps.size
  defers : a.defers = a0.defers
  told : ∀ i o, ops[i]? = some o → listed.getD i false = true → phiW L i (gv ops a) w
  kept : ∀ k, (∀ i o, ops[i]? = some o → listed.getD i false = true → o.dst ≠ some k) → a.eval (.tmp k) = a0.eval (.tmp k)
  closed : ∀ i o, ops[i]? = some o → listed.getD i false = true → ∀ e ∈ o.after.toList, Region.binds .any e = true → listed.getD e.on false = true

theorem invV_put {L : List Pl} {T : List (Option Step)} {J : (Nat → Bool) → World → Prop} {ops : Array Oper} {a0 : Act} {listed : Array Bool} {a : Act} {w w' : World} {i : Nat} {o : Oper} {v : Value}
    (hst : ∀ i j v ds w w', i ≠ j → waits ops i j = false → stepAt T j w w' → (plAt L i).2 v ds w → (plAt L i).2 v ds w') (hD : depB L ops = true) (hB : relB ops a0.tmps.size = true) (hi : ops[i]? = some o) (I : InvV L J ops a0 listed a w)
    (hun : listed.getD i false = false)
    (hafter : ∀ e ∈ o.after.toList, Region.binds .any e = true → listed.getD e.on false = true) (hg : stepAt T i w w') (hJ : J (upd (fun j => listed.getD j false) i) w') (hv : (plAt L i).2 v ((plAt L i).1.map (gv ops a)) w') (hnone : o.dst = none → v = undef) :
    InvV L J ops a0 (listed.setIfInBounds i true) (a.put o.dst v) w' := by
  have hlt : i < ops.size := by
    rcases Nat.lt_or_ge i ops.size with h | h
    · exact h
    · simp [Array.getElem?_eq_none h] at hi
  have hll : i < listed.size := by rw [I.lsize]; exact hlt
  obtain ⟨hb1, hb2⟩ := relB_spec hB hi
  have hsame : ∀ j, j ≠ i → gv ops (a.put o.dst v) j = gv ops a j := by
    intro j hji
    by_cases hjlt : j < ops.size
    · unfold gv
      cases hd : (ops[j]?).bind (·.dst) with
      | none => rfl
      | some d =>
        refine eval_put_ne a o.dst d v (fun e => ?_)
        exact (hb2 d e).2 j hjlt hji hd
    · unfold gv; rw [Array.getElem?_eq_none (by omega)]; rfl
  have hown : gv ops (a.put o.dst v) i = v := by
    unfold gv
    simp only [hi, Option.bind_some]
    cases hd : o.dst with
    | none => simp [hnone hd]
    | some d => exact eval_put_same a d v (by rw [I.tsize]; exact (hb2 d hd).1)
  refine ⟨by simp [I.lsize], by rw [upd_listed hll]; exact hJ, by rw [tmps_put_size]; exact I.tsize, ?_, ?_, ?_, ?_⟩
  · rw [← I.defers]; cases o.dst <;> rfl
  · intro j p hj hl
    rw [getD_set _ _ _ hll] at hl
    have hmap : ∀ k pk, ops[k]? = some pk → (k = i ∨ listed.getD k false = true) → (plAt L k).1.map (gv ops (a.put o.dst v)) = (plAt L k).1.map (gv ops a) := by
      intro k pk hk hor
      refine List.map_congr_left (fun d hd => hsame d ?_)
      obtain ⟨e, he, hed, hbd⟩ := dep_spec hD hk hd
      intro hdi
      rcases hor with rfl | hkl
      · have h5 := hafter e (by rw [hi] at hk; cases hk; exact he) hbd
        rw [hed, hdi, hun] at h5; cases h5
      · have h5 := I.closed k pk hk hkl e he hbd
        rw [hed, hdi, hun] at h5; cases h5
    by_cases hij : i = j
    · subst hij
      show (plAt L i).2 _ _ w'
      rw [hown, hmap i p hj (.inl rfl)]
      exact hv
    · rw [if_neg hij] at hl
      show (plAt L j).2 _ _ w'
      rw [hsame j (fun e => hij e.symm), hmap j p hj (.inr hl)]
      refine hst j i _ _ w w' (fun e => hij e.symm) ?_ hg (I.told j p hj hl)
      cases hw : waits ops j i with
      | false => rfl
      | true =>
        exfalso
        simp only [waits, hj, Option.map_some, Option.getD_some] at hw
        rw [← Array.any_toList, List.any_eq_true] at hw
        obtain ⟨e, he, h3⟩ := hw
        simp only [Bool.and_eq_true, beq_iff_eq] at h3
        have h5 := I.closed j p hj hl e he h3.2
        rw [h3.1, hun] at h5; cases h5
  · intro k hk
    have h1 : o.dst ≠ some k := hk i o hi (by rw [getD_set _ _ _ hll]; simp)
    rw [eval_put_ne a o.dst k v h1]
    refine I.kept k (fun j p hj hl => hk j p hj ?_)
    rw [getD_set _ _ _ hll]; split
    · rfl
    · exact hl
  · intro j p hj hl e he hb
    rw [getD_set _ _ _ hll]
    split
    · rfl
    · rw [getD_set _ _ _ hll] at hl
      by_cases hij : i = j
      · subst hij
        have : p = o := by rw [hi] at hj; exact (Option.some.inj hj).symm
        subst this
        exact hafter e he hb
      · rw [if_neg hij] at hl
        exact I.closed j p hj hl e he hb

theorem invV_end {L : List Pl} {J : (Nat → Bool) → World → Prop} {ops : Array Oper} {a0 : Act} {listed : Array Bool} {a : Act} {w : World}
    (hB : relB ops a0.tmps.size = true) (I : InvV L J ops a0 listed a w) :
    a = putAll (gv ops a) ops.toList 0 a0 := by
  have hp := putAll_tmps (gv ops a) ops.toList 0 a0
  refine act_ext (I.tsize.trans hp.1.symm) (I.defers.trans hp.2.symm) (fun k hk => ?_)
  by_cases hex : ∃ j : Nat, ∃ o : Oper, ops[j]? = some o ∧ o.dst = some k
  · obtain ⟨j, o, hj, hd⟩ := hex
    obtain ⟨_, hb2⟩ := relB_spec hB hj
    rw [putAll_at (gv ops a) k ops.toList 0 a0 j o (by simpa using hj) hd (by rw [← I.tsize]; exact hk) ?_]
    · simp only [Nat.zero_add, gv, hj, Option.bind_some, hd]
    · intro j' o' hj' hne e
      have hj'' : ops[j']? = some o' := by simpa using hj'
      have hlt : j' < ops.size := by
        rcases Nat.lt_or_ge j' ops.size with h | h
        · exact h
        · simp [Array.getElem?_eq_none h] at hj''
      exact (hb2 k hd).2 j' hlt hne (by simp [hj'', e])
  · rw [putAll_ne (gv ops a) k ops.toList 0 a0 (fun j o hj e => hex ⟨j, o, by simpa using hj, e⟩)]
    exact I.kept k (fun j o hj _ e => hex ⟨j, o, hj, e⟩)

theorem wpAny_relV {P : Program} {L : List Pl} {T : List (Option Step)} {J : (Nat → Bool) → World → Prop} {ops : Array Oper} {a0 : Act} {Q : Exit → Act → World → Prop}
    (hB : relB ops a0.tmps.size = true) (hD : depB L ops = true)
    (hst : ∀ i j v ds w w', i ≠ j → waits ops i j = false → stepAt T j w w' → (plAt L i).2 v ds w → (plAt L i).2 v ds w') (hidle : ∀ j w, stepAt T j w w)
    (hop : ∀ i o, ops[i]? = some o → NeedV P L T J ops a0 i o)
    (hnone : ∀ i o, ops[i]? = some o → o.dst = none → ∀ v ds w, (plAt L i).2 v ds w → (plAt L i).2 undef ds w)
    (hQ : ∀ vs w dn, (∀ i, i < ops.size → dn i = true) → J dn w → (∀ i, i < ops.size → phiW L i vs w) → Q .normal (putAll vs ops.toList 0 a0) w) :
    ∀ (fuel : Nat) (listed : Array Bool) (a : Act) (w : World), left listed.toList = fuel → InvV L J ops a0 listed a w → wpAny P .any ops Q fuel listed a w := by
  have hend : ∀ (listed : Array Bool) (a : Act) (w : World), InvV L J ops a0 listed a w → Region.ready .any ops listed = [] → Q .normal a w := by
    intro listed a w I hr
    have hall := ready_nil hB I.lsize hr
    have he := invV_end hB I
    rw [he]
    refine hQ _ w _ hall I.keep (fun i hi => ?_)
    exact I.told i ops[i] (by simp [hi]) (hall i hi)
  intro fuel
  induction fuel with
  | zero =>
    intro listed a w hl I
    have hr : Region.ready .any ops listed = [] := by
      cases hrr : Region.ready .any ops listed with
      | nil => rfl
      | cons i l =>
        exfalso
        obtain ⟨o, ho, h1, _⟩ := ready_spec (ops := ops) (listed := listed) (i := i) (by rw [hrr]; simp)
        have hlt : i < ops.size := by
          rcases Nat.lt_or_ge i ops.size with h | h
          · exact h
          · simp [Array.getElem?_eq_none h] at ho
        have := left_zero listed.toList hl i (by simpa [I.lsize] using hlt)
        simp at this
        simp [this] at h1
    exact ⟨hr, hend listed a w I hr⟩
  | succ fuel ih =>
    intro listed a w hl I
    refine ⟨hend listed a w I, fun i hi => ?_⟩
    obtain ⟨o, ho, h1, h2⟩ := ready_spec hi
    have hlt : i < ops.size := by
      rcases Nat.lt_or_ge i ops.size with h | h
      · exact h
      · simp [Array.getElem?_eq_none h] at ho
    have hli : listed[i]? = some false := by
      have h3 : i < listed.size := by rw [I.lsize]; exact hlt
      simp [h3] at h1 ⊢; exact h1
    have hun : listed.getD i false = false := by
      have h3 : i < listed.size := by rw [I.lsize]; exact hlt
      simp [h3] at hli ⊢; exact hli
    have hleft : left (listed.setIfInBounds i true).toList = fuel := by
      have := left_set listed.toList i (by simpa using hli)
      simp only [Array.toList_setIfInBounds]; omega
    have hins : InsW L ops a0 i o a w := by
      refine ⟨fun e he hb => ?_, fun k hk => ?_⟩
      · have h3 := h2 e he hb
        have h4 : e.on < ops.size := by
          rcases Nat.lt_or_ge e.on ops.size with h | h
          · exact h
          · have h5 : listed.size ≤ e.on := by rw [I.lsize]; exact h
            simp [Array.getD_eq_getD_getElem?, Array.getElem?_eq_none h5] at h3
        exact I.told e.on ops[e.on] (by simp [h4]) h3
      · refine I.kept k (fun j p hj hl2 hd => ?_)
        have hji : j ≠ i := fun e => by subst e; rw [hun] at hl2; cases hl2
        obtain ⟨e, he, he1, he2⟩ := ext_spec hk hj hd hji
        have h5 := I.closed j p hj hl2 e he he2
        rw [he1, hun] at h5; cases h5
    have hrd : Ready ops i (fun j => listed.getD j false) := by
      refine ⟨hun, fun j hj => ?_, fun j k hjk hj => ?_⟩
      · simp only [waits, ho, Option.map_some, Option.getD_some] at hj
        rw [← Array.any_toList, List.any_eq_true] at hj
        obtain ⟨e, he, h3⟩ := hj
        simp only [Bool.and_eq_true, beq_iff_eq] at h3
        rw [← h3.1]; exact h2 e he h3.2
      · cases hoj : ops[j]? with
        | none => simp [waits, hoj] at hjk
        | some p =>
          simp only [waits, hoj, Option.map_some, Option.getD_some] at hjk
          rw [← Array.any_toList, List.any_eq_true] at hjk
          obtain ⟨e, he, h3⟩ := hjk
          simp only [Bool.and_eq_true, beq_iff_eq] at h3
          rw [← h3.1]; exact I.closed j p hoj hj e he h3.2
    obtain ⟨n1, n2⟩ := hop i o ho a w _ hrd I.keep hins
    unfold wpOp
    simp only [ho]
    by_cases hw : Region.wanted o (yielded ops a.tmps) = true
    · simp only [hw, if_true]
      refine .inl ?_
      have hu := n1 (wanted_iff.1 hw)
      unfold Oper.wp
      generalize (execOp a.eval o).run P w = r at *
      have fin : ∀ v w', stepAt T i w w' → J (upd (fun j => listed.getD j false) i) w' → (plAt L i).2 v ((plAt L i).1.map (gv ops a)) w' → wpAny P .any ops Q fuel (listed.setIfInBounds i true) (a.put o.dst v) w' := by
        intro v w' hg hJ hv
        cases hd : o.dst with
        | none =>
          have hv' := hnone i o ho hd v _ w' hv
          have := invV_put (v := undef) hst hD hB ho I hun h2 hg hJ hv' (fun _ => rfl)
          rw [hd] at this
          exact ih _ _ _ hleft this
        | some d =>
          have := invV_put (v := v) hst hD hB ho I hun h2 hg hJ hv (fun e => by rw [hd] at e; cases e)
          rw [hd] at this
          exact ih _ _ _ hleft this
      cases r with
      | ok n w' =>
        cases n <;> simp only [uponW] at hu <;> simp only [Oper.upon]
        case value v => exact fin v w' hu.1 hu.2.1 hu.2.2
        case skip => exact fin undef w' hu.1 hu.2.1 hu.2.2
        case enter f args =>
          refine hu.mono (fun e w'' he => ?_)
          obtain ⟨v, rfl, hg, hJ, hv⟩ := he
          exact fin v w'' hg hJ hv
      | halt x w' => simp only [uponW] at hu
    · simp only [hw]
      have hu := n2 (fun h => hw (wanted_iff.2 h))
      have := invV_put (v := undef) hst hD hB ho I hun h2 (hidle i w) hu.1 hu.2 (fun _ => rfl)
      exact ih _ _ _ hleft this

/-- THE LAW: a region that draws its order and writes. -/
theorem wp_region_v {P : Program} {id : Nat} {l : List Oper} {a0 : Act} {w0 : World} {Q : Exit → Act → World → Prop} (L : List Pl) (T : List (Option Step)) (J : (Nat → Bool) → World → Prop)
    (hm : P.follows .mixedOrders = true) (hB : (relB l.toArray a0.tmps.size && depB L l.toArray && (L.length == l.length)) = true) (hst : StAllW L) (hsp : SpAll L l.toArray T 0) (hnn : NoneAll L l)
    (hJ : J (fun _ => false) w0.drew) (hop : NeedAllV P L T J l.toArray a0 l 0)
    (hQ : ∀ vs w dn, (∀ i, i < l.length → dn i = true) → J dn w → ToldAllW vs w L 0 → Q .normal (putAll vs l 0 a0) w) : (Code.region id l.toArray true).wp P Q a0 w0 := by
  simp only [Bool.and_eq_true, beq_iff_eq] at hB
  obtain ⟨⟨h1, h2⟩, h3⟩ := hB
  refine wp_region_any hm (wpAny_relV (L := L) (T := T) (J := J) h1 h2 (fun i j v ds w w' hne hwt hs hp => ?_) (fun j w => ?_) (fun i o hi => ?_) (fun i o hi hd => noneAll_at L l i o hnn (by simpa using hi) hd) (fun vs w dn hdn hj ht => ?_) _ _ _ _ ?_ ?_)
  · unfold stepAt at hs
    cases ht : T.getD j none with
    | none => rw [ht] at hs; exact stAllW_at L i hst v ds w w' hs hp
    | some s =>
      rw [ht] at hs
      have h4 := (spAll_at T 0 j s hsp ht).2
      rw [Nat.zero_add] at h4
      have h5 := spIn_at L 0 i h4 (by rw [Nat.zero_add]; exact hne) (by rw [Nat.zero_add]; exact hwt)
      exact h5 v ds w w' hs hp
  · unfold stepAt
    cases ht : T.getD j none with
    | none => exact Grow.refl w
    | some s => exact (spAll_at T 0 j s hsp ht).1 w
  · have := needAllV_at l 0 i o hop (by simpa using hi)
    simpa using this
  · have h6 := hQ vs w dn (fun i hi => hdn i (by simpa using hi)) hj (toldAllW_of vs w L 0 (fun i hi => by
      rw [Nat.zero_add]
      exact ht i (by rw [h3] at hi; simpa using hi)))
    simpa using h6
  · simp only [Array.toList_replicate]
    exact left_replicate _
  · refine ⟨by simp, by rw [show (fun j => (Array.replicate l.toArray.size false).getD j false) = fun _ => false from funext fun j => by by_cases h : j < l.length <;> simp [h]]; exact hJ, rfl, rfl, fun i o hi hl => ?_, fun _ _ => rfl, fun i o hi hl => ?_⟩
    · exfalso
      by_cases h : i < l.length <;> simp [h] at hl
    · exfalso
      by_cases h : i < l.length <;> simp [h] at hl

/-- An operation without a guard, and one whose guard says yes, or no. -/
theorem needv_plain {P : Program} {L : List Pl} {T : List (Option Step)} {J : (Nat → Bool) → World → Prop} {ops : Array Oper} {a0 : Act} {i : Nat} {o : Oper} (hg : o.guard = none)
    (h : ∀ a w dn, Ready ops i dn → J dn w → InsW L ops a0 i o a w → uponW P (stepAt T i) (J (upd dn i)) w (fun v w' => (plAt L i).2 v ((plAt L i).1.map (gv ops a)) w') ((execOp a.eval o).run P w)) : NeedV P L T J ops a0 i o :=
  fun a w dn hr hw hin => ⟨fun _ => h a w dn hr hw hin, fun hn => absurd (by unfold wants; rw [hg]; trivial) hn⟩
theorem needv_yes {P : Program} {L : List Pl} {T : List (Option Step)} {J : (Nat → Bool) → World → Prop} {ops : Array Oper} {a0 : Act} {i : Nat} {o : Oper} (j : Nat) (b : Bool) (hg : o.guard = some (j, b))
    (hy : ∀ a w, InsW L ops a0 i o a w → gv ops a j = .bool b)
    (h : ∀ a w dn, Ready ops i dn → J dn w → InsW L ops a0 i o a w → uponW P (stepAt T i) (J (upd dn i)) w (fun v w' => (plAt L i).2 v ((plAt L i).1.map (gv ops a)) w') ((execOp a.eval o).run P w)) : NeedV P L T J ops a0 i o :=
  fun a w dn hr hw hin => ⟨fun _ => h a w dn hr hw hin, fun hn => absurd (by unfold wants; rw [hg]; exact hy a w hin) hn⟩
theorem needv_no {P : Program} {L : List Pl} {T : List (Option Step)} {J : (Nat → Bool) → World → Prop} {ops : Array Oper} {a0 : Act} {i : Nat} {o : Oper} (j : Nat) (b c : Bool) (hg : o.guard = some (j, b)) (hbc : b ≠ c)
    (hy : ∀ a w, InsW L ops a0 i o a w → gv ops a j = .bool c) (hk : ∀ w dn, Ready ops i dn → J dn w → J (upd dn i) w) (hu : ∀ ds w, (plAt L i).2 undef ds w) : NeedV P L T J ops a0 i o :=
  fun a w dn hr hw hin => ⟨fun hn => by
    unfold wants at hn; rw [hg] at hn
    have h1 := hy a w hin
    have h2 : gv ops a j = .bool b := hn
    rw [h1] at h2
    exact absurd (by cases h2; rfl) hbc, fun _ => ⟨hk w dn hr hw, hu _ w⟩⟩
theorem needv_undef {P : Program} {L : List Pl} {T : List (Option Step)} {J : (Nat → Bool) → World → Prop} {ops : Array Oper} {a0 : Act} {i : Nat} {o : Oper} (j : Nat) (b : Bool) (hg : o.guard = some (j, b))
    (hy : ∀ a w, InsW L ops a0 i o a w → gv ops a j = undef) (hk : ∀ w dn, Ready ops i dn → J dn w → J (upd dn i) w) (hu : ∀ ds w, (plAt L i).2 undef ds w) : NeedV P L T J ops a0 i o :=
  fun a w dn hr hw hin => ⟨fun hn => by
    unfold wants at hn; rw [hg] at hn
    have h1 := hy a w hin
    have h2 : gv ops a j = .bool b := hn
    rw [h1] at h2
    exact absurd h2 (undef_ne_bool b), fun _ => ⟨hk w dn hr hw, hu _ w⟩⟩


end Go.Proofs.Ytgpfflfdigekeaa.Reg
