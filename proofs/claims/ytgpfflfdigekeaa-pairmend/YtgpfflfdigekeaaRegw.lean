/-
  A drawn region that also writes: one predicate a place, a step relation for each operation that does more than grow memory, and a fact on the world that every step keeps; in whatever order the operations come the frame is as told at the end.
  No condition beyond the premises that each theorem writes out.
-/
import Derived.Test.YtgpfflfdigekeaaReg
namespace Go.Proofs.Ytgpfflfdigekeaa.Reg
set_option maxRecDepth 100000
open Go Go.RowKit

/-- A predicate of a place's value, of values of places that it waits for, and of the world. -/
abbrev Pl := List Nat × (Value → List Value → World → Prop)
def pl (q : Value → World → Prop) : Pl := ([], fun v _ w => q v w)
def pl1 (d : Nat) (q : Value → Value → World → Prop) : Pl := ([d], fun v ds w => q v (ds.getD 0 undef) w)
def plAt (L : List Pl) (i : Nat) : Pl := L.getD i ([], fun _ _ _ => True)
def phiW (L : List Pl) (i : Nat) (f : Nat → Value) (w : World) : Prop := (plAt L i).2 (f i) ((plAt L i).1.map f) w
def setv (f : Nat → Value) (i : Nat) (v : Value) : Nat → Value := fun j => if j = i then v else f j

abbrev Step := World → World → Prop
def stepAt (T : List (Option Step)) (j : Nat) : Step := match T.getD j none with
  | none => Grow
  | some s => s

/-- Operation i waits for operation j. -/
def waits (ops : Array Oper) (i j : Nat) : Bool := ((ops[i]?).map fun o => o.after.any fun e => e.on == j && Region.binds .any e).getD false

/-- What is asked once an operation has yielded this: the step, and what is kept. -/
def uponW (P : Program) (s : Step) (J : World → Prop) (w : World) (R : Value → World → Prop) : Result Next → Prop
  | .ok (.value v) w' => s w w' ∧ J w' ∧ R v w'
  | .ok .skip w' => s w w' ∧ J w' ∧ R undef w'
  | .ok (.enter f args) w' => Calls P f args w' (fun e w'' => ∃ v, e = .returned v ∧ s w w'' ∧ J w'' ∧ R v w'')
  | _ => False

def InsW (L : List Pl) (ops : Array Oper) (a0 : Act) (i : Nat) (o : Oper) (a : Act) (w : World) : Prop :=
  (∀ e ∈ o.after.toList, Region.binds .any e = true → phiW L e.on (gv ops a) w) ∧ (∀ k, ext ops i k = true → a.eval (.tmp k) = a0.eval (.tmp k))

def NeedW (P : Program) (L : List Pl) (T : List (Option Step)) (J : World → Prop) (ops : Array Oper) (a0 : Act) (i : Nat) (o : Oper) : Prop :=
  ∀ a w, J w → InsW L ops a0 i o a w → (wants ops a o → uponW P (stepAt T i) J w (fun v w' => (plAt L i).2 v ((plAt L i).1.map (gv ops a)) w') ((execOp a.eval o).run P w)) ∧ (¬ wants ops a o → (plAt L i).2 undef ((plAt L i).1.map (gv ops a)) w)

def NeedAllW (P : Program) (L : List Pl) (T : List (Option Step)) (J : World → Prop) (ops : Array Oper) (a0 : Act) : List Oper → Nat → Prop
  | [], _ => True
  | o :: l, i => NeedW P L T J ops a0 i o ∧ NeedAllW P L T J ops a0 l (i + 1)

theorem needAllW_at {P : Program} {L : List Pl} {T : List (Option Step)} {J : World → Prop} {ops : Array Oper} {a0 : Act} :
    ∀ (l : List Oper) (i j : Nat) (o : Oper), NeedAllW P L T J ops a0 l i → l[j]? = some o → NeedW P L T J ops a0 (i + j) o
  | [], _, _, _, _, h => by simp at h
  | o' :: l, i, 0, o, h, hj => by simp at hj; subst hj; exact h.1
  | o' :: l, i, j + 1, o, h, hj => by
    have := needAllW_at l (i + 1) j o h.2 (by simpa using hj)
    rwa [show i + 1 + j = i + (j + 1) from by omega] at this

/-- What holds at every stage, 'listed' done. -/
structure InvW (L : List Pl) (J : World → Prop) (ops : Array Oper) (a0 : Act) (listed : Array Bool) (a : Act) (w : World) : Prop where
  lsize : listed.size = ops.size
  keep : J w
  tsize : a.tmps.size = a0.tmps.size
  defers : a.defers = a0.defers
  told : ∀ i o, ops[i]? = some o → listed.getD i false = true → phiW L i (gv ops a) w
  kept : ∀ k, (∀ i o, ops[i]? = some o → listed.getD i false = true → o.dst ≠ some k) → a.eval (.tmp k) = a0.eval (.tmp k)
  closed : ∀ i o, ops[i]? = some o → listed.getD i false = true → ∀ e ∈ o.after.toList, Region.binds .any e = true → listed.getD e.on false = true

/-- Each predicate looks at places alone that its own operation waits for. -/
def depB (L : List Pl) (ops : Array Oper) : Bool := (List.range ops.size).all fun i => (plAt L i).1.all fun d => waits ops i d

theorem dep_spec {L : List Pl} {ops : Array Oper} (h : depB L ops = true) {i : Nat} {o : Oper} (hi : ops[i]? = some o) {d : Nat} (hd : d ∈ (plAt L i).1) : ∃ e ∈ o.after.toList, e.on = d ∧ Region.binds .any e = true := by
  have hlt : i < ops.size := by
    rcases Nat.lt_or_ge i ops.size with h | h
    · exact h
    · simp [Array.getElem?_eq_none h] at hi
  unfold depB at h
  rw [List.all_eq_true] at h
  have h1 := h i (by simpa using hlt)
  rw [List.all_eq_true] at h1
  have h2 := h1 d hd
  simp only [waits, hi, Option.map_some, Option.getD_some] at h2
  rw [← Array.any_toList, List.any_eq_true] at h2
  obtain ⟨e, he, h3⟩ := h2
  simp only [Bool.and_eq_true, beq_iff_eq] at h3
  exact ⟨e, he, h3.1, h3.2⟩

theorem listed_ne {listed : Array Bool} {i j : Nat} (hi : listed.getD i false = false) (hj : listed.getD j false = true) : i ≠ j := by
  intro e; subst e; rw [hi] at hj; cases hj

theorem invW_put {L : List Pl} {T : List (Option Step)} {J : World → Prop} {ops : Array Oper} {a0 : Act} {listed : Array Bool} {a : Act} {w w' : World} {i : Nat} {o : Oper} {v : Value}
    (hst : ∀ i j v ds w w', i ≠ j → waits ops i j = false → stepAt T j w w' → (plAt L i).2 v ds w → (plAt L i).2 v ds w') (hD : depB L ops = true) (hB : relB ops a0.tmps.size = true) (hi : ops[i]? = some o) (I : InvW L J ops a0 listed a w)
    (hun : listed.getD i false = false)
    (hafter : ∀ e ∈ o.after.toList, Region.binds .any e = true → listed.getD e.on false = true) (hg : stepAt T i w w') (hJ : J w') (hv : (plAt L i).2 v ((plAt L i).1.map (gv ops a)) w') (hnone : o.dst = none → v = undef) :
    InvW L J ops a0 (listed.setIfInBounds i true) (a.put o.dst v) w' := by
  have hlt : i < ops.size := by
    rcases Nat.lt_or_ge i ops.size with h | h
    · exact h
    · simp [Array.getElem?_eq_none h] at hi
  have hll : i < listed.size := by rw [I.lsize]; exact hlt
  obtain ⟨hb1, hb2⟩ := relB_spec hB hi
  have hsame : ∀ j, j ≠ i → gv ops (a.put o.dst v) j = gv ops a j := by
    intro j hji
    by_cases hjlt : j < ops.size
    · unfold gv
      cases hd : (ops[j]?).bind (·.dst) with
      | none => rfl
      | some d =>
        refine eval_put_ne a o.dst d v (fun e => ?_)
        exact (hb2 d e).2 j hjlt hji hd
    · unfold gv; rw [Array.getElem?_eq_none (by omega)]; rfl
  have hown : gv ops (a.put o.dst v) i = v := by
    unfold gv
    simp only [hi, Option.bind_some]
    cases hd : o.dst with
    | none => simp [hnone hd]
    | some d => exact eval_put_same a d v (by rw [I.tsize]; exact (hb2 d hd).1)
  refine ⟨by simp [I.lsize], hJ, by rw [tmps_put_size]; exact I.tsize, ?_, ?_, ?_, ?_⟩
  · rw [← I.defers]; cases o.dst <;> rfl
  · intro j p hj hl
    rw [getD_set _ _ _ hll] at hl
    have hmap : ∀ k pk, ops[k]? = some pk → (k = i ∨ listed.getD k false = true) → (plAt L k).1.map (gv ops (a.put o.dst v)) = (plAt L k).1.map (gv ops a) := by
      intro k pk hk hor
      refine List.map_congr_left (fun d hd => hsame d ?_)
      obtain ⟨e, he, hed, hbd⟩ := dep_spec hD hk hd
      intro hdi
      rcases hor with rfl | hkl
      · have h5 := hafter e (by rw [hi] at hk; cases hk; exact he) hbd
        rw [hed, hdi, hun] at h5; cases h5
      · have h5 := I.closed k pk hk hkl e he hbd
        rw [hed, hdi, hun] at h5; cases h5
    by_cases hij : i = j
    · subst hij
      show (plAt L i).2 _ _ w'
      rw [hown, hmap i p hj (.inl rfl)]
      exact hv
    · rw [if_neg hij] at hl
      show (plAt L j).2 _ _ w'
      rw [hsame j (fun e => hij e.symm), hmap j p hj (.inr hl)]
      refine hst j i _ _ w w' (fun e => hij e.symm) ?_ hg (I.told j p hj hl)
      cases hw : waits ops j i with
      | false => rfl
      | true =>
        exfalso
        simp only [waits, hj, Option.map_some, Option.getD_some] at hw
        rw [← Array.any_toList, List.any_eq_true] at hw
        obtain ⟨e, he, h3⟩ := hw
        simp only [Bool.and_eq_true, beq_iff_eq] at h3
        have h5 := I.closed j p hj hl e he h3.2
        rw [h3.1, hun] at h5; cases h5
  · intro k hk
    have h1 : o.dst ≠ some k := hk i o hi (by rw [getD_set _ _ _ hll]; simp)
    rw [eval_put_ne a o.dst k v h1]
    refine I.kept k (fun j p hj hl => hk j p hj ?_)
    rw [getD_set _ _ _ hll]; split
    · rfl
    · exact hl
  · intro j p hj hl e he hb
    rw [getD_set _ _ _ hll]
    split
    · rfl
    · rw [getD_set _ _ _ hll] at hl
      by_cases hij : i = j
      · subst hij
        have : p = o := by rw [hi] at hj; exact (Option.some.inj hj).symm
        subst this
        exact hafter e he hb
      · rw [if_neg hij] at hl
        exact I.closed j p hj hl e he hb

theorem invW_end {L : List Pl} {J : World → Prop} {ops : Array Oper} {a0 : Act} {listed : Array Bool} {a : Act} {w : World}
    (hB : relB ops a0.tmps.size = true) (I : InvW L J ops a0 listed a w) :
    a = putAll (gv ops a) ops.toList 0 a0 := by
  have hp := putAll_tmps (gv ops a) ops.toList 0 a0
  refine act_ext (I.tsize.trans hp.1.symm) (I.defers.trans hp.2.symm) (fun k hk => ?_)
  by_cases hex : ∃ j : Nat, ∃ o : Oper, ops[j]? = some o ∧ o.dst = some k
  · obtain ⟨j, o, hj, hd⟩ := hex
    obtain ⟨_, hb2⟩ := relB_spec hB hj
    rw [putAll_at (gv ops a) k ops.toList 0 a0 j o (by simpa using hj) hd (by rw [← I.tsize]; exact hk) ?_]
    · simp only [Nat.zero_add, gv, hj, Option.bind_some, hd]
    · intro j' o' hj' hne e
      have hj'' : ops[j']? = some o' := by simpa using hj'
      have hlt : j' < ops.size := by
        rcases Nat.lt_or_ge j' ops.size with h | h
        · exact h
        · simp [Array.getElem?_eq_none h] at hj''
      exact (hb2 k hd).2 j' hlt hne (by simp [hj'', e])
  · rw [putAll_ne (gv ops a) k ops.toList 0 a0 (fun j o hj e => hex ⟨j, o, by simpa using hj, e⟩)]
    exact I.kept k (fun j o hj _ e => hex ⟨j, o, hj, e⟩)

theorem wpAny_relW {P : Program} {L : List Pl} {T : List (Option Step)} {J : World → Prop} {ops : Array Oper} {a0 : Act} {Q : Exit → Act → World → Prop}
    (hB : relB ops a0.tmps.size = true) (hD : depB L ops = true)
    (hst : ∀ i j v ds w w', i ≠ j → waits ops i j = false → stepAt T j w w' → (plAt L i).2 v ds w → (plAt L i).2 v ds w') (hidle : ∀ j w, stepAt T j w w)
    (hop : ∀ i o, ops[i]? = some o → NeedW P L T J ops a0 i o)
    (hnone : ∀ i o, ops[i]? = some o → o.dst = none → ∀ v ds w, (plAt L i).2 v ds w → (plAt L i).2 undef ds w)
    (hQ : ∀ vs w, J w → (∀ i, i < ops.size → phiW L i vs w) → Q .normal (putAll vs ops.toList 0 a0) w) :
    ∀ (fuel : Nat) (listed : Array Bool) (a : Act) (w : World), left listed.toList = fuel → InvW L J ops a0 listed a w → wpAny P .any ops Q fuel listed a w := by
  have hend : ∀ (listed : Array Bool) (a : Act) (w : World), InvW L J ops a0 listed a w → Region.ready .any ops listed = [] → Q .normal a w := by
    intro listed a w I hr
    have hall := ready_nil hB I.lsize hr
    have he := invW_end hB I
    rw [he]
    refine hQ _ w I.keep (fun i hi => ?_)
    exact I.told i ops[i] (by simp [hi]) (hall i hi)
  intro fuel
  induction fuel with
  | zero =>
    intro listed a w hl I
    have hr : Region.ready .any ops listed = [] := by
      cases hrr : Region.ready .any ops listed with
      | nil => rfl
      | cons i l =>
        exfalso
        obtain ⟨o, ho, h1, _⟩ := ready_spec (ops := ops) (listed := listed) (i := i) (by rw [hrr]; simp)
        have hlt : i < ops.size := by
          rcases Nat.lt_or_ge i ops.size with h | h
          · exact h
          · simp [Array.getElem?_eq_none h] at ho
        have := left_zero listed.toList hl i (by simpa [I.lsize] using hlt)
        simp at this
        simp [this] at h1
    exact ⟨hr, hend listed a w I hr⟩
  | succ fuel ih =>
    intro listed a w hl I
    refine ⟨hend listed a w I, fun i hi => ?_⟩
    obtain ⟨o, ho, h1, h2⟩ := ready_spec hi
    have hlt : i < ops.size := by
      rcases Nat.lt_or_ge i ops.size with h | h
      · exact h
      · simp [Array.getElem?_eq_none h] at ho
    have hli : listed[i]? = some false := by
      have h3 : i < listed.size := by rw [I.lsize]; exact hlt
      simp [h3] at h1 ⊢; exact h1
    have hun : listed.getD i false = false := by
      have h3 : i < listed.size := by rw [I.lsize]; exact hlt
      simp [h3] at hli ⊢; exact hli
    have hleft : left (listed.setIfInBounds i true).toList = fuel := by
      have := left_set listed.toList i (by simpa using hli)
      simp only [Array.toList_setIfInBounds]; omega
    have hins : InsW L ops a0 i o a w := by
      refine ⟨fun e he hb => ?_, fun k hk => ?_⟩
      · have h3 := h2 e he hb
        have h4 : e.on < ops.size := by
          rcases Nat.lt_or_ge e.on ops.size with h | h
          · exact h
          · have h5 : listed.size ≤ e.on := by rw [I.lsize]; exact h
            simp [Array.getD_eq_getD_getElem?, Array.getElem?_eq_none h5] at h3
        exact I.told e.on ops[e.on] (by simp [h4]) h3
      · refine I.kept k (fun j p hj hl2 hd => ?_)
        have hji : j ≠ i := fun e => by subst e; rw [hun] at hl2; cases hl2
        obtain ⟨e, he, he1, he2⟩ := ext_spec hk hj hd hji
        have h5 := I.closed j p hj hl2 e he he2
        rw [he1, hun] at h5; cases h5
    obtain ⟨n1, n2⟩ := hop i o ho a w I.keep hins
    unfold wpOp
    simp only [ho]
    by_cases hw : Region.wanted o (yielded ops a.tmps) = true
    · simp only [hw, if_true]
      refine .inl ?_
      have hu := n1 (wanted_iff.1 hw)
      unfold Oper.wp
      generalize (execOp a.eval o).run P w = r at *
      have fin : ∀ v w', stepAt T i w w' → J w' → (plAt L i).2 v ((plAt L i).1.map (gv ops a)) w' → wpAny P .any ops Q fuel (listed.setIfInBounds i true) (a.put o.dst v) w' := by
        intro v w' hg hJ hv
        cases hd : o.dst with
        | none =>
          have hv' := hnone i o ho hd v _ w' hv
          have := invW_put (v := undef) hst hD hB ho I hun h2 hg hJ hv' (fun _ => rfl)
          rw [hd] at this
          exact ih _ _ _ hleft this
        | some d =>
          have := invW_put (v := v) hst hD hB ho I hun h2 hg hJ hv (fun e => by rw [hd] at e; cases e)
          rw [hd] at this
          exact ih _ _ _ hleft this
      cases r with
      | ok n w' =>
        cases n <;> simp only [uponW] at hu <;> simp only [Oper.upon]
        case value v => exact fin v w' hu.1 hu.2.1 hu.2.2
        case skip => exact fin undef w' hu.1 hu.2.1 hu.2.2
        case enter f args =>
          refine hu.mono (fun e w'' he => ?_)
          obtain ⟨v, rfl, hg, hJ, hv⟩ := he
          exact fin v w'' hg hJ hv
      | halt x w' => simp only [uponW] at hu
    · simp only [hw]
      have hu := n2 (fun h => hw (wanted_iff.2 h))
      have := invW_put (v := undef) hst hD hB ho I hun h2 (hidle i w) I.keep hu (fun _ => rfl)
      exact ih _ _ _ hleft this

def StableW (p : Pl) : Prop := ∀ v ds w w', Grow w w' → p.2 v ds w → p.2 v ds w'
def StAllW : List Pl → Prop
  | [] => True
  | p :: L => StableW p ∧ StAllW L
def ToldAllW (vs : Nat → Value) (w : World) : List Pl → Nat → Prop
  | [], _ => True
  | p :: L, i => p.2 (vs i) (p.1.map vs) w ∧ ToldAllW vs w L (i + 1)
/-- Each predicate of an operation that doesn't come ahead holds through this step. -/
def SpIn (s : Step) (ops : Array Oper) (j : Nat) : List Pl → Nat → Prop
  | [], _ => True
  | p :: L, i => ((i == j || waits ops i j) = true ∨ ∀ v ds w w', s w w' → p.2 v ds w → p.2 v ds w') ∧ SpIn s ops j L (i + 1)
def SpAll (L : List Pl) (ops : Array Oper) : List (Option Step) → Nat → Prop
  | [], _ => True
  | none :: T, j => SpAll L ops T (j + 1)
  | some s :: T, j => ((∀ w, s w w) ∧ SpIn s ops j L 0) ∧ SpAll L ops T (j + 1)
def NoneAll : List Pl → List Oper → Prop
  | [], _ => True
  | _, [] => True
  | p :: L, o :: l => (o.dst = none → ∀ v ds w, p.2 v ds w → p.2 undef ds w) ∧ NoneAll L l

theorem st_pl {q : Value → World → Prop} (h : Stable q) : StableW (pl q) := fun v _ w w' hg hq => h v w w' hg hq

theorem stAllW_at : ∀ (L : List Pl) (i : Nat), StAllW L → StableW (plAt L i)
  | [], i, _ => fun _ _ _ _ _ _ => by simp [plAt]
  | p :: L, 0, h => h.1
  | p :: L, i + 1, h => stAllW_at L i h.2

theorem spIn_at {s : Step} {ops : Array Oper} {j : Nat} : ∀ (L : List Pl) (k i : Nat), SpIn s ops j L k → k + i ≠ j → waits ops (k + i) j = false → ∀ v ds w w', s w w' → (plAt L i).2 v ds w → (plAt L i).2 v ds w'
  | [], k, i, _, _, _ => fun _ _ _ _ _ _ => by simp [plAt]
  | p :: L, k, 0, h, hne, hw => by
    rcases h.1 with h1 | h1
    · simp only [Bool.or_eq_true, beq_iff_eq] at h1
      rcases h1 with h1 | h1
      · exact absurd h1 hne
      · rw [Nat.add_zero] at hw; rw [hw] at h1; cases h1
    · exact h1
  | p :: L, k, i + 1, h, hne, hw => by
    have := spIn_at L (k + 1) i h.2 (by omega) (by rw [show k + 1 + i = k + (i + 1) from by omega]; exact hw)
    exact this

theorem spAll_at {L : List Pl} {ops : Array Oper} : ∀ (T : List (Option Step)) (k j : Nat) (s : Step), SpAll L ops T k → T.getD j none = some s → (∀ w, s w w) ∧ SpIn s ops (k + j) L 0
  | [], k, j, s, _, h => by simp at h
  | none :: T, k, 0, s, _, h => by simp at h
  | some s' :: T, k, 0, s, h, hs => by simp at hs; subst hs; exact h.1
  | none :: T, k, j + 1, s, h, hs => by
    have := spAll_at T (k + 1) j s h (by simpa using hs)
    rwa [show k + 1 + j = k + (j + 1) from by omega] at this
  | some s' :: T, k, j + 1, s, h, hs => by
    have := spAll_at T (k + 1) j s h.2 (by simpa using hs)
    rwa [show k + 1 + j = k + (j + 1) from by omega] at this

theorem noneAll_at : ∀ (L : List Pl) (l : List Oper) (i : Nat) (o : Oper), NoneAll L l → l[i]? = some o → o.dst = none → ∀ v ds w, (plAt L i).2 v ds w → (plAt L i).2 undef ds w
  | [], _, i, _, _, _, _ => fun _ _ _ _ => by simp [plAt]
  | _ :: _, [], i, _, _, h, _ => by simp at h
  | p :: L, o' :: l, 0, o, h, ho, hd => by simp at ho; subst ho; exact h.1 hd
  | p :: L, o' :: l, i + 1, o, h, ho, hd => noneAll_at L l i o h.2 (by simpa using ho) hd

theorem toldAllW_of (vs : Nat → Value) (w : World) : ∀ (L : List Pl) (k : Nat), (∀ i, i < L.length → (plAt L i).2 (vs (k + i)) ((plAt L i).1.map vs) w) → ToldAllW vs w L k
  | [], _, _ => trivial
  | p :: L, k, h => ⟨h 0 (by simp), toldAllW_of vs w L (k + 1) (fun i hi => by
      have := h (i + 1) (by simpa using hi)
      rw [show k + (i + 1) = k + 1 + i from by omega] at this
      exact this)⟩

/-- THE LAW: a region that draws its order and writes. -/
theorem wp_region_w {P : Program} {id : Nat} {l : List Oper} {a0 : Act} {w0 : World} {Q : Exit → Act → World → Prop} (L : List Pl) (T : List (Option Step)) (J : World → Prop)
    (hm : P.follows .mixedOrders = true) (hB : (relB l.toArray a0.tmps.size && depB L l.toArray && (L.length == l.length)) = true) (hst : StAllW L) (hsp : SpAll L l.toArray T 0) (hnn : NoneAll L l)
    (hJ : J w0.drew) (hop : NeedAllW P L T J l.toArray a0 l 0)
    (hQ : ∀ vs w, J w → ToldAllW vs w L 0 → Q .normal (putAll vs l 0 a0) w) : (Code.region id l.toArray true).wp P Q a0 w0 := by
  simp only [Bool.and_eq_true, beq_iff_eq] at hB
  obtain ⟨⟨h1, h2⟩, h3⟩ := hB
  refine wp_region_any hm (wpAny_relW (L := L) (T := T) (J := J) h1 h2 (fun i j v ds w w' hne hwt hs hp => ?_) (fun j w => ?_) (fun i o hi => ?_) (fun i o hi hd => noneAll_at L l i o hnn (by simpa using hi) hd) (fun vs w hj ht => ?_) _ _ _ _ ?_ ?_)
  · unfold stepAt at hs
    cases ht : T.getD j none with
    | none => rw [ht] at hs; exact stAllW_at L i hst v ds w w' hs hp
    | some s =>
      rw [ht] at hs
      have h4 := (spAll_at T 0 j s hsp ht).2
      rw [Nat.zero_add] at h4
      have h5 := spIn_at L 0 i h4 (by rw [Nat.zero_add]; exact hne) (by rw [Nat.zero_add]; exact hwt)
      exact h5 v ds w w' hs hp
  · unfold stepAt
    cases ht : T.getD j none with
    | none => exact Grow.refl w
    | some s => exact (spAll_at T 0 j s hsp ht).1 w
  · have := needAllW_at l 0 i o hop (by simpa using hi)
    simpa using this
  · have h6 := hQ vs w hj (toldAllW_of vs w L 0 (fun i hi => by
      rw [Nat.zero_add]
      exact ht i (by rw [h3] at hi; simpa using hi)))
    simpa using h6
  · simp only [Array.toList_replicate]
    exact left_replicate _
  · refine ⟨by simp, hJ, rfl, rfl, fun i o hi hl => ?_, fun _ _ => rfl, fun i o hi hl => ?_⟩
    · exfalso
      by_cases h : i < l.length <;> simp [h] at hl
    · exfalso
      by_cases h : i < l.length <;> simp [h] at hl

/-- An operation without a guard, and one whose guard says yes, or no. -/
theorem needw_plain {P : Program} {L : List Pl} {T : List (Option Step)} {J : World → Prop} {ops : Array Oper} {a0 : Act} {i : Nat} {o : Oper} (hg : o.guard = none)
    (h : ∀ a w, J w → InsW L ops a0 i o a w → uponW P (stepAt T i) J w (fun v w' => (plAt L i).2 v ((plAt L i).1.map (gv ops a)) w') ((execOp a.eval o).run P w)) : NeedW P L T J ops a0 i o :=
  fun a w hw hin => ⟨fun _ => h a w hw hin, fun hn => absurd (by unfold wants; rw [hg]; trivial) hn⟩
theorem needw_yes {P : Program} {L : List Pl} {T : List (Option Step)} {J : World → Prop} {ops : Array Oper} {a0 : Act} {i : Nat} {o : Oper} (j : Nat) (b : Bool) (hg : o.guard = some (j, b))
    (hy : ∀ a w, InsW L ops a0 i o a w → gv ops a j = .bool b)
    (h : ∀ a w, J w → InsW L ops a0 i o a w → uponW P (stepAt T i) J w (fun v w' => (plAt L i).2 v ((plAt L i).1.map (gv ops a)) w') ((execOp a.eval o).run P w)) : NeedW P L T J ops a0 i o :=
  fun a w hw hin => ⟨fun _ => h a w hw hin, fun hn => absurd (by unfold wants; rw [hg]; exact hy a w hin) hn⟩
theorem needw_no {P : Program} {L : List Pl} {T : List (Option Step)} {J : World → Prop} {ops : Array Oper} {a0 : Act} {i : Nat} {o : Oper} (j : Nat) (b c : Bool) (hg : o.guard = some (j, b)) (hbc : b ≠ c)
    (hy : ∀ a w, InsW L ops a0 i o a w → gv ops a j = .bool c) (hu : ∀ ds w, (plAt L i).2 undef ds w) : NeedW P L T J ops a0 i o :=
  fun a w hw hin => ⟨fun hn => by
    unfold wants at hn; rw [hg] at hn
    have h1 := hy a w hin
    have h2 : gv ops a j = .bool b := hn
    rw [h1] at h2
    exact absurd (by cases h2; rfl) hbc, fun _ => hu _ w⟩
theorem needw_undef {P : Program} {L : List Pl} {T : List (Option Step)} {J : World → Prop} {ops : Array Oper} {a0 : Act} {i : Nat} {o : Oper} (j : Nat) (b : Bool) (hg : o.guard = some (j, b))
    (hy : ∀ a w, InsW L ops a0 i o a w → gv ops a j = undef) (hu : ∀ ds w, (plAt L i).2 undef ds w) : NeedW P L T J ops a0 i o :=
  fun a w hw hin => ⟨fun hn => by
    unfold wants at hn; rw [hg] at hn
    have h1 := hy a w hin
    have h2 : gv ops a j = .bool b := hn
    rw [h1] at h2
    exact absurd h2 (undef_ne_bool b), fun _ => hu _ w⟩

theorem insw_on {L : List Pl} {ops : Array Oper} {a0 : Act} {i : Nat} {o : Oper} {a : Act} {w : World} (h : InsW L ops a0 i o a w) (j : Nat)
    (hj : (o.after.any fun e => e.on == j && Region.binds .any e) = true) : (plAt L j).2 (gv ops a j) ((plAt L j).1.map (gv ops a)) w := by
  rw [← Array.any_toList, List.any_eq_true] at hj
  obtain ⟨e, he, h2⟩ := hj
  simp only [Bool.and_eq_true, beq_iff_eq] at h2
  obtain ⟨rfl, h3⟩ := h2
  exact h.1 e he h3
theorem insw_ext {L : List Pl} {ops : Array Oper} {a0 : Act} {i : Nat} {o : Oper} {a : Act} {w : World} (h : InsW L ops a0 i o a w) (k : Nat) (hk : ext ops i k = true) :
    a.eval (.tmp k) = a0.eval (.tmp k) := h.2 k hk

theorem uponw_move {P : Program} {J : World → Prop} {w : World} {R : Value → World → Prop} {o : Oper} {ev : Operand → Value} {x : Operand} (ho : o.op = .move x) (hJ : J w) (h : R (ev x) w) : uponW P Grow J w R ((execOp ev o).run P w) := by
  unfold execOp; rw [ho]; exact ⟨Grow.refl w, hJ, h⟩
theorem uponw_assign {P : Program} {J : World → Prop} {w : World} {R : Value → World → Prop} {o : Oper} {ev : Operand → Value} {x : Operand} (ho : o.op = .assign x) (hJ : J w) (h : R (ev x) w) : uponW P Grow J w R ((execOp ev o).run P w) := by
  unfold execOp; rw [ho]; exact ⟨Grow.refl w, hJ, h⟩
theorem uponw_pick {P : Program} {J : World → Prop} {w : World} {R : Value → World → Prop} {o : Oper} {ev : Operand → Value} {c x y : Operand} {b : Bool} (ho : o.op = .pick c x y) (hJ : J w) (hc : ev c = .bool b) (h : R (if b then ev x else ev y) w) : uponW P Grow J w R ((execOp ev o).run P w) := by
  unfold execOp; rw [ho]; simp only [hc]; cases b <;> exact ⟨Grow.refl w, hJ, h⟩
theorem uponw_val {P : Program} {J : World → Prop} {w : World} {R : Value → World → Prop} {o : Oper} {ev : Operand → Value} {v : Value} (h : (execOp ev o).run P w = .ok (.value v) w) (hJ : J w) (hv : R v w) : uponW P Grow J w R ((execOp ev o).run P w) := by
  rw [h]; exact ⟨Grow.refl w, hJ, hv⟩
/-- A value, and a step. -/
theorem uponw_step {P : Program} {s : Step} {J : World → Prop} {w w' : World} {R : Value → World → Prop} {o : Oper} {ev : Operand → Value} {v : Value} (h : (execOp ev o).run P w = .ok (.value v) w') (hs : s w w') (hJ : J w') (hv : R v w') : uponW P s J w R ((execOp ev o).run P w) := by
  rw [h]; exact ⟨hs, hJ, hv⟩
/-- No value, and a step: a store. -/
theorem uponw_skip {P : Program} {s : Step} {J : World → Prop} {w w' : World} {R : Value → World → Prop} {o : Oper} {ev : Operand → Value} (h : (execOp ev o).run P w = .ok .skip w') (hs : s w w') (hJ : J w') (hv : R undef w') : uponW P s J w R ((execOp ev o).run P w) := by
  rw [h]; exact ⟨hs, hJ, hv⟩
theorem uponw_call {P : Program} {s : Step} {J : World → Prop} {w : World} {R : Value → World → Prop} {o : Oper} {ev : Operand → Value} {f : FuncId} {args : Array Value} (h : (execOp ev o).run P w = .ok (.enter f args) w)
    (hc : Calls P f args w fun e w'' => ∃ v, e = .returned v ∧ s w w'' ∧ J w'' ∧ R v w'') : uponW P s J w R ((execOp ev o).run P w) := by
  rw [h]; exact hc

end Go.Proofs.Ytgpfflfdigekeaa.Reg
