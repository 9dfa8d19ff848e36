import Derived.Orders
import Derived.Below
set_option maxHeartbeats 8000000
namespace Go.Proofs.YtikhknkpndhakabGreat.Reg
set_option maxRecDepth 100000
open Go Go.RowKit
def Zp (w w' : World) : Prop := Below w.heap.size w w'
theorem Zp.refl (w : World) : Zp w w := Below.refl _ _
theorem Zp.trans {a b c : World} (h : Zp a b) (k : Zp b c) : Zp a c := Below.trans h (Below.mono k h.size)
theorem Zp.drew {a w : World} (h : Zp a w) : Zp a w.drew := Below.drew h
def gv (ops : Array Oper) (a : Act) (j : Nat) : Value :=
 match (ops[j]?).bind (·.dst) with
 | some d => a.eval (.tmp d)
 | none => undef
def ext (ops : Array Oper) (i k : Nat) : Bool :=
 (List.range ops.size).all fun j => j == i || ((ops[j]?).bind (·.dst)) != some k || (((ops[j]?).map fun o => o.after.any fun e => e.on == i && Region.binds .any e).getD false)
def Kf (ops : Array Oper) (a : Act) (o : Oper) : Prop :=
 match o.guard with
 | none => True
 | some (j, b) => gv ops a j = .bool b
def upon (P : Program) (w : World) (R : Value → World → Prop) : Result Next → Prop
 | .ok (.value v) w' => Zp w w' ∧ R v w'
 | .ok .skip w' => Zp w w' ∧ R undef w'
 | .ok (.enter f args) w' => Zp w w' ∧ Calls P f args w' (fun e w'' => ∃ v, e = .returned v ∧ Zp w' w'' ∧ R v w'')
 | _ => False
def Ins (phi : Nat → Value → World → Prop) (ops : Array Oper) (a0 : Act) (i : Nat) (o : Oper) (a : Act) (w : World) : Prop :=
 (∀ e ∈ o.after.toList, Region.binds .any e = true → phi e.on (gv ops a e.on) w) ∧ (∀ k, ext ops i k = true → a.eval (.tmp k) = a0.eval (.tmp k))
def Ziu (P : Program) (phi : Nat → Value → World → Prop) (ops : Array Oper) (a0 : Act) (w0 : World) (i : Nat) (o : Oper) : Prop :=
 ∀ a w, Zp w0 w → Ins phi ops a0 i o a w → (Kf ops a o → upon P w (phi i) ((execOp a.eval o).run P w)) ∧ (¬ Kf ops a o → phi i undef w)
def Zee (P : Program) (phi : Nat → Value → World → Prop) (ops : Array Oper) (a0 : Act) (w0 : World) : List Oper → Nat → Prop
 | [], _ => True
 | o :: l, i => Ziu P phi ops a0 w0 i o ∧ Zee P phi ops a0 w0 l (i + 1)
def Z9 (vs : Nat → Value) : List Oper → Nat → Act → Act
 | [], _, a => a
 | o :: l, i, a => Z9 vs l (i + 1) (a.put o.dst (vs i))
def J4 (ops : Array Oper) (n : Nat) : Bool :=
 (List.range ops.size).all fun i =>
  ((ops[i]?).map fun o => o.after.all (fun e => decide (e.on < i) || !Region.binds .any e) && (match o.dst with
   | some d => decide (d < n) && (List.range ops.size).all fun j => j == i || ((ops[j]?).bind (·.dst)) != some d
   | none => true)).getD false
theorem Zfb {P : Program} {phi : Nat → Value → World → Prop} {ops : Array Oper} {a0 : Act} {w0 : World} :
  ∀ (l : List Oper) (i j : Nat) (o : Oper), Zee P phi ops a0 w0 l i → l[j]? = some o → Ziu P phi ops a0 w0 (i + j) o
 | [], _, _, _, _, h => by simp at h
 | o' :: l, i, 0, o, h, hj => by simp at hj; subst hj; exact h.1
 | o' :: l, i, j + 1, o, h, hj => by
  have := Zfb l (i + 1) j o h.2 (by simpa using hj)
  rwa [show i + 1 + j = i + (j + 1) from by omega] at this
theorem Jv (b : Bool) : undef ≠ .bool b := by unfold undef; simp
theorem Va {ops : Array Oper} {a : Act} {o : Oper} : Region.wanted o (yielded ops a.tmps) = true ↔ Kf ops a o := by
 unfold Region.wanted Kf;cases hg : o.guard with
 | none => simp
 | some p =>
  obtain ⟨j, b⟩ := p;simp only [gv, yielded];cases hd : (ops[j]?).bind (·.dst) with
  | none => simp only [Option.bind_none]; have := Jv b; simp [this]
  | some d =>
   simp only [Option.bind_some, Act.eval];cases ht : a.tmps[d]? with
   | none => have := Jv b; simp [ht, this]
   | some v => simp [ht]; cases v <;> simp
theorem Q4 (a : Act) (x : Option Tmp) (v : Value) : (a.put x v).tmps.size = a.tmps.size := by cases x <;> simp [Act.put]
theorem evs (a : Act) : (∀ x, a.eval (.const x) = x) ∧ ∀ f, a.eval (.func f) = .func (.func f) #[] #[] := ⟨fun _ => rfl, fun _ => rfl⟩
theorem Vq (a : Act) (d : Nat) (v : Value) (h : d < a.tmps.size) : (a.put (some d) v).eval (.tmp d) = v := by simp [Act.put, Act.eval, h]
theorem Qr (a : Act) (x : Option Tmp) (k : Nat) (v : Value) (h : x ≠ some k) : (a.put x v).eval (.tmp k) = a.eval (.tmp k) :=
 Act.eval_put (fun d hd e => by cases e; exact h hd)
structure Inv (phi : Nat → Value → World → Prop) (ops : Array Oper) (a0 : Act) (w0 : World) (listed : Array Bool) (a : Act) (w : World) : Prop where
 lsize : listed.size = ops.size
 grow : Zp w0 w
 tsize : a.tmps.size = a0.tmps.size
 defers : a.defers = a0.defers
 told : ∀ i o, ops[i]? = some o → listed.getD i false = true → phi i (gv ops a i) w
 kept : ∀ k, (∀ i o, ops[i]? = some o → listed.getD i false = true → o.dst ≠ some k) → a.eval (.tmp k) = a0.eval (.tmp k)
 closed : ∀ i o, ops[i]? = some o → listed.getD i false = true → ∀ e ∈ o.after.toList, Region.binds .any e = true → listed.getD e.on false = true
theorem Vi {ops : Array Oper} {n : Nat} (h : J4 ops n = true) {i : Nat} {o : Oper} (hi : ops[i]? = some o) :
  (∀ e ∈ o.after.toList, Region.binds .any e = true → e.on < i) ∧ (∀ d, o.dst = some d → d < n ∧ ∀ j, j < ops.size → j ≠ i → (ops[j]?).bind (·.dst) ≠ some d) := by
 have hlt : i < ops.size := by
  rcases Nat.lt_or_ge i ops.size with h | h
  ·exact h
  ·simp [Array.getElem?_eq_none h] at hi
 unfold J4 at h;rw [List.all_eq_true] at h;have h1 := h i (by simpa using hlt);simp only [hi, Option.map_some, Option.getD_some, Bool.and_eq_true] at h1;obtain ⟨h2, h3⟩ := h1;refine ⟨fun e he hbd => ?_, fun d hd => ?_⟩
 ·have := (Array.all_eq_true_iff_forall_mem.1 h2) e (by simpa using he);simpa [hbd] using this
 ·simp only [hd, Bool.and_eq_true, decide_eq_true_eq, List.all_eq_true] at h3;refine ⟨h3.1, fun j hj hji => ?_⟩;have := h3.2 j (by simpa using hj);simpa [hji] using this
theorem Xf (l : Array Bool) (i j : Nat) (h : i < l.size) : (l.setIfInBounds i true).getD j false = if i = j then true else l.getD j false := by
 by_cases hij : i = j
 ·subst hij; simp [h]
 ·simp [hij, Array.getElem?_setIfInBounds_ne hij]
theorem Zic {phi : Nat → Value → World → Prop} {ops : Array Oper} {a0 : Act} {w0 : World} {listed : Array Bool} {a : Act} {w w' : World} {i : Nat} {o : Oper} {v : Value}
  (hst : ∀ i v w w', Zp w w' → phi i v w → phi i v w') (hB : J4 ops a0.tmps.size = true) (hi : ops[i]? = some o) (I : Inv phi ops a0 w0 listed a w)
  (hafter : ∀ e ∈ o.after.toList, Region.binds .any e = true → listed.getD e.on false = true) (hg : Zp w w') (hv : phi i v w') (hnone : o.dst = none → v = undef) :
  Inv phi ops a0 w0 (listed.setIfInBounds i true) (a.put o.dst v) w' := by
 have hlt : i < ops.size := by
  rcases Nat.lt_or_ge i ops.size with h | h
  ·exact h
  ·simp [Array.getElem?_eq_none h] at hi
 have hll : i < listed.size := by rw [I.lsize]; exact hlt
 obtain ⟨hb1, hb2⟩ := Vi hB hi;refine ⟨by simp [I.lsize], I.grow.trans hg, by rw [Q4]; exact I.tsize, ?_, ?_, ?_, ?_⟩
 ·rw [← I.defers]; cases o.dst <;> rfl
 ·intro j p hj hl;rw [Xf _ _ _ hll] at hl;by_cases hij : i = j
  ·subst hij;have : gv ops (a.put o.dst v) i = v := by
    unfold gv;simp only [hi, Option.bind_some];cases hd : o.dst with
    | none => simp [hnone hd]
    | some d => exact Vq a d v (by rw [I.tsize]; exact (hb2 d hd).1)
   rw [this]; exact hv
  ·rw [if_neg hij] at hl;have hjlt : j < ops.size := by
    rcases Nat.lt_or_ge j ops.size with h | h
    ·exact h
    ·simp [Array.getElem?_eq_none h] at hj
   have : gv ops (a.put o.dst v) j = gv ops a j := by
    unfold gv;cases hd : (ops[j]?).bind (·.dst) with
    | none => rfl
    | some d =>
     refine Qr a o.dst d v fun e => ?_;exact (hb2 d e).2 j hjlt (fun e' => hij e'.symm) hd
   rw [this];exact hst _ _ _ _ hg (I.told j p hj hl)
 ·intro k hk;have h1 : o.dst ≠ some k := hk i o hi (by rw [Xf _ _ _ hll]; simp);rw [Qr a o.dst k v h1];refine I.kept k (fun j p hj hl => hk j p hj ?_);rw [Xf _ _ _ hll]; split
  ·rfl
  ·exact hl
 ·intro j p hj hl e he hb;rw [Xf _ _ _ hll];split
  ·rfl
  ·rw [Xf _ _ _ hll] at hl;by_cases hij : i = j
   ·subst hij;have : p = o := by rw [hi] at hj; exact (Option.some.inj hj).symm
    subst this;exact hafter e he hb
   ·rw [if_neg hij] at hl;exact I.closed j p hj hl e he hb
theorem Vc {ops : Array Oper} {listed : Array Bool} {i : Nat} (h : i ∈ Region.ready .any ops listed) :
  ∃ o, ops[i]? = some o ∧ listed.getD i true = false ∧ ∀ e ∈ o.after.toList, Region.binds .any e = true → listed.getD e.on false = true := by
 unfold Region.ready at h;rw [List.mem_filter] at h;obtain ⟨h1, h2⟩ := h;simp only [Bool.and_eq_true, Bool.not_eq_true'] at h2;obtain ⟨h2, h3⟩ := h2;cases ho : ops[i]? with
 | none => simp [ho] at h3
 | some o =>
  refine ⟨o, rfl, h2, fun e he hb => ?_⟩;simp only [ho, Option.map_some, Option.getD_some] at h3;have := (Array.all_eq_true_iff_forall_mem.1 h3) e (by simpa using he);simpa [hb] using this
theorem Zbs {ops : Array Oper} {n : Nat} {listed : Array Bool} (hB : J4 ops n = true) (hs : listed.size = ops.size) (h : Region.ready .any ops listed = []) :
  ∀ i, i < ops.size → listed.getD i false = true := by
 intro i
 induction i using Nat.strongRecOn with
 | ind i ih =>
  intro hi;have ho : ops[i]? = some ops[i] := by simp [hi]
  obtain ⟨hb1, _⟩ := Vi hB ho;rcases hl : listed.getD i false with _ | _
  ·exfalso;have : i ∈ Region.ready .any ops listed := by
    unfold Region.ready;rw [List.mem_filter];refine ⟨by simpa using hi, ?_⟩;simp only [ho, Option.map_some, Option.getD_some, Bool.and_eq_true];refine ⟨?_, ?_⟩
    ·have : i < listed.size := by omega
     simp [this] at hl ⊢; exact hl
    ·rw [Array.all_eq_true_iff_forall_mem];intro e he;cases hbd : Region.binds .any e with
     | false => simp
     | true =>
      have h1 := hb1 e (by simpa using he) hbd;simp [ih e.on h1 (by omega)]
   rw [h] at this; simp at this
  ·rfl
def left (l : List Bool) : Nat := (l.filter (fun b => !b)).length
theorem Zbb : ∀ (l : List Bool) (i : Nat), l[i]? = some false → left (l.set i true) + 1 = left l
 | [], _, h => by simp at h
 | b :: l, 0, h => by simp at h; subst h; simp [left]
 | b :: l, i + 1, h => by
  have := Zbb l i (by simpa using h);simp only [List.set_cons_succ, left] at *;cases b <;> simp <;> omega
theorem Zaa : ∀ (l : List Bool), left l = 0 → ∀ i, i < l.length → l[i]? = some true
 | [], _, i, h => by simp at h
 | b :: l, h, 0, _ => by cases b <;> simp [left] at h ⊢
 | b :: l, h, i + 1, hi => by
  have h' : left l = 0 := by cases b <;> simp_all [left]
  simpa using Zaa l h' i (by simpa using hi)
theorem Kj (vs : Nat → Value) : ∀ (l : List Oper) (i : Nat) (a : Act), (Z9 vs l i a).tmps.size = a.tmps.size ∧ (Z9 vs l i a).defers = a.defers
 | [], _, _ => ⟨rfl, rfl⟩
 | o :: l, i, a => by
  have := Kj vs l (i + 1) (a.put o.dst (vs i));refine ⟨this.1.trans (Q4 _ _ _), this.2.trans ?_⟩;cases o.dst <;> rfl
theorem Kx (vs : Nat → Value) (k : Nat) : ∀ (l : List Oper) (i : Nat) (a : Act), (∀ (j : Nat) (o : Oper), l[j]? = some o → o.dst ≠ some k) → (Z9 vs l i a).eval (.tmp k) = a.eval (.tmp k)
 | [], _, _, _ => rfl
 | o :: l, i, a, h => by
  show (Z9 vs l (i + 1) (a.put o.dst (vs i))).eval (.tmp k) = _;rw [Kx vs k l (i + 1) _ (fun j p hj => h (j + 1) p (by simpa using hj)), Qr _ _ _ _ (h 0 o (by simp))]
theorem J6 (vs : Nat → Value) (k : Nat) : ∀ (l : List Oper) (i : Nat) (a : Act) (j : Nat) (o : Oper), l[j]? = some o → o.dst = some k → k < a.tmps.size →
  (∀ j' o', l[j']? = some o' → j' ≠ j → o'.dst ≠ some k) → (Z9 vs l i a).eval (.tmp k) = vs (i + j)
 | [], _, _, _, _, h, _, _, _ => by simp at h
 | o' :: l, i, a, 0, o, h, hd, hk, hu => by
  simp at h; subst h;show (Z9 vs l (i + 1) (a.put o'.dst (vs i))).eval (.tmp k) = _;rw [Kx vs k l (i + 1) _ (fun j p hj => hu (j + 1) p (by simpa using hj) (by omega)), hd];exact Vq a k _ hk
 | o' :: l, i, a, j + 1, o, h, hd, hk, hu => by
  show (Z9 vs l (i + 1) (a.put o'.dst (vs i))).eval (.tmp k) = _;rw [J6 vs k l (i + 1) _ j o (by simpa using h) hd (by rw [Q4]; exact hk) (fun j' p hj hne => hu (j' + 1) p (by simpa using hj) (by omega))]
  congr 1; omega
theorem Zec {a b : Act} (h1 : a.tmps.size = b.tmps.size) (h2 : a.defers = b.defers) (h3 : ∀ k, k < a.tmps.size → a.eval (.tmp k) = b.eval (.tmp k)) : a = b := by
 obtain ⟨ta, da⟩ := a;obtain ⟨tb, db⟩ := b;simp at h1 h2; subst h2
 congr 1
 refine Array.ext h1 fun k hk1 hk2 => ?_;have := h3 k (by simpa using hk1);simpa [Act.eval, hk1, hk2] using this
theorem Zub {phi : Nat → Value → World → Prop} {ops : Array Oper} {a0 : Act} {w0 : World} {listed : Array Bool} {a : Act} {w : World}
  (hB : J4 ops a0.tmps.size = true) (I : Inv phi ops a0 w0 listed a w) :
  a = Z9 (gv ops a) ops.toList 0 a0 := by
 have hp := Kj (gv ops a) ops.toList 0 a0;refine Zec (I.tsize.trans hp.1.symm) (I.defers.trans hp.2.symm) fun k hk => ?_;by_cases hex : ∃ j : Nat, ∃ o : Oper, ops[j]? = some o ∧ o.dst = some k
 ·obtain ⟨j, o, hj, hd⟩ := hex;obtain ⟨_, hb2⟩ := Vi hB hj;rw [J6 (gv ops a) k ops.toList 0 a0 j o (by simpa using hj) hd (by rw [← I.tsize]; exact hk) ?_]
  ·simp only [Nat.zero_add, gv, hj, Option.bind_some, hd]
  ·intro j' o' hj' hne e;have hj'' : ops[j']? = some o' := by simpa using hj'
   have hlt : j' < ops.size := by
    rcases Nat.lt_or_ge j' ops.size with h | h
    ·exact h
    ·simp [Array.getElem?_eq_none h] at hj''
   exact (hb2 k hd).2 j' hlt hne (by simp [hj'', e])
 ·rw [Kx (gv ops a) k ops.toList 0 a0 (fun j o hj e => hex ⟨j, o, by simpa using hj, e⟩)];exact I.kept k (fun j o hj _ e => hex ⟨j, o, hj, e⟩)
theorem Zcy {ops : Array Oper} {i k : Nat} (h : ext ops i k = true) {j : Nat} {o : Oper} (hj : ops[j]? = some o) (hd : o.dst = some k) (hne : j ≠ i) :
  ∃ e ∈ o.after.toList, e.on = i ∧ Region.binds .any e = true := by
 have hlt : j < ops.size := by
  rcases Nat.lt_or_ge j ops.size with h | h
  ·exact h
  ·simp [Array.getElem?_eq_none h] at hj
 unfold ext at h;rw [List.all_eq_true] at h;have := h j (by simpa using hlt);simp only [hj, Option.bind_some, hd, Option.map_some, Option.getD_some, Bool.or_eq_true, beq_iff_eq, bne_self_eq_false, Bool.false_eq_true, or_false] at this;rcases this with h1 | h1
 ·exact absurd h1 hne
 ·rw [← Array.any_toList, List.any_eq_true] at h1;obtain ⟨e, he, h2⟩ := h1;simp only [Bool.and_eq_true, beq_iff_eq] at h2;exact ⟨e, by simpa using he, h2.1, h2.2⟩
theorem Zn4 {P : Program} {phi : Nat → Value → World → Prop} {ops : Array Oper} {a0 : Act} {w0 : World} {Q : Exit → Act → World → Prop}
  (hB : J4 ops a0.tmps.size = true) (hst : ∀ i v w w', Zp w w' → phi i v w → phi i v w') (hop : ∀ i o, ops[i]? = some o → Ziu P phi ops a0 w0 i o)
  (hnone : ∀ i o, ops[i]? = some o → o.dst = none → ∀ v w, phi i v w → phi i undef w)
  (hQ : ∀ vs w, Zp w0 w → (∀ i, i < ops.size → phi i (vs i) w) → Q .normal (Z9 vs ops.toList 0 a0) w) :
  ∀ (fuel : Nat) (listed : Array Bool) (a : Act) (w : World), left listed.toList = fuel → Inv phi ops a0 w0 listed a w → wpAny P .any ops Q fuel listed a w := by
 have hend : ∀ (listed : Array Bool) (a : Act) (w : World), Inv phi ops a0 w0 listed a w → Region.ready .any ops listed = [] → Q .normal a w := by
  intro listed a w I hr;have hall := Zbs hB I.lsize hr;have he := Zub hB I;rw [he];refine hQ _ w I.grow fun i hi => ?_;exact I.told i ops[i] (by simp [hi]) (hall i hi)
 intro fuel
 induction fuel with
 | zero =>
  intro listed a w hl I;have hr : Region.ready .any ops listed = [] := by
   cases hrr : Region.ready .any ops listed with
   | nil => rfl
   | cons i l =>
    exfalso;obtain ⟨o, ho, h1, _⟩ := Vc (ops := ops) (listed := listed) (i := i) (by rw [hrr]; simp);have hlt : i < ops.size := by
     rcases Nat.lt_or_ge i ops.size with h | h
     ·exact h
     ·simp [Array.getElem?_eq_none h] at ho
    have := Zaa listed.toList hl i (by simpa [I.lsize] using hlt);simp at this;simp [this] at h1
  exact ⟨hr, hend listed a w I hr⟩
 | succ fuel ih =>
  intro listed a w hl I;refine ⟨hend listed a w I, fun i hi => ?_⟩;obtain ⟨o, ho, h1, h2⟩ := Vc hi;have hlt : i < ops.size := by
   rcases Nat.lt_or_ge i ops.size with h | h
   ·exact h
   ·simp [Array.getElem?_eq_none h] at ho
  have hli : listed[i]? = some false := by
   have h3 : i < listed.size := by rw [I.lsize]; exact hlt
   simp [h3] at h1 ⊢; exact h1
  have hleft : left (listed.setIfInBounds i true).toList = fuel := by
   have := Zbb listed.toList i (by simpa using hli);simp only [Array.toList_setIfInBounds]; omega
  have hins : Ins phi ops a0 i o a w := by
   refine ⟨fun e he hb => ?_, fun k hk => ?_⟩
   ·have h3 := h2 e he hb;have h4 : e.on < ops.size := by
     rcases Nat.lt_or_ge e.on listed.size with h | h
     ·rw [← I.lsize]; exact h
     ·simp [Array.getElem?_eq_none h] at h3
    exact I.told e.on ops[e.on] (by simp [h4]) h3
   ·refine I.kept k fun j p hj hl' hd => ?_;by_cases hji : j = i
    ·subst hji; simp [hli] at hl'
    ·obtain ⟨e, he, h3, h4⟩ := Zcy hk hj hd hji;have := I.closed j p hj hl' e he h4;rw [h3] at this;simp [hli] at this
  obtain ⟨n1, n2⟩ := hop i o ho a w I.grow hins;unfold wpOp;simp only [ho];by_cases hw : Region.wanted o (yielded ops a.tmps) = true
  ·simp only [hw, if_true];refine .inl ?_;have hu := n1 (Va.1 hw);unfold Oper.wp;generalize (execOp a.eval o).run P w = r at *;have fin : ∀ v w', Zp w w' → phi i v w' → wpAny P .any ops Q fuel (listed.setIfInBounds i true) (a.put o.dst v) w' := by
    intro v w' hg hv;cases hd : o.dst with
    | none =>
     have hv' := hnone i o ho hd v w' hv;have := Zic (v := undef) hst hB ho I h2 hg hv' (fun _ => rfl);rw [hd] at this;exact ih _ _ _ hleft this
    | some d =>
     have := Zic (v := v) hst hB ho I h2 hg hv (fun e => by rw [hd] at e; cases e);rw [hd] at this;exact ih _ _ _ hleft this
   cases r with
   | ok n w' =>
    cases n <;> simp only [upon] at hu <;> simp only [Oper.upon]
    case value v => exact fin v w' hu.1 hu.2
    case skip => exact fin undef w' hu.1 hu.2
    case enter f args =>
     refine hu.2.mono fun e w'' he => ?_;obtain ⟨v, rfl, hg, hv⟩ := he;exact fin v w'' (hu.1.trans hg) hv
   | halt x w' => simp only [upon] at hu
  ·simp only [hw];have hu := n2 (fun h => hw (Va.2 h));have := Zic (v := undef) hst hB ho I h2 (Zp.refl w) hu (fun _ => rfl);exact ih _ _ _ hleft this
theorem V7 (n : Nat) : left (List.replicate n false) = n := by
 unfold left;rw [List.filter_eq_self.2 (fun b hb => by simp [List.eq_of_mem_replicate hb])];simp
theorem Zgg {P : Program} {id : Nat} {l : List Oper} {a0 : Act} {w0 : World} {Q : Exit → Act → World → Prop} (phi : Nat → Value → World → Prop)
  (hm : P.follows .mixedOrders = true) (hB : J4 l.toArray a0.tmps.size = true) (hst : ∀ i v w w', Zp w w' → phi i v w → phi i v w')
  (hnone : ∀ i, (l.toArray[i]?).bind (·.dst) = none → ∀ v w, phi i v w → phi i undef w)
  (hop : Zee P phi l.toArray a0 w0 l 0)
  (hQ : ∀ vs w, Zp w0 w → (∀ i, i < l.length → phi i (vs i) w) → Q .normal (Z9 vs l 0 a0) w) : (Code.region id l.toArray true).wp P Q a0 w0 := by
 refine wp_region_any hm (Zn4 (phi := phi) hB hst (fun i o hi => ?_) (fun i o hi hd => hnone i (by simp [hi, hd])) (by simpa using hQ) _ _ _ _ ?_ ?_)
 ·have := Zfb l 0 i o hop (by simpa using hi);simpa using this
 ·simp only [Array.toList_replicate];exact V7 _
 ·refine ⟨by simp, ⟨rfl, rfl, rfl, Nat.le_refl _, fun _ _ => rfl⟩, rfl, rfl, fun i o hi hl => ?_, fun _ _ => rfl, fun i o hi hl => ?_⟩
  ·exfalso;by_cases h : i < l.length <;> simp [h] at hl
  ·exfalso;by_cases h : i < l.length <;> simp [h] at hl
def ex (x : Value) : Value → World → Prop := fun v _ => v = x
def Xl (p : Value → World → Prop) : Prop := ∀ v w w', Zp w w' → p v w → p v w'
theorem Zh (x : Value) : Xl (ex x) := fun _ _ _ _ h => h
def Ze1 (L : List (Value → World → Prop)) (i : Nat) : Value → World → Prop := L.getD i (fun _ _ => True)
def Zsp : List (Value → World → Prop) → Prop
 | [] => True
 | p :: L => Xl p ∧ Zsp L
def Zir (vs : Nat → Value) (w : World) : List (Value → World → Prop) → Nat → Prop
 | [], _ => True
 | p :: L, i => p (vs i) w ∧ Zir vs w L (i + 1)
theorem Zi4 : ∀ (L : List (Value → World → Prop)) (i : Nat), Zsp L → Xl (Ze1 L i)
 | [], i, _ => fun _ _ _ _ _ => by simp [Ze1]
 | p :: L, 0, h => h.1
 | p :: L, i + 1, h => Zi4 L i h.2
theorem Zej (vs : Nat → Value) (w : World) (M : List (Value → World → Prop)) : ∀ (L : List (Value → World → Prop)) (k : Nat), (∀ i, i < L.length → Ze1 L i (vs (k + i)) w) → Zir vs w L k
 | [], _, _ => trivial
 | p :: L, k, h => ⟨h 0 (by simp), Zej vs w M L (k + 1) (fun i hi => by
   have := h (i + 1) (by simpa using hi);rw [show k + (i + 1) = k + 1 + i from by omega] at this;exact this)⟩
def Zwn (l : List Oper) : Bool := l.all fun o => o.dst.isSome
theorem Z1 {P : Program} {id : Nat} {l : List Oper} {a0 : Act} {w0 : World} {Q : Exit → Act → World → Prop} (L : List (Value → World → Prop))
  (hm : P.follows .mixedOrders = true) (hB : (J4 l.toArray a0.tmps.size && Zwn l && (L.length == l.length)) = true) (hst : Zsp L)
  (hop : Zee P (Ze1 L) l.toArray a0 w0 l 0)
  (hQ : ∀ vs w, Zp w0 w → Zir vs w L 0 → Q .normal (Z9 vs l 0 a0) w) : (Code.region id l.toArray true).wp P Q a0 w0 := by
 simp only [Bool.and_eq_true, beq_iff_eq] at hB;obtain ⟨⟨h1, h2⟩, h3⟩ := hB;refine Zgg (Ze1 L) hm h1 (fun i => Zi4 L i hst) (fun i hi v w hv => ?_) hop (fun vs w hg ht => hQ vs w hg (Zej vs w L L 0 (fun i hi => by rw [Nat.zero_add]; exact ht i (by omega))));rcases Nat.lt_or_ge i l.length with hl | hl
 ·exfalso;have := (List.all_eq_true.1 h2) l[i] (List.getElem_mem hl);simp [hl] at hi;simp [hi] at this
 ·have : Ze1 L i = fun _ _ => True := by simp [Ze1, show ¬ i < L.length from by omega]
  rw [this]; trivial
theorem Zma {P : Program} {phi : Nat → Value → World → Prop} {ops : Array Oper} {a0 : Act} {w0 : World} {i : Nat} {o : Oper} (hg : o.guard = none)
  (h : ∀ a w, Zp w0 w → Ins phi ops a0 i o a w → upon P w (phi i) ((execOp a.eval o).run P w)) : Ziu P phi ops a0 w0 i o :=
 fun a w hw hin => ⟨fun _ => h a w hw hin, fun hn => absurd (by unfold Kf; rw [hg]; trivial) hn⟩
theorem Zrv {P : Program} {phi : Nat → Value → World → Prop} {ops : Array Oper} {a0 : Act} {w0 : World} {i : Nat} {o : Oper} (j : Nat) (b : Bool) (hg : o.guard = some (j, b))
  (hy : ∀ a w, Ins phi ops a0 i o a w → gv ops a j = .bool b)
  (h : ∀ a w, Zp w0 w → Ins phi ops a0 i o a w → upon P w (phi i) ((execOp a.eval o).run P w)) : Ziu P phi ops a0 w0 i o :=
 fun a w hw hin => ⟨fun _ => h a w hw hin, fun hn => absurd (by unfold Kf; rw [hg]; exact hy a w hin) hn⟩
theorem Zz {P : Program} {phi : Nat → Value → World → Prop} {ops : Array Oper} {a0 : Act} {w0 : World} {i : Nat} {o : Oper} (j : Nat) (b c : Bool) (hg : o.guard = some (j, b)) (hbc : b ≠ c)
  (hy : ∀ a w, Ins phi ops a0 i o a w → gv ops a j = .bool c) (hu : ∀ w, phi i undef w) : Ziu P phi ops a0 w0 i o :=
 fun a w hw hin => ⟨fun hn => by
  unfold Kf at hn; rw [hg] at hn;have h1 := hy a w hin;have h2 : gv ops a j = .bool b := hn;rw [h1] at h2;exact absurd (by cases h2; rfl) hbc, fun _ => hu w⟩
theorem Vd {P : Program} {phi : Nat → Value → World → Prop} {ops : Array Oper} {a0 : Act} {w0 : World} {i : Nat} {o : Oper} (j : Nat) (b : Bool) (hg : o.guard = some (j, b))
  (hy : ∀ a w, Ins phi ops a0 i o a w → gv ops a j = undef) (hu : ∀ w, phi i undef w) : Ziu P phi ops a0 w0 i o :=
 fun a w hw hin => ⟨fun hn => by
  unfold Kf at hn; rw [hg] at hn;have h1 := hy a w hin;have h2 : gv ops a j = .bool b := hn;rw [h1] at h2;exact absurd h2 (Jv b), fun _ => hu w⟩
theorem Zm {phi : Nat → Value → World → Prop} {ops : Array Oper} {a0 : Act} {i : Nat} {o : Oper} {a : Act} {w : World} (h : Ins phi ops a0 i o a w) (j : Nat)
  (hj : (o.after.any fun e => e.on == j && Region.binds .any e) = true) : phi j (gv ops a j) w := by
 rw [← Array.any_toList, List.any_eq_true] at hj;obtain ⟨e, he, h2⟩ := hj;simp only [Bool.and_eq_true, beq_iff_eq] at h2;obtain ⟨rfl, h3⟩ := h2;exact h.1 e he h3
theorem Zwh {phi : Nat → Value → World → Prop} {ops : Array Oper} {a0 : Act} {i : Nat} {o : Oper} {a : Act} {w : World} (h : Ins phi ops a0 i o a w) (k : Nat) (hk : ext ops i k = true) :
  a.eval (.tmp k) = a0.eval (.tmp k) := h.2 k hk
theorem Zo {P : Program} {w : World} {R : Value → World → Prop} {o : Oper} {ev : Operand → Value} {x : Operand} (ho : o.op = .move x) (h : R (ev x) w) : upon P w R ((execOp ev o).run P w) := by
 unfold execOp; rw [ho]; exact ⟨Zp.refl w, h⟩
theorem Yp {P : Program} {w : World} {R : Value → World → Prop} {o : Oper} {ev : Operand → Value} {x : Operand} (ho : o.op = .assign x) (h : R (ev x) w) : upon P w R ((execOp ev o).run P w) := by
 unfold execOp; rw [ho]; exact ⟨Zp.refl w, h⟩
theorem Yv {P : Program} {w : World} {R : Value → World → Prop} {o : Oper} {ev : Operand → Value} {c x y : Operand} {b : Bool} (ho : o.op = .pick c x y) (hc : ev c = .bool b) (h : R (if b then ev x else ev y) w) : upon P w R ((execOp ev o).run P w) := by
 unfold execOp; rw [ho]; simp only [hc]; cases b <;> exact ⟨Zp.refl w, h⟩
theorem Zi {P : Program} {w : World} {R : Value → World → Prop} {o : Oper} {ev : Operand → Value} {v : Value} (h : (execOp ev o).run P w = .ok (.value v) w) (hv : R v w) : upon P w R ((execOp ev o).run P w) := by
 rw [h]; exact ⟨Zp.refl w, hv⟩
theorem Yo {P : Program} {w : World} {R : Value → World → Prop} {o : Oper} {ev : Operand → Value} {f : FuncId} {args : Array Value} (h : (execOp ev o).run P w = .ok (.enter f args) w)
  (hc : Calls P f args w fun e w'' => ∃ v, e = .returned v ∧ Zp w w'' ∧ R v w'') : upon P w R ((execOp ev o).run P w) := by
 rw [h]; exact ⟨Zp.refl w, hc⟩
end Go.Proofs.YtikhknkpndhakabGreat.Reg
namespace Go.Proofs.YtikhknkpndhakabGreat.Plain
set_option maxRecDepth 100000
def next (s : Int) (c : UInt8) : Int := (s * 131 + (c.toNat : Int) + 1) % 65521
def Xn (l : List UInt8) : Int := l.foldl next 3
theorem Zoa : Xn [] = 3 := rfl
theorem Zek (l : List UInt8) (c : UInt8) : Xn (l ++ [c]) = (Xn l * 131 + (c.toNat : Int) + 1) % 65521 := by
 simp [Xn, next, List.foldl_append]
theorem Zcl (l : List UInt8) : 0 ≤ Xn l ∧ Xn l < 65521 := by
 have key : ∀ (l : List UInt8) (s : Int), 0 ≤ s → s < 65521 → 0 ≤ l.foldl next s ∧ l.foldl next s < 65521 := by
  intro l
  induction l with
  | nil => intro s h1 h2; exact ⟨h1, h2⟩
  | cons c l ih =>
   intro s h1 h2;refine ih _ ?_ ?_ <;> unfold next <;> omega
 exact key l 3 (by omega) (by omega)
theorem Zc6 (l : List UInt8) (k : Nat) (h : k < l.length) : l.take (k + 1) = l.take k ++ [l[k]] := by
 rw [List.take_succ_eq_append_getElem h]
def hi (n : Int) : UInt8 := UInt8.ofNat ((n / 256) % 256).toNat
def lo (n : Int) : UInt8 := UInt8.ofNat (n % 256).toNat
theorem Zie (n : Int) : ((hi n).toNat : Int) = (n / 256) % 256 := by unfold hi; rw [UInt8.toNat_ofNat']; omega
theorem Za9 (n : Int) : ((lo n).toNat : Int) = n % 256 := by unfold lo; rw [UInt8.toNat_ofNat']; omega
def Qk (l : List UInt8) : List UInt8 := l ++ [hi (Xn l), lo (Xn l)]
theorem Zgj (l : List UInt8) : (Qk l).length = l.length + 2 := by simp [Qk]
def Xp (l : List UInt8) : Bool := decide (2 ≤ l.length) && (((l.getD (l.length - 2) 0).toNat : Int) * 256 + ((l.getD (l.length - 1) 0).toNat : Int) == Xn (l.take (l.length - 2)))
theorem Zk6 (x y : UInt8) (s : Int) (h0 : 0 ≤ s) (h1 : s < 65536) : ((x.toNat : Int) * 256 + (y.toNat : Int) = s) ↔ (hi s = x ∧ lo s = y) := by
 have hx : x.toNat < 256 := UInt8.toNat_lt _;have hy : y.toNat < 256 := UInt8.toNat_lt _;have h2 := Zie s;have h3 := Za9 s;constructor
 ·intro h;refine ⟨UInt8.toNat_inj.1 ?_, UInt8.toNat_inj.1 ?_⟩ <;> omega
 ·rintro ⟨rfl, rfl⟩;omega
end Go.Proofs.YtikhknkpndhakabGreat.Plain
namespace Go.Proofs.YtikhknkpndhakabGreat.Reg
set_option maxRecDepth 100000
open Go Go.RowKit
abbrev Pl := List Nat × (Value → List Value → World → Prop)
def pl (q : Value → World → Prop) : Pl := ([], fun v _ w => q v w)
def pl1 (d : Nat) (q : Value → Value → World → Prop) : Pl := ([d], fun v ds w => q v (ds.getD 0 undef) w)
def Y6 (L : List Pl) (i : Nat) : Pl := L.getD i ([], fun _ _ _ => True)
def Zjq (L : List Pl) (i : Nat) (f : Nat → Value) (w : World) : Prop := (Y6 L i).2 (f i) ((Y6 L i).1.map f) w
def Ki (f : Nat → Value) (i : Nat) (v : Value) : Nat → Value := fun j => if j = i then v else f j
abbrev Qz := World → World → Prop
def Xv (T : List (Option Qz)) (j : Nat) : Qz := match T.getD j none with
 | none => Zp
 | some s => s
def Q0 (ops : Array Oper) (i j : Nat) : Bool := ((ops[i]?).map fun o => o.after.any fun e => e.on == j && Region.binds .any e).getD false
def V2 (P : Program) (s : Qz) (J : World → Prop) (w : World) (R : Value → World → Prop) : Result Next → Prop
 | .ok (.value v) w' => s w w' ∧ J w' ∧ R v w'
 | .ok .skip w' => s w w' ∧ J w' ∧ R undef w'
 | .ok (.enter f args) w' => Calls P f args w' (fun e w'' => ∃ v, e = .returned v ∧ s w w'' ∧ J w'' ∧ R v w'')
 | _ => False
def Zgd (L : List Pl) (ops : Array Oper) (a0 : Act) (i : Nat) (o : Oper) (a : Act) (w : World) : Prop :=
 (∀ e ∈ o.after.toList, Region.binds .any e = true → Zjq L e.on (gv ops a) w) ∧ (∀ k, ext ops i k = true → a.eval (.tmp k) = a0.eval (.tmp k))
def Zku (P : Program) (L : List Pl) (T : List (Option Qz)) (J : World → Prop) (ops : Array Oper) (a0 : Act) (i : Nat) (o : Oper) : Prop :=
 ∀ a w, J w → Zgd L ops a0 i o a w → (Kf ops a o → V2 P (Xv T i) J w (fun v w' => (Y6 L i).2 v ((Y6 L i).1.map (gv ops a)) w') ((execOp a.eval o).run P w)) ∧ (¬ Kf ops a o → (Y6 L i).2 undef ((Y6 L i).1.map (gv ops a)) w)
def Zga (P : Program) (L : List Pl) (T : List (Option Qz)) (J : World → Prop) (ops : Array Oper) (a0 : Act) : List Oper → Nat → Prop
 | [], _ => True
 | o :: l, i => Zku P L T J ops a0 i o ∧ Zga P L T J ops a0 l (i + 1)
theorem Zdt {P : Program} {L : List Pl} {T : List (Option Qz)} {J : World → Prop} {ops : Array Oper} {a0 : Act} :
  ∀ (l : List Oper) (i j : Nat) (o : Oper), Zga P L T J ops a0 l i → l[j]? = some o → Zku P L T J ops a0 (i + j) o
 | [], _, _, _, _, h => by simp at h
 | o' :: l, i, 0, o, h, hj => by simp at hj; subst hj; exact h.1
 | o' :: l, i, j + 1, o, h, hj => by
  have := Zdt l (i + 1) j o h.2 (by simpa using hj)
  rwa [show i + 1 + j = i + (j + 1) from by omega] at this
structure Zsw (L : List Pl) (J : World → Prop) (ops : Array Oper) (a0 : Act) (listed : Array Bool) (a : Act) (w : World) : Prop where
 lsize : listed.size = ops.size
 keep : J w
 tsize : a.tmps.size = a0.tmps.size
 defers : a.defers = a0.defers
 told : ∀ i o, ops[i]? = some o → listed.getD i false = true → Zjq L i (gv ops a) w
 kept : ∀ k, (∀ i o, ops[i]? = some o → listed.getD i false = true → o.dst ≠ some k) → a.eval (.tmp k) = a0.eval (.tmp k)
 closed : ∀ i o, ops[i]? = some o → listed.getD i false = true → ∀ e ∈ o.after.toList, Region.binds .any e = true → listed.getD e.on false = true
def Zfz (L : List Pl) (ops : Array Oper) : Bool := (List.range ops.size).all fun i => (Y6 L i).1.all fun d => Q0 ops i d
theorem Zfy {L : List Pl} {ops : Array Oper} (h : Zfz L ops = true) {i : Nat} {o : Oper} (hi : ops[i]? = some o) {d : Nat} (hd : d ∈ (Y6 L i).1) : ∃ e ∈ o.after.toList, e.on = d ∧ Region.binds .any e = true := by
 have hlt : i < ops.size := by
  rcases Nat.lt_or_ge i ops.size with h | h
  ·exact h
  ·simp [Array.getElem?_eq_none h] at hi
 unfold Zfz at h;rw [List.all_eq_true] at h;have h1 := h i (by simpa using hlt);rw [List.all_eq_true] at h1;have h2 := h1 d hd;simp only [Q0, hi, Option.map_some, Option.getD_some] at h2;rw [← Array.any_toList, List.any_eq_true] at h2;obtain ⟨e, he, h3⟩ := h2;simp only [Bool.and_eq_true, beq_iff_eq] at h3;exact ⟨e, he, h3.1, h3.2⟩
theorem Zfm {L : List Pl} {T : List (Option Qz)} {J : World → Prop} {ops : Array Oper} {a0 : Act} {listed : Array Bool} {a : Act} {w w' : World} {i : Nat} {o : Oper} {v : Value}
  (hst : ∀ i j v ds w w', i ≠ j → Q0 ops i j = false → Xv T j w w' → (Y6 L i).2 v ds w → (Y6 L i).2 v ds w') (hD : Zfz L ops = true) (hB : J4 ops a0.tmps.size = true) (hi : ops[i]? = some o) (I : Zsw L J ops a0 listed a w)
  (hun : listed.getD i false = false)
  (hafter : ∀ e ∈ o.after.toList, Region.binds .any e = true → listed.getD e.on false = true) (hg : Xv T i w w') (hJ : J w') (hv : (Y6 L i).2 v ((Y6 L i).1.map (gv ops a)) w') (hnone : o.dst = none → v = undef) :
  Zsw L J ops a0 (listed.setIfInBounds i true) (a.put o.dst v) w' := by
 have hlt : i < ops.size := by
  rcases Nat.lt_or_ge i ops.size with h | h
  ·exact h
  ·simp [Array.getElem?_eq_none h] at hi
 have hll : i < listed.size := by rw [I.lsize]; exact hlt
 obtain ⟨hb1, hb2⟩ := Vi hB hi;have hsame : ∀ j, j ≠ i → gv ops (a.put o.dst v) j = gv ops a j := by
  intro j hji;by_cases hjlt : j < ops.size
  ·unfold gv;cases hd : (ops[j]?).bind (·.dst) with
   | none => rfl
   | some d =>
    refine Qr a o.dst d v fun e => ?_;exact (hb2 d e).2 j hjlt hji hd
  ·unfold gv; rw [Array.getElem?_eq_none (by omega)]; rfl
 have hown : gv ops (a.put o.dst v) i = v := by
  unfold gv;simp only [hi, Option.bind_some];cases hd : o.dst with
  | none => simp [hnone hd]
  | some d => exact Vq a d v (by rw [I.tsize]; exact (hb2 d hd).1)
 refine ⟨by simp [I.lsize], hJ, by rw [Q4]; exact I.tsize, ?_, ?_, ?_, ?_⟩
 ·rw [← I.defers]; cases o.dst <;> rfl
 ·intro j p hj hl;rw [Xf _ _ _ hll] at hl;have hmap : ∀ k pk, ops[k]? = some pk → (k = i ∨ listed.getD k false = true) → (Y6 L k).1.map (gv ops (a.put o.dst v)) = (Y6 L k).1.map (gv ops a) := by
   intro k pk hk hor;refine List.map_congr_left (fun d hd => hsame d ?_);obtain ⟨e, he, hed, hbd⟩ := Zfy hD hk hd;intro hdi;rcases hor with rfl | hkl
   ·have h5 := hafter e (by rw [hi] at hk; cases hk; exact he) hbd;rw [hed, hdi, hun] at h5; cases h5
   ·have h5 := I.closed k pk hk hkl e he hbd;rw [hed, hdi, hun] at h5; cases h5
  by_cases hij : i = j
  ·subst hij;show (Y6 L i).2 _ _ w';rw [hown, hmap i p hj (.inl rfl)];exact hv
  ·rw [if_neg hij] at hl;show (Y6 L j).2 _ _ w';rw [hsame j (fun e => hij e.symm), hmap j p hj (.inr hl)];refine hst j i _ _ w w' (fun e => hij e.symm) ?_ hg (I.told j p hj hl);cases hw : Q0 ops j i with
   | false => rfl
   | true =>
    exfalso;simp only [Q0, hj, Option.map_some, Option.getD_some] at hw;rw [← Array.any_toList, List.any_eq_true] at hw;obtain ⟨e, he, h3⟩ := hw;simp only [Bool.and_eq_true, beq_iff_eq] at h3;have h5 := I.closed j p hj hl e he h3.2;rw [h3.1, hun] at h5; cases h5
 ·intro k hk;have h1 : o.dst ≠ some k := hk i o hi (by rw [Xf _ _ _ hll]; simp);rw [Qr a o.dst k v h1];refine I.kept k (fun j p hj hl => hk j p hj ?_);rw [Xf _ _ _ hll]; split
  ·rfl
  ·exact hl
 ·intro j p hj hl e he hb;rw [Xf _ _ _ hll];split
  ·rfl
  ·rw [Xf _ _ _ hll] at hl;by_cases hij : i = j
   ·subst hij;have : p = o := by rw [hi] at hj; exact (Option.some.inj hj).symm
    subst this;exact hafter e he hb
   ·rw [if_neg hij] at hl;exact I.closed j p hj hl e he hb
theorem Zr8 {L : List Pl} {J : World → Prop} {ops : Array Oper} {a0 : Act} {listed : Array Bool} {a : Act} {w : World}
  (hB : J4 ops a0.tmps.size = true) (I : Zsw L J ops a0 listed a w) :
  a = Z9 (gv ops a) ops.toList 0 a0 := by
 have hp := Kj (gv ops a) ops.toList 0 a0;refine Zec (I.tsize.trans hp.1.symm) (I.defers.trans hp.2.symm) fun k hk => ?_;by_cases hex : ∃ j : Nat, ∃ o : Oper, ops[j]? = some o ∧ o.dst = some k
 ·obtain ⟨j, o, hj, hd⟩ := hex;obtain ⟨_, hb2⟩ := Vi hB hj;rw [J6 (gv ops a) k ops.toList 0 a0 j o (by simpa using hj) hd (by rw [← I.tsize]; exact hk) ?_]
  ·simp only [Nat.zero_add, gv, hj, Option.bind_some, hd]
  ·intro j' o' hj' hne e;have hj'' : ops[j']? = some o' := by simpa using hj'
   have hlt : j' < ops.size := by
    rcases Nat.lt_or_ge j' ops.size with h | h
    ·exact h
    ·simp [Array.getElem?_eq_none h] at hj''
   exact (hb2 k hd).2 j' hlt hne (by simp [hj'', e])
 ·rw [Kx (gv ops a) k ops.toList 0 a0 (fun j o hj e => hex ⟨j, o, by simpa using hj, e⟩)];exact I.kept k (fun j o hj _ e => hex ⟨j, o, hj, e⟩)
theorem Zk3 {P : Program} {L : List Pl} {T : List (Option Qz)} {J : World → Prop} {ops : Array Oper} {a0 : Act} {Q : Exit → Act → World → Prop}
  (hB : J4 ops a0.tmps.size = true) (hD : Zfz L ops = true)
  (hst : ∀ i j v ds w w', i ≠ j → Q0 ops i j = false → Xv T j w w' → (Y6 L i).2 v ds w → (Y6 L i).2 v ds w') (hidle : ∀ j w, Xv T j w w)
  (hop : ∀ i o, ops[i]? = some o → Zku P L T J ops a0 i o)
  (hnone : ∀ i o, ops[i]? = some o → o.dst = none → ∀ v ds w, (Y6 L i).2 v ds w → (Y6 L i).2 undef ds w)
  (hQ : ∀ vs w, J w → (∀ i, i < ops.size → Zjq L i vs w) → Q .normal (Z9 vs ops.toList 0 a0) w) :
  ∀ (fuel : Nat) (listed : Array Bool) (a : Act) (w : World), left listed.toList = fuel → Zsw L J ops a0 listed a w → wpAny P .any ops Q fuel listed a w := by
 have hend : ∀ (listed : Array Bool) (a : Act) (w : World), Zsw L J ops a0 listed a w → Region.ready .any ops listed = [] → Q .normal a w := by
  intro listed a w I hr;have hall := Zbs hB I.lsize hr;have he := Zr8 hB I;rw [he];refine hQ _ w I.keep fun i hi => ?_;exact I.told i ops[i] (by simp [hi]) (hall i hi)
 intro fuel
 induction fuel with
 | zero =>
  intro listed a w hl I;have hr : Region.ready .any ops listed = [] := by
   cases hrr : Region.ready .any ops listed with
   | nil => rfl
   | cons i l =>
    exfalso;obtain ⟨o, ho, h1, _⟩ := Vc (ops := ops) (listed := listed) (i := i) (by rw [hrr]; simp);have hlt : i < ops.size := by
     rcases Nat.lt_or_ge i ops.size with h | h
     ·exact h
     ·simp [Array.getElem?_eq_none h] at ho
    have := Zaa listed.toList hl i (by simpa [I.lsize] using hlt);simp at this;simp [this] at h1
  exact ⟨hr, hend listed a w I hr⟩
 | succ fuel ih =>
  intro listed a w hl I;refine ⟨hend listed a w I, fun i hi => ?_⟩;obtain ⟨o, ho, h1, h2⟩ := Vc hi;have hlt : i < ops.size := by
   rcases Nat.lt_or_ge i ops.size with h | h
   ·exact h
   ·simp [Array.getElem?_eq_none h] at ho
  have hli : listed[i]? = some false := by
   have h3 : i < listed.size := by rw [I.lsize]; exact hlt
   simp [h3] at h1 ⊢; exact h1
  have hun : listed.getD i false = false := by
   have h3 : i < listed.size := by rw [I.lsize]; exact hlt
   simp [h3] at hli ⊢; exact hli
  have hleft : left (listed.setIfInBounds i true).toList = fuel := by
   have := Zbb listed.toList i (by simpa using hli);simp only [Array.toList_setIfInBounds]; omega
  have hins : Zgd L ops a0 i o a w := by
   refine ⟨fun e he hb => ?_, fun k hk => ?_⟩
   ·have h3 := h2 e he hb;have h4 : e.on < ops.size := by
     rcases Nat.lt_or_ge e.on ops.size with h | h
     ·exact h
     ·have h5 : listed.size ≤ e.on := by rw [I.lsize]; exact h
      simp [Array.getD_eq_getD_getElem?, Array.getElem?_eq_none h5] at h3
    exact I.told e.on ops[e.on] (by simp [h4]) h3
   ·refine I.kept k fun j p hj hl2 hd => ?_;have hji : j ≠ i := fun e => by subst e; rw [hun] at hl2; cases hl2
    obtain ⟨e, he, he1, he2⟩ := Zcy hk hj hd hji;have h5 := I.closed j p hj hl2 e he he2;rw [he1, hun] at h5; cases h5
  obtain ⟨n1, n2⟩ := hop i o ho a w I.keep hins;unfold wpOp;simp only [ho];by_cases hw : Region.wanted o (yielded ops a.tmps) = true
  ·simp only [hw, if_true];refine .inl ?_;have hu := n1 (Va.1 hw);unfold Oper.wp;generalize (execOp a.eval o).run P w = r at *;have fin : ∀ v w', Xv T i w w' → J w' → (Y6 L i).2 v ((Y6 L i).1.map (gv ops a)) w' → wpAny P .any ops Q fuel (listed.setIfInBounds i true) (a.put o.dst v) w' := by
    intro v w' hg hJ hv;cases hd : o.dst with
    | none =>
     have hv' := hnone i o ho hd v _ w' hv;have := Zfm (v := undef) hst hD hB ho I hun h2 hg hJ hv' (fun _ => rfl);rw [hd] at this;exact ih _ _ _ hleft this
    | some d =>
     have := Zfm (v := v) hst hD hB ho I hun h2 hg hJ hv (fun e => by rw [hd] at e; cases e);rw [hd] at this;exact ih _ _ _ hleft this
   cases r with
   | ok n w' =>
    cases n <;> simp only [V2] at hu <;> simp only [Oper.upon]
    case value v => exact fin v w' hu.1 hu.2.1 hu.2.2
    case skip => exact fin undef w' hu.1 hu.2.1 hu.2.2
    case enter f args =>
     refine hu.mono fun e w'' he => ?_;obtain ⟨v, rfl, hg, hJ, hv⟩ := he;exact fin v w'' hg hJ hv
   | halt x w' => simp only [V2] at hu
  ·simp only [hw];have hu := n2 (fun h => hw (Va.2 h));have := Zfm (v := undef) hst hD hB ho I hun h2 (hidle i w) I.keep hu (fun _ => rfl);exact ih _ _ _ hleft this
def Vu (p : Pl) : Prop := ∀ v ds w w', Zp w w' → p.2 v ds w → p.2 v ds w'
def Zf7 : List Pl → Prop
 | [] => True
 | p :: L => Vu p ∧ Zf7 L
def Zbj (vs : Nat → Value) (w : World) : List Pl → Nat → Prop
 | [], _ => True
 | p :: L, i => p.2 (vs i) (p.1.map vs) w ∧ Zbj vs w L (i + 1)
def Zuh (s : Qz) (ops : Array Oper) (j : Nat) : List Pl → Nat → Prop
 | [], _ => True
 | p :: L, i => ((i == j || Q0 ops i j) = true ∨ ∀ v ds w w', s w w' → p.2 v ds w → p.2 v ds w') ∧ Zuh s ops j L (i + 1)
def Zhs (L : List Pl) (ops : Array Oper) : List (Option Qz) → Nat → Prop
 | [], _ => True
 | none :: T, j => Zhs L ops T (j + 1)
 | some s :: T, j => ((∀ w, s w w) ∧ Zuh s ops j L 0) ∧ Zhs L ops T (j + 1)
def Zc1 : List Pl → List Oper → Prop
 | [], _ => True
 | _, [] => True
 | p :: L, o :: l => (o.dst = none → ∀ v ds w, p.2 v ds w → p.2 undef ds w) ∧ Zc1 L l
theorem Yk {q : Value → World → Prop} (h : Xl q) : Vu (pl q) := fun v _ w w' hg hq => h v w w' hg hq
theorem Zbo : ∀ (L : List Pl) (i : Nat), Zf7 L → Vu (Y6 L i)
 | [], i, _ => fun _ _ _ _ _ _ => by simp [Y6]
 | p :: L, 0, h => h.1
 | p :: L, i + 1, h => Zbo L i h.2
theorem Zd5 {s : Qz} {ops : Array Oper} {j : Nat} : ∀ (L : List Pl) (k i : Nat), Zuh s ops j L k → k + i ≠ j → Q0 ops (k + i) j = false → ∀ v ds w w', s w w' → (Y6 L i).2 v ds w → (Y6 L i).2 v ds w'
 | [], k, i, _, _, _ => fun _ _ _ _ _ _ => by simp [Y6]
 | p :: L, k, 0, h, hne, hw => by
  rcases h.1 with h1 | h1
  ·simp only [Bool.or_eq_true, beq_iff_eq] at h1;rcases h1 with h1 | h1
   ·exact absurd h1 hne
   ·rw [Nat.add_zero] at hw; rw [hw] at h1; cases h1
  ·exact h1
 | p :: L, k, i + 1, h, hne, hw => by
  have := Zd5 L (k + 1) i h.2 (by omega) (by rw [show k + 1 + i = k + (i + 1) from by omega]; exact hw);exact this
theorem Kh {L : List Pl} {ops : Array Oper} : ∀ (T : List (Option Qz)) (k j : Nat) (s : Qz), Zhs L ops T k → T.getD j none = some s → (∀ w, s w w) ∧ Zuh s ops (k + j) L 0
 | [], k, j, s, _, h => by simp at h
 | none :: T, k, 0, s, _, h => by simp at h
 | some s' :: T, k, 0, s, h, hs => by simp at hs; subst hs; exact h.1
 | none :: T, k, j + 1, s, h, hs => by
  have := Kh T (k + 1) j s h (by simpa using hs)
  rwa [show k + 1 + j = k + (j + 1) from by omega] at this
 | some s' :: T, k, j + 1, s, h, hs => by
  have := Kh T (k + 1) j s h.2 (by simpa using hs)
  rwa [show k + 1 + j = k + (j + 1) from by omega] at this
theorem Zal : ∀ (L : List Pl) (l : List Oper) (i : Nat) (o : Oper), Zc1 L l → l[i]? = some o → o.dst = none → ∀ v ds w, (Y6 L i).2 v ds w → (Y6 L i).2 undef ds w
 | [], _, i, _, _, _, _ => fun _ _ _ _ => by simp [Y6]
 | _ :: _, [], i, _, _, h, _ => by simp at h
 | p :: L, o' :: l, 0, o, h, ho, hd => by simp at ho; subst ho; exact h.1 hd
 | p :: L, o' :: l, i + 1, o, h, ho, hd => Zal L l i o h.2 (by simpa using ho) hd
theorem Jj (vs : Nat → Value) (w : World) : ∀ (L : List Pl) (k : Nat), (∀ i, i < L.length → (Y6 L i).2 (vs (k + i)) ((Y6 L i).1.map vs) w) → Zbj vs w L k
 | [], _, _ => trivial
 | p :: L, k, h => ⟨h 0 (by simp), Jj vs w L (k + 1) (fun i hi => by
   have := h (i + 1) (by simpa using hi);rw [show k + (i + 1) = k + 1 + i from by omega] at this;exact this)⟩
theorem Xy {P : Program} {id : Nat} {l : List Oper} {a0 : Act} {w0 : World} {Q : Exit → Act → World → Prop} (L : List Pl) (T : List (Option Qz)) (J : World → Prop)
  (hm : P.follows .mixedOrders = true) (hB : (J4 l.toArray a0.tmps.size && Zfz L l.toArray && (L.length == l.length)) = true) (hst : Zf7 L) (hsp : Zhs L l.toArray T 0) (hnn : Zc1 L l)
  (hJ : J w0.drew) (hop : Zga P L T J l.toArray a0 l 0)
  (hQ : ∀ vs w, J w → Zbj vs w L 0 → Q .normal (Z9 vs l 0 a0) w) : (Code.region id l.toArray true).wp P Q a0 w0 := by
 simp only [Bool.and_eq_true, beq_iff_eq] at hB;obtain ⟨⟨h1, h2⟩, h3⟩ := hB;refine wp_region_any hm (Zk3 (L := L) (T := T) (J := J) h1 h2 (fun i j v ds w w' hne hwt hs hp => ?_) (fun j w => ?_) (fun i o hi => ?_) (fun i o hi hd => Zal L l i o hnn (by simpa using hi) hd) (fun vs w hj ht => ?_) _ _ _ _ ?_ ?_)
 ·unfold Xv at hs;cases ht : T.getD j none with
  | none => rw [ht] at hs; exact Zbo L i hst v ds w w' hs hp
  | some s =>
   rw [ht] at hs;have h4 := (Kh T 0 j s hsp ht).2;rw [Nat.zero_add] at h4;have h5 := Zd5 L 0 i h4 (by rw [Nat.zero_add]; exact hne) (by rw [Nat.zero_add]; exact hwt);exact h5 v ds w w' hs hp
 ·unfold Xv;cases ht : T.getD j none with
  | none => exact Zp.refl w
  | some s => exact (Kh T 0 j s hsp ht).1 w
 ·have := Zdt l 0 i o hop (by simpa using hi);simpa using this
 ·have h6 := hQ vs w hj (Jj vs w L 0 (fun i hi => by
   rw [Nat.zero_add];exact ht i (by rw [h3] at hi; simpa using hi)))
  simpa using h6
 ·simp only [Array.toList_replicate];exact V7 _
 ·refine ⟨by simp, hJ, rfl, rfl, fun i o hi hl => ?_, fun _ _ => rfl, fun i o hi hl => ?_⟩
  ·exfalso;by_cases h : i < l.length <;> simp [h] at hl
  ·exfalso;by_cases h : i < l.length <;> simp [h] at hl
theorem Zjy {P : Program} {L : List Pl} {T : List (Option Qz)} {J : World → Prop} {ops : Array Oper} {a0 : Act} {i : Nat} {o : Oper} (hg : o.guard = none)
  (h : ∀ a w, J w → Zgd L ops a0 i o a w → V2 P (Xv T i) J w (fun v w' => (Y6 L i).2 v ((Y6 L i).1.map (gv ops a)) w') ((execOp a.eval o).run P w)) : Zku P L T J ops a0 i o :=
 fun a w hw hin => ⟨fun _ => h a w hw hin, fun hn => absurd (by unfold Kf; rw [hg]; trivial) hn⟩
theorem Zwg {L : List Pl} {ops : Array Oper} {a0 : Act} {i : Nat} {o : Oper} {a : Act} {w : World} (h : Zgd L ops a0 i o a w) (j : Nat)
  (hj : (o.after.any fun e => e.on == j && Region.binds .any e) = true) : (Y6 L j).2 (gv ops a j) ((Y6 L j).1.map (gv ops a)) w := by
 rw [← Array.any_toList, List.any_eq_true] at hj;obtain ⟨e, he, h2⟩ := hj;simp only [Bool.and_eq_true, beq_iff_eq] at h2;obtain ⟨rfl, h3⟩ := h2;exact h.1 e he h3
theorem Zv4 {L : List Pl} {ops : Array Oper} {a0 : Act} {i : Nat} {o : Oper} {a : Act} {w : World} (h : Zgd L ops a0 i o a w) (k : Nat) (hk : ext ops i k = true) :
  a.eval (.tmp k) = a0.eval (.tmp k) := h.2 k hk
theorem Z6 {P : Program} {J : World → Prop} {w : World} {R : Value → World → Prop} {o : Oper} {ev : Operand → Value} {x : Operand} (ho : o.op = .move x) (hJ : J w) (h : R (ev x) w) : V2 P Zp J w R ((execOp ev o).run P w) := by
 unfold execOp; rw [ho]; exact ⟨Zp.refl w, hJ, h⟩
theorem Y8 {P : Program} {J : World → Prop} {w : World} {R : Value → World → Prop} {o : Oper} {ev : Operand → Value} {x : Operand} (ho : o.op = .assign x) (hJ : J w) (h : R (ev x) w) : V2 P Zp J w R ((execOp ev o).run P w) := by
 unfold execOp; rw [ho]; exact ⟨Zp.refl w, hJ, h⟩
theorem Zk {P : Program} {J : World → Prop} {w : World} {R : Value → World → Prop} {o : Oper} {ev : Operand → Value} {v : Value} (h : (execOp ev o).run P w = .ok (.value v) w) (hJ : J w) (hv : R v w) : V2 P Zp J w R ((execOp ev o).run P w) := by
 rw [h]; exact ⟨Zp.refl w, hJ, hv⟩
theorem Xw {P : Program} {s : Qz} {J : World → Prop} {w w' : World} {R : Value → World → Prop} {o : Oper} {ev : Operand → Value} {v : Value} (h : (execOp ev o).run P w = .ok (.value v) w') (hs : s w w') (hJ : J w') (hv : R v w') : V2 P s J w R ((execOp ev o).run P w) := by
 rw [h]; exact ⟨hs, hJ, hv⟩
theorem Yj {P : Program} {s : Qz} {J : World → Prop} {w w' : World} {R : Value → World → Prop} {o : Oper} {ev : Operand → Value} (h : (execOp ev o).run P w = .ok .skip w') (hs : s w w') (hJ : J w') (hv : R undef w') : V2 P s J w R ((execOp ev o).run P w) := by
 rw [h]; exact ⟨hs, hJ, hv⟩
theorem Yf {P : Program} {s : Qz} {J : World → Prop} {w : World} {R : Value → World → Prop} {o : Oper} {ev : Operand → Value} {f : FuncId} {args : Array Value} (h : (execOp ev o).run P w = .ok (.enter f args) w)
  (hc : Calls P f args w fun e w'' => ∃ v, e = .returned v ∧ s w w'' ∧ J w'' ∧ R v w'') : V2 P s J w R ((execOp ev o).run P w) := by
 rw [h]; exact hc
end Go.Proofs.YtikhknkpndhakabGreat.Reg
namespace Go.Proofs.YtikhknkpndhakabGreat.Reg
set_option maxRecDepth 100000
open Go Go.RowKit
def upd (dn : Nat → Bool) (i : Nat) : Nat → Bool := fun j => if j = i then true else dn j
structure Zay (ops : Array Oper) (i : Nat) (dn : Nat → Bool) : Prop where
 un : dn i = false
 rd : ∀ j, Q0 ops i j = true → dn j = true
 cl : ∀ j k, Q0 ops j k = true → dn j = true → dn k = true
theorem Zay.not1 {ops : Array Oper} {i : Nat} {dn : Nat → Bool} (h : Zay ops i dn) (j : Nat) (hj : Q0 ops j i = true) : dn j = false := by
 cases hd : dn j with
 | false => rfl
 | true => have := h.cl j i hj hd; rw [h.un] at this; cases this
theorem Zay.notBy {ops : Array Oper} {i : Nat} {dn : Nat → Bool} (h : Zay ops i dn) (j k : Nat) (hk : dn k = false) (hj : Q0 ops j k = true) : dn j = false := by
 cases hd : dn j with
 | false => rfl
 | true => have := h.cl j k hj hd; rw [hk] at this; cases this
theorem Zei {listed : Array Bool} {i : Nat} (h : i < listed.size) : (fun j => (listed.setIfInBounds i true).getD j false) = upd (fun j => listed.getD j false) i := by
 funext j
 show (listed.setIfInBounds i true).getD j false = _;rw [Xf _ _ _ h];unfold upd;by_cases hij : i = j
 ·subst hij; simp
 ·rw [if_neg hij, if_neg (fun e => hij e.symm)]
def Zkv (P : Program) (L : List Pl) (T : List (Option Qz)) (J : (Nat → Bool) → World → Prop) (ops : Array Oper) (a0 : Act) (i : Nat) (o : Oper) : Prop :=
 ∀ a w dn, Zay ops i dn → J dn w → Zgd L ops a0 i o a w → (Kf ops a o → V2 P (Xv T i) (J (upd dn i)) w (fun v w' => (Y6 L i).2 v ((Y6 L i).1.map (gv ops a)) w') ((execOp a.eval o).run P w)) ∧ (¬ Kf ops a o → J (upd dn i) w ∧ (Y6 L i).2 undef ((Y6 L i).1.map (gv ops a)) w)
def Zgb (P : Program) (L : List Pl) (T : List (Option Qz)) (J : (Nat → Bool) → World → Prop) (ops : Array Oper) (a0 : Act) : List Oper → Nat → Prop
 | [], _ => True
 | o :: l, i => Zkv P L T J ops a0 i o ∧ Zgb P L T J ops a0 l (i + 1)
theorem Zdu {P : Program} {L : List Pl} {T : List (Option Qz)} {J : (Nat → Bool) → World → Prop} {ops : Array Oper} {a0 : Act} :
  ∀ (l : List Oper) (i j : Nat) (o : Oper), Zgb P L T J ops a0 l i → l[j]? = some o → Zkv P L T J ops a0 (i + j) o
 | [], _, _, _, _, h => by simp at h
 | o' :: l, i, 0, o, h, hj => by simp at hj; subst hj; exact h.1
 | o' :: l, i, j + 1, o, h, hj => by
  have := Zdu l (i + 1) j o h.2 (by simpa using hj)
  rwa [show i + 1 + j = i + (j + 1) from by omega] at this
structure Zsx (L : List Pl) (J : (Nat → Bool) → World → Prop) (ops : Array Oper) (a0 : Act) (listed : Array Bool) (a : Act) (w : World) : Prop where
 lsize : listed.size = ops.size
 keep : J (fun j => listed.getD j false) w
 tsize : a.tmps.size = a0.tmps.size
 defers : a.defers = a0.defers
 told : ∀ i o, ops[i]? = some o → listed.getD i false = true → Zjq L i (gv ops a) w
 kept : ∀ k, (∀ i o, ops[i]? = some o → listed.getD i false = true → o.dst ≠ some k) → a.eval (.tmp k) = a0.eval (.tmp k)
 closed : ∀ i o, ops[i]? = some o → listed.getD i false = true → ∀ e ∈ o.after.toList, Region.binds .any e = true → listed.getD e.on false = true
theorem Zfn {L : List Pl} {T : List (Option Qz)} {J : (Nat → Bool) → World → Prop} {ops : Array Oper} {a0 : Act} {listed : Array Bool} {a : Act} {w w' : World} {i : Nat} {o : Oper} {v : Value}
  (hst : ∀ i j v ds w w', i ≠ j → Q0 ops i j = false → Xv T j w w' → (Y6 L i).2 v ds w → (Y6 L i).2 v ds w') (hD : Zfz L ops = true) (hB : J4 ops a0.tmps.size = true) (hi : ops[i]? = some o) (I : Zsx L J ops a0 listed a w)
  (hun : listed.getD i false = false)
  (hafter : ∀ e ∈ o.after.toList, Region.binds .any e = true → listed.getD e.on false = true) (hg : Xv T i w w') (hJ : J (upd (fun j => listed.getD j false) i) w') (hv : (Y6 L i).2 v ((Y6 L i).1.map (gv ops a)) w') (hnone : o.dst = none → v = undef) :
  Zsx L J ops a0 (listed.setIfInBounds i true) (a.put o.dst v) w' := by
 have hlt : i < ops.size := by
  rcases Nat.lt_or_ge i ops.size with h | h
  ·exact h
  ·simp [Array.getElem?_eq_none h] at hi
 have hll : i < listed.size := by rw [I.lsize]; exact hlt
 obtain ⟨hb1, hb2⟩ := Vi hB hi;have hsame : ∀ j, j ≠ i → gv ops (a.put o.dst v) j = gv ops a j := by
  intro j hji;by_cases hjlt : j < ops.size
  ·unfold gv;cases hd : (ops[j]?).bind (·.dst) with
   | none => rfl
   | some d =>
    refine Qr a o.dst d v fun e => ?_;exact (hb2 d e).2 j hjlt hji hd
  ·unfold gv; rw [Array.getElem?_eq_none (by omega)]; rfl
 have hown : gv ops (a.put o.dst v) i = v := by
  unfold gv;simp only [hi, Option.bind_some];cases hd : o.dst with
  | none => simp [hnone hd]
  | some d => exact Vq a d v (by rw [I.tsize]; exact (hb2 d hd).1)
 refine ⟨by simp [I.lsize], by rw [Zei hll]; exact hJ, by rw [Q4]; exact I.tsize, ?_, ?_, ?_, ?_⟩
 ·rw [← I.defers]; cases o.dst <;> rfl
 ·intro j p hj hl;rw [Xf _ _ _ hll] at hl;have hmap : ∀ k pk, ops[k]? = some pk → (k = i ∨ listed.getD k false = true) → (Y6 L k).1.map (gv ops (a.put o.dst v)) = (Y6 L k).1.map (gv ops a) := by
   intro k pk hk hor;refine List.map_congr_left (fun d hd => hsame d ?_);obtain ⟨e, he, hed, hbd⟩ := Zfy hD hk hd;intro hdi;rcases hor with rfl | hkl
   ·have h5 := hafter e (by rw [hi] at hk; cases hk; exact he) hbd;rw [hed, hdi, hun] at h5; cases h5
   ·have h5 := I.closed k pk hk hkl e he hbd;rw [hed, hdi, hun] at h5; cases h5
  by_cases hij : i = j
  ·subst hij;show (Y6 L i).2 _ _ w';rw [hown, hmap i p hj (.inl rfl)];exact hv
  ·rw [if_neg hij] at hl;show (Y6 L j).2 _ _ w';rw [hsame j (fun e => hij e.symm), hmap j p hj (.inr hl)];refine hst j i _ _ w w' (fun e => hij e.symm) ?_ hg (I.told j p hj hl);cases hw : Q0 ops j i with
   | false => rfl
   | true =>
    exfalso;simp only [Q0, hj, Option.map_some, Option.getD_some] at hw;rw [← Array.any_toList, List.any_eq_true] at hw;obtain ⟨e, he, h3⟩ := hw;simp only [Bool.and_eq_true, beq_iff_eq] at h3;have h5 := I.closed j p hj hl e he h3.2;rw [h3.1, hun] at h5; cases h5
 ·intro k hk;have h1 : o.dst ≠ some k := hk i o hi (by rw [Xf _ _ _ hll]; simp);rw [Qr a o.dst k v h1];refine I.kept k (fun j p hj hl => hk j p hj ?_);rw [Xf _ _ _ hll]; split
  ·rfl
  ·exact hl
 ·intro j p hj hl e he hb;rw [Xf _ _ _ hll];split
  ·rfl
  ·rw [Xf _ _ _ hll] at hl;by_cases hij : i = j
   ·subst hij;have : p = o := by rw [hi] at hj; exact (Option.some.inj hj).symm
    subst this;exact hafter e he hb
   ·rw [if_neg hij] at hl;exact I.closed j p hj hl e he hb
theorem Zr9 {L : List Pl} {J : (Nat → Bool) → World → Prop} {ops : Array Oper} {a0 : Act} {listed : Array Bool} {a : Act} {w : World}
  (hB : J4 ops a0.tmps.size = true) (I : Zsx L J ops a0 listed a w) :
  a = Z9 (gv ops a) ops.toList 0 a0 := by
 have hp := Kj (gv ops a) ops.toList 0 a0;refine Zec (I.tsize.trans hp.1.symm) (I.defers.trans hp.2.symm) fun k hk => ?_;by_cases hex : ∃ j : Nat, ∃ o : Oper, ops[j]? = some o ∧ o.dst = some k
 ·obtain ⟨j, o, hj, hd⟩ := hex;obtain ⟨_, hb2⟩ := Vi hB hj;rw [J6 (gv ops a) k ops.toList 0 a0 j o (by simpa using hj) hd (by rw [← I.tsize]; exact hk) ?_]
  ·simp only [Nat.zero_add, gv, hj, Option.bind_some, hd]
  ·intro j' o' hj' hne e;have hj'' : ops[j']? = some o' := by simpa using hj'
   have hlt : j' < ops.size := by
    rcases Nat.lt_or_ge j' ops.size with h | h
    ·exact h
    ·simp [Array.getElem?_eq_none h] at hj''
   exact (hb2 k hd).2 j' hlt hne (by simp [hj'', e])
 ·rw [Kx (gv ops a) k ops.toList 0 a0 (fun j o hj e => hex ⟨j, o, by simpa using hj, e⟩)];exact I.kept k (fun j o hj _ e => hex ⟨j, o, hj, e⟩)
theorem Zk4 {P : Program} {L : List Pl} {T : List (Option Qz)} {J : (Nat → Bool) → World → Prop} {ops : Array Oper} {a0 : Act} {Q : Exit → Act → World → Prop}
  (hB : J4 ops a0.tmps.size = true) (hD : Zfz L ops = true)
  (hst : ∀ i j v ds w w', i ≠ j → Q0 ops i j = false → Xv T j w w' → (Y6 L i).2 v ds w → (Y6 L i).2 v ds w') (hidle : ∀ j w, Xv T j w w)
  (hop : ∀ i o, ops[i]? = some o → Zkv P L T J ops a0 i o)
  (hnone : ∀ i o, ops[i]? = some o → o.dst = none → ∀ v ds w, (Y6 L i).2 v ds w → (Y6 L i).2 undef ds w)
  (hQ : ∀ vs w dn, (∀ i, i < ops.size → dn i = true) → J dn w → (∀ i, i < ops.size → Zjq L i vs w) → Q .normal (Z9 vs ops.toList 0 a0) w) :
  ∀ (fuel : Nat) (listed : Array Bool) (a : Act) (w : World), left listed.toList = fuel → Zsx L J ops a0 listed a w → wpAny P .any ops Q fuel listed a w := by
 have hend : ∀ (listed : Array Bool) (a : Act) (w : World), Zsx L J ops a0 listed a w → Region.ready .any ops listed = [] → Q .normal a w := by
  intro listed a w I hr;have hall := Zbs hB I.lsize hr;have he := Zr9 hB I;rw [he];refine hQ _ w _ hall I.keep fun i hi => ?_;exact I.told i ops[i] (by simp [hi]) (hall i hi)
 intro fuel
 induction fuel with
 | zero =>
  intro listed a w hl I;have hr : Region.ready .any ops listed = [] := by
   cases hrr : Region.ready .any ops listed with
   | nil => rfl
   | cons i l =>
    exfalso;obtain ⟨o, ho, h1, _⟩ := Vc (ops := ops) (listed := listed) (i := i) (by rw [hrr]; simp);have hlt : i < ops.size := by
     rcases Nat.lt_or_ge i ops.size with h | h
     ·exact h
     ·simp [Array.getElem?_eq_none h] at ho
    have := Zaa listed.toList hl i (by simpa [I.lsize] using hlt);simp at this;simp [this] at h1
  exact ⟨hr, hend listed a w I hr⟩
 | succ fuel ih =>
  intro listed a w hl I;refine ⟨hend listed a w I, fun i hi => ?_⟩;obtain ⟨o, ho, h1, h2⟩ := Vc hi;have hlt : i < ops.size := by
   rcases Nat.lt_or_ge i ops.size with h | h
   ·exact h
   ·simp [Array.getElem?_eq_none h] at ho
  have hli : listed[i]? = some false := by
   have h3 : i < listed.size := by rw [I.lsize]; exact hlt
   simp [h3] at h1 ⊢; exact h1
  have hun : listed.getD i false = false := by
   have h3 : i < listed.size := by rw [I.lsize]; exact hlt
   simp [h3] at hli ⊢; exact hli
  have hleft : left (listed.setIfInBounds i true).toList = fuel := by
   have := Zbb listed.toList i (by simpa using hli);simp only [Array.toList_setIfInBounds]; omega
  have hins : Zgd L ops a0 i o a w := by
   refine ⟨fun e he hb => ?_, fun k hk => ?_⟩
   ·have h3 := h2 e he hb;have h4 : e.on < ops.size := by
     rcases Nat.lt_or_ge e.on ops.size with h | h
     ·exact h
     ·have h5 : listed.size ≤ e.on := by rw [I.lsize]; exact h
      simp [Array.getD_eq_getD_getElem?, Array.getElem?_eq_none h5] at h3
    exact I.told e.on ops[e.on] (by simp [h4]) h3
   ·refine I.kept k fun j p hj hl2 hd => ?_;have hji : j ≠ i := fun e => by subst e; rw [hun] at hl2; cases hl2
    obtain ⟨e, he, he1, he2⟩ := Zcy hk hj hd hji;have h5 := I.closed j p hj hl2 e he he2;rw [he1, hun] at h5; cases h5
  have hrd : Zay ops i (fun j => listed.getD j false) := by
   refine ⟨hun, fun j hj => ?_, fun j k hjk hj => ?_⟩
   ·simp only [Q0, ho, Option.map_some, Option.getD_some] at hj;rw [← Array.any_toList, List.any_eq_true] at hj;obtain ⟨e, he, h3⟩ := hj;simp only [Bool.and_eq_true, beq_iff_eq] at h3;rw [← h3.1]; exact h2 e he h3.2
   ·cases hoj : ops[j]? with
    | none => simp [Q0, hoj] at hjk
    | some p =>
     simp only [Q0, hoj, Option.map_some, Option.getD_some] at hjk;rw [← Array.any_toList, List.any_eq_true] at hjk;obtain ⟨e, he, h3⟩ := hjk;simp only [Bool.and_eq_true, beq_iff_eq] at h3;rw [← h3.1]; exact I.closed j p hoj hj e he h3.2
  obtain ⟨n1, n2⟩ := hop i o ho a w _ hrd I.keep hins;unfold wpOp;simp only [ho];by_cases hw : Region.wanted o (yielded ops a.tmps) = true
  ·simp only [hw, if_true];refine .inl ?_;have hu := n1 (Va.1 hw);unfold Oper.wp;generalize (execOp a.eval o).run P w = r at *;have fin : ∀ v w', Xv T i w w' → J (upd (fun j => listed.getD j false) i) w' → (Y6 L i).2 v ((Y6 L i).1.map (gv ops a)) w' → wpAny P .any ops Q fuel (listed.setIfInBounds i true) (a.put o.dst v) w' := by
    intro v w' hg hJ hv;cases hd : o.dst with
    | none =>
     have hv' := hnone i o ho hd v _ w' hv;have := Zfn (v := undef) hst hD hB ho I hun h2 hg hJ hv' (fun _ => rfl);rw [hd] at this;exact ih _ _ _ hleft this
    | some d =>
     have := Zfn (v := v) hst hD hB ho I hun h2 hg hJ hv (fun e => by rw [hd] at e; cases e);rw [hd] at this;exact ih _ _ _ hleft this
   cases r with
   | ok n w' =>
    cases n <;> simp only [V2] at hu <;> simp only [Oper.upon]
    case value v => exact fin v w' hu.1 hu.2.1 hu.2.2
    case skip => exact fin undef w' hu.1 hu.2.1 hu.2.2
    case enter f args =>
     refine hu.mono fun e w'' he => ?_;obtain ⟨v, rfl, hg, hJ, hv⟩ := he;exact fin v w'' hg hJ hv
   | halt x w' => simp only [V2] at hu
  ·simp only [hw];have hu := n2 (fun h => hw (Va.2 h));have := Zfn (v := undef) hst hD hB ho I hun h2 (hidle i w) hu.1 hu.2 (fun _ => rfl);exact ih _ _ _ hleft this
theorem Y3 {P : Program} {id : Nat} {l : List Oper} {a0 : Act} {w0 : World} {Q : Exit → Act → World → Prop} (L : List Pl) (T : List (Option Qz)) (J : (Nat → Bool) → World → Prop)
  (hm : P.follows .mixedOrders = true) (hB : (J4 l.toArray a0.tmps.size && Zfz L l.toArray && (L.length == l.length)) = true) (hst : Zf7 L) (hsp : Zhs L l.toArray T 0) (hnn : Zc1 L l)
  (hJ : J (fun _ => false) w0.drew) (hop : Zgb P L T J l.toArray a0 l 0)
  (hQ : ∀ vs w dn, (∀ i, i < l.length → dn i = true) → J dn w → Zbj vs w L 0 → Q .normal (Z9 vs l 0 a0) w) : (Code.region id l.toArray true).wp P Q a0 w0 := by
 simp only [Bool.and_eq_true, beq_iff_eq] at hB;obtain ⟨⟨h1, h2⟩, h3⟩ := hB;refine wp_region_any hm (Zk4 (L := L) (T := T) (J := J) h1 h2 (fun i j v ds w w' hne hwt hs hp => ?_) (fun j w => ?_) (fun i o hi => ?_) (fun i o hi hd => Zal L l i o hnn (by simpa using hi) hd) (fun vs w dn hdn hj ht => ?_) _ _ _ _ ?_ ?_)
 ·unfold Xv at hs;cases ht : T.getD j none with
  | none => rw [ht] at hs; exact Zbo L i hst v ds w w' hs hp
  | some s =>
   rw [ht] at hs;have h4 := (Kh T 0 j s hsp ht).2;rw [Nat.zero_add] at h4;have h5 := Zd5 L 0 i h4 (by rw [Nat.zero_add]; exact hne) (by rw [Nat.zero_add]; exact hwt);exact h5 v ds w w' hs hp
 ·unfold Xv;cases ht : T.getD j none with
  | none => exact Zp.refl w
  | some s => exact (Kh T 0 j s hsp ht).1 w
 ·have := Zdu l 0 i o hop (by simpa using hi);simpa using this
 ·have h6 := hQ vs w dn (fun i hi => hdn i (by simpa using hi)) hj (Jj vs w L 0 (fun i hi => by
   rw [Nat.zero_add];exact ht i (by rw [h3] at hi; simpa using hi)))
  simpa using h6
 ·simp only [Array.toList_replicate];exact V7 _
 ·refine ⟨by simp, by rw [show (fun j => (Array.replicate l.toArray.size false).getD j false) = fun _ => false from funext fun j => by by_cases h : j < l.length <;> simp [h]]; exact hJ, rfl, rfl, fun i o hi hl => ?_, fun _ _ => rfl, fun i o hi hl => ?_⟩
  ·exfalso;by_cases h : i < l.length <;> simp [h] at hl
  ·exfalso;by_cases h : i < l.length <;> simp [h] at hl
theorem Zjz {P : Program} {L : List Pl} {T : List (Option Qz)} {J : (Nat → Bool) → World → Prop} {ops : Array Oper} {a0 : Act} {i : Nat} {o : Oper} (hg : o.guard = none)
  (h : ∀ a w dn, Zay ops i dn → J dn w → Zgd L ops a0 i o a w → V2 P (Xv T i) (J (upd dn i)) w (fun v w' => (Y6 L i).2 v ((Y6 L i).1.map (gv ops a)) w') ((execOp a.eval o).run P w)) : Zkv P L T J ops a0 i o :=
 fun a w dn hr hw hin => ⟨fun _ => h a w dn hr hw hin, fun hn => absurd (by unfold Kf; rw [hg]; trivial) hn⟩
end Go.Proofs.YtikhknkpndhakabGreat.Reg
namespace Go.Proofs.YtikhknkpndhakabGreat.Reg
set_option maxRecDepth 100000
open Go Go.RowKit
def dv (o : Oper) (v : Value) : Value := match o.dst with
 | none => undef
 | some _ => v
abbrev Zdm (P : Program) (s : Qz) (w : World) (J R : Value → World → Prop) : Result Next → Prop := V2 P s (fun _ => True) w (fun v w' => J v w' ∧ R v w')
def Zkt (P : Program) (L : List Pl) (T : List (Option Qz)) (J : (Nat → Bool) → (Nat → Value) → World → Prop) (ops : Array Oper) (a0 : Act) (i : Nat) (o : Oper) : Prop :=
 ∀ a w dn, Zay ops i dn → J dn (gv ops a) w → Zgd L ops a0 i o a w → (Kf ops a o → Zdm P (Xv T i) w (fun v w' => J (upd dn i) (Ki (gv ops a) i (dv o v)) w') (fun v w' => (Y6 L i).2 v ((Y6 L i).1.map (gv ops a)) w') ((execOp a.eval o).run P w)) ∧ (¬ Kf ops a o → J (upd dn i) (Ki (gv ops a) i undef) w ∧ (Y6 L i).2 undef ((Y6 L i).1.map (gv ops a)) w)
def Zf9 (P : Program) (L : List Pl) (T : List (Option Qz)) (J : (Nat → Bool) → (Nat → Value) → World → Prop) (ops : Array Oper) (a0 : Act) : List Oper → Nat → Prop
 | [], _ => True
 | o :: l, i => Zkt P L T J ops a0 i o ∧ Zf9 P L T J ops a0 l (i + 1)
theorem Zds {P : Program} {L : List Pl} {T : List (Option Qz)} {J : (Nat → Bool) → (Nat → Value) → World → Prop} {ops : Array Oper} {a0 : Act} :
  ∀ (l : List Oper) (i j : Nat) (o : Oper), Zf9 P L T J ops a0 l i → l[j]? = some o → Zkt P L T J ops a0 (i + j) o
 | [], _, _, _, _, h => by simp at h
 | o' :: l, i, 0, o, h, hj => by simp at hj; subst hj; exact h.1
 | o' :: l, i, j + 1, o, h, hj => by
  have := Zds l (i + 1) j o h.2 (by simpa using hj)
  rwa [show i + 1 + j = i + (j + 1) from by omega] at this
structure Zsv (L : List Pl) (J : (Nat → Bool) → (Nat → Value) → World → Prop) (ops : Array Oper) (a0 : Act) (listed : Array Bool) (a : Act) (w : World) : Prop where
 lsize : listed.size = ops.size
 keep : J (fun j => listed.getD j false) (gv ops a) w
 tsize : a.tmps.size = a0.tmps.size
 defers : a.defers = a0.defers
 told : ∀ i o, ops[i]? = some o → listed.getD i false = true → Zjq L i (gv ops a) w
 kept : ∀ k, (∀ i o, ops[i]? = some o → listed.getD i false = true → o.dst ≠ some k) → a.eval (.tmp k) = a0.eval (.tmp k)
 closed : ∀ i o, ops[i]? = some o → listed.getD i false = true → ∀ e ∈ o.after.toList, Region.binds .any e = true → listed.getD e.on false = true
theorem Zfl {L : List Pl} {T : List (Option Qz)} {J : (Nat → Bool) → (Nat → Value) → World → Prop} {ops : Array Oper} {a0 : Act} {listed : Array Bool} {a : Act} {w w' : World} {i : Nat} {o : Oper} {v : Value}
  (hst : ∀ i j v ds w w', i ≠ j → Q0 ops i j = false → Xv T j w w' → (Y6 L i).2 v ds w → (Y6 L i).2 v ds w') (hD : Zfz L ops = true) (hB : J4 ops a0.tmps.size = true) (hi : ops[i]? = some o) (I : Zsv L J ops a0 listed a w)
  (hun : listed.getD i false = false)
  (hafter : ∀ e ∈ o.after.toList, Region.binds .any e = true → listed.getD e.on false = true) (hg : Xv T i w w') (hJ : J (upd (fun j => listed.getD j false) i) (Ki (gv ops a) i v) w') (hv : (Y6 L i).2 v ((Y6 L i).1.map (gv ops a)) w') (hnone : o.dst = none → v = undef) :
  Zsv L J ops a0 (listed.setIfInBounds i true) (a.put o.dst v) w' := by
 have hlt : i < ops.size := by
  rcases Nat.lt_or_ge i ops.size with h | h
  ·exact h
  ·simp [Array.getElem?_eq_none h] at hi
 have hll : i < listed.size := by rw [I.lsize]; exact hlt
 obtain ⟨hb1, hb2⟩ := Vi hB hi;have hsame : ∀ j, j ≠ i → gv ops (a.put o.dst v) j = gv ops a j := by
  intro j hji;by_cases hjlt : j < ops.size
  ·unfold gv;cases hd : (ops[j]?).bind (·.dst) with
   | none => rfl
   | some d =>
    refine Qr a o.dst d v fun e => ?_;exact (hb2 d e).2 j hjlt hji hd
  ·unfold gv; rw [Array.getElem?_eq_none (by omega)]; rfl
 have hown : gv ops (a.put o.dst v) i = v := by
  unfold gv;simp only [hi, Option.bind_some];cases hd : o.dst with
  | none => simp [hnone hd]
  | some d => exact Vq a d v (by rw [I.tsize]; exact (hb2 d hd).1)
 have hset : gv ops (a.put o.dst v) = Ki (gv ops a) i v := by
  funext j
  unfold Ki;by_cases hji : j = i
  ·rw [if_pos hji, hji]; exact hown
  ·rw [if_neg hji]; exact hsame j hji
 refine ⟨by simp [I.lsize], by rw [Zei hll, hset]; exact hJ, by rw [Q4]; exact I.tsize, ?_, ?_, ?_, ?_⟩
 ·rw [← I.defers]; cases o.dst <;> rfl
 ·intro j p hj hl;rw [Xf _ _ _ hll] at hl;have hmap : ∀ k pk, ops[k]? = some pk → (k = i ∨ listed.getD k false = true) → (Y6 L k).1.map (gv ops (a.put o.dst v)) = (Y6 L k).1.map (gv ops a) := by
   intro k pk hk hor;refine List.map_congr_left (fun d hd => hsame d ?_);obtain ⟨e, he, hed, hbd⟩ := Zfy hD hk hd;intro hdi;rcases hor with rfl | hkl
   ·have h5 := hafter e (by rw [hi] at hk; cases hk; exact he) hbd;rw [hed, hdi, hun] at h5; cases h5
   ·have h5 := I.closed k pk hk hkl e he hbd;rw [hed, hdi, hun] at h5; cases h5
  by_cases hij : i = j
  ·subst hij;show (Y6 L i).2 _ _ w';rw [hown, hmap i p hj (.inl rfl)];exact hv
  ·rw [if_neg hij] at hl;show (Y6 L j).2 _ _ w';rw [hsame j (fun e => hij e.symm), hmap j p hj (.inr hl)];refine hst j i _ _ w w' (fun e => hij e.symm) ?_ hg (I.told j p hj hl);cases hw : Q0 ops j i with
   | false => rfl
   | true =>
    exfalso;simp only [Q0, hj, Option.map_some, Option.getD_some] at hw;rw [← Array.any_toList, List.any_eq_true] at hw;obtain ⟨e, he, h3⟩ := hw;simp only [Bool.and_eq_true, beq_iff_eq] at h3;have h5 := I.closed j p hj hl e he h3.2;rw [h3.1, hun] at h5; cases h5
 ·intro k hk;have h1 : o.dst ≠ some k := hk i o hi (by rw [Xf _ _ _ hll]; simp);rw [Qr a o.dst k v h1];refine I.kept k (fun j p hj hl => hk j p hj ?_);rw [Xf _ _ _ hll]; split
  ·rfl
  ·exact hl
 ·intro j p hj hl e he hb;rw [Xf _ _ _ hll];split
  ·rfl
  ·rw [Xf _ _ _ hll] at hl;by_cases hij : i = j
   ·subst hij;have : p = o := by rw [hi] at hj; exact (Option.some.inj hj).symm
    subst this;exact hafter e he hb
   ·rw [if_neg hij] at hl;exact I.closed j p hj hl e he hb
theorem Zr7 {L : List Pl} {J : (Nat → Bool) → (Nat → Value) → World → Prop} {ops : Array Oper} {a0 : Act} {listed : Array Bool} {a : Act} {w : World}
  (hB : J4 ops a0.tmps.size = true) (I : Zsv L J ops a0 listed a w) :
  a = Z9 (gv ops a) ops.toList 0 a0 := by
 have hp := Kj (gv ops a) ops.toList 0 a0;refine Zec (I.tsize.trans hp.1.symm) (I.defers.trans hp.2.symm) fun k hk => ?_;by_cases hex : ∃ j : Nat, ∃ o : Oper, ops[j]? = some o ∧ o.dst = some k
 ·obtain ⟨j, o, hj, hd⟩ := hex;obtain ⟨_, hb2⟩ := Vi hB hj;rw [J6 (gv ops a) k ops.toList 0 a0 j o (by simpa using hj) hd (by rw [← I.tsize]; exact hk) ?_]
  ·simp only [Nat.zero_add, gv, hj, Option.bind_some, hd]
  ·intro j' o' hj' hne e;have hj'' : ops[j']? = some o' := by simpa using hj'
   have hlt : j' < ops.size := by
    rcases Nat.lt_or_ge j' ops.size with h | h
    ·exact h
    ·simp [Array.getElem?_eq_none h] at hj''
   exact (hb2 k hd).2 j' hlt hne (by simp [hj'', e])
 ·rw [Kx (gv ops a) k ops.toList 0 a0 (fun j o hj e => hex ⟨j, o, by simpa using hj, e⟩)];exact I.kept k (fun j o hj _ e => hex ⟨j, o, hj, e⟩)
theorem Zk2 {P : Program} {L : List Pl} {T : List (Option Qz)} {J : (Nat → Bool) → (Nat → Value) → World → Prop} {ops : Array Oper} {a0 : Act} {Q : Exit → Act → World → Prop}
  (hB : J4 ops a0.tmps.size = true) (hD : Zfz L ops = true)
  (hst : ∀ i j v ds w w', i ≠ j → Q0 ops i j = false → Xv T j w w' → (Y6 L i).2 v ds w → (Y6 L i).2 v ds w') (hidle : ∀ j w, Xv T j w w)
  (hop : ∀ i o, ops[i]? = some o → Zkt P L T J ops a0 i o)
  (hnone : ∀ i o, ops[i]? = some o → o.dst = none → ∀ v ds w, (Y6 L i).2 v ds w → (Y6 L i).2 undef ds w)
  (hQ : ∀ vs w dn, (∀ i, i < ops.size → dn i = true) → J dn vs w → (∀ i, i < ops.size → Zjq L i vs w) → Q .normal (Z9 vs ops.toList 0 a0) w) :
  ∀ (fuel : Nat) (listed : Array Bool) (a : Act) (w : World), left listed.toList = fuel → Zsv L J ops a0 listed a w → wpAny P .any ops Q fuel listed a w := by
 have hend : ∀ (listed : Array Bool) (a : Act) (w : World), Zsv L J ops a0 listed a w → Region.ready .any ops listed = [] → Q .normal a w := by
  intro listed a w I hr;have hall := Zbs hB I.lsize hr;have he := Zr7 hB I;rw [he];refine hQ _ w _ hall I.keep fun i hi => ?_;exact I.told i ops[i] (by simp [hi]) (hall i hi)
 intro fuel
 induction fuel with
 | zero =>
  intro listed a w hl I;have hr : Region.ready .any ops listed = [] := by
   cases hrr : Region.ready .any ops listed with
   | nil => rfl
   | cons i l =>
    exfalso;obtain ⟨o, ho, h1, _⟩ := Vc (ops := ops) (listed := listed) (i := i) (by rw [hrr]; simp);have hlt : i < ops.size := by
     rcases Nat.lt_or_ge i ops.size with h | h
     ·exact h
     ·simp [Array.getElem?_eq_none h] at ho
    have := Zaa listed.toList hl i (by simpa [I.lsize] using hlt);simp at this;simp [this] at h1
  exact ⟨hr, hend listed a w I hr⟩
 | succ fuel ih =>
  intro listed a w hl I;refine ⟨hend listed a w I, fun i hi => ?_⟩;obtain ⟨o, ho, h1, h2⟩ := Vc hi;have hlt : i < ops.size := by
   rcases Nat.lt_or_ge i ops.size with h | h
   ·exact h
   ·simp [Array.getElem?_eq_none h] at ho
  have hli : listed[i]? = some false := by
   have h3 : i < listed.size := by rw [I.lsize]; exact hlt
   simp [h3] at h1 ⊢; exact h1
  have hun : listed.getD i false = false := by
   have h3 : i < listed.size := by rw [I.lsize]; exact hlt
   simp [h3] at hli ⊢; exact hli
  have hleft : left (listed.setIfInBounds i true).toList = fuel := by
   have := Zbb listed.toList i (by simpa using hli);simp only [Array.toList_setIfInBounds]; omega
  have hins : Zgd L ops a0 i o a w := by
   refine ⟨fun e he hb => ?_, fun k hk => ?_⟩
   ·have h3 := h2 e he hb;have h4 : e.on < ops.size := by
     rcases Nat.lt_or_ge e.on ops.size with h | h
     ·exact h
     ·have h5 : listed.size ≤ e.on := by rw [I.lsize]; exact h
      simp [Array.getD_eq_getD_getElem?, Array.getElem?_eq_none h5] at h3
    exact I.told e.on ops[e.on] (by simp [h4]) h3
   ·refine I.kept k fun j p hj hl2 hd => ?_;have hji : j ≠ i := fun e => by subst e; rw [hun] at hl2; cases hl2
    obtain ⟨e, he, he1, he2⟩ := Zcy hk hj hd hji;have h5 := I.closed j p hj hl2 e he he2;rw [he1, hun] at h5; cases h5
  have hrd : Zay ops i (fun j => listed.getD j false) := by
   refine ⟨hun, fun j hj => ?_, fun j k hjk hj => ?_⟩
   ·simp only [Q0, ho, Option.map_some, Option.getD_some] at hj;rw [← Array.any_toList, List.any_eq_true] at hj;obtain ⟨e, he, h3⟩ := hj;simp only [Bool.and_eq_true, beq_iff_eq] at h3;rw [← h3.1]; exact h2 e he h3.2
   ·cases hoj : ops[j]? with
    | none => simp [Q0, hoj] at hjk
    | some p =>
     simp only [Q0, hoj, Option.map_some, Option.getD_some] at hjk;rw [← Array.any_toList, List.any_eq_true] at hjk;obtain ⟨e, he, h3⟩ := hjk;simp only [Bool.and_eq_true, beq_iff_eq] at h3;rw [← h3.1]; exact I.closed j p hoj hj e he h3.2
  obtain ⟨n1, n2⟩ := hop i o ho a w _ hrd I.keep hins;unfold wpOp;simp only [ho];by_cases hw : Region.wanted o (yielded ops a.tmps) = true
  ·simp only [hw, if_true];refine .inl ?_;have hu := n1 (Va.1 hw);unfold Oper.wp;generalize (execOp a.eval o).run P w = r at *;have fin : ∀ v w', Xv T i w w' → J (upd (fun j => listed.getD j false) i) (Ki (gv ops a) i (dv o v)) w' → (Y6 L i).2 v ((Y6 L i).1.map (gv ops a)) w' → wpAny P .any ops Q fuel (listed.setIfInBounds i true) (a.put o.dst v) w' := by
    intro v w' hg hJ hv;cases hd : o.dst with
    | none =>
     have hv' := hnone i o ho hd v _ w' hv;rw [show dv o v = undef from by simp [dv, hd]] at hJ;have := Zfl (v := undef) hst hD hB ho I hun h2 hg hJ hv' (fun _ => rfl);rw [hd] at this;exact ih _ _ _ hleft this
    | some d =>
     rw [show dv o v = v from by simp [dv, hd]] at hJ;have := Zfl (v := v) hst hD hB ho I hun h2 hg hJ hv (fun e => by rw [hd] at e; cases e);rw [hd] at this;exact ih _ _ _ hleft this
   cases r with
   | ok n w' =>
    cases n <;> simp only [V2] at hu <;> simp only [Oper.upon]
    case value v => exact fin v w' hu.1 hu.2.2.1 hu.2.2.2
    case skip => exact fin undef w' hu.1 hu.2.2.1 hu.2.2.2
    case enter f args =>
     refine hu.mono fun e w'' he => ?_;obtain ⟨v, rfl, hg, -, hJ, hv⟩ := he;exact fin v w'' hg hJ hv
   | halt x w' => simp only [V2] at hu
  ·simp only [hw];have hu := n2 (fun h => hw (Va.2 h));have := Zfl (v := undef) hst hD hB ho I hun h2 (hidle i w) hu.1 hu.2 (fun _ => rfl);exact ih _ _ _ hleft this
theorem Vw {P : Program} {id : Nat} {l : List Oper} {a0 : Act} {w0 : World} {Q : Exit → Act → World → Prop} (L : List Pl) (T : List (Option Qz)) (J : (Nat → Bool) → (Nat → Value) → World → Prop)
  (hm : P.follows .mixedOrders = true) (hB : (J4 l.toArray a0.tmps.size && Zfz L l.toArray && (L.length == l.length)) = true) (hst : Zf7 L) (hsp : Zhs L l.toArray T 0) (hnn : Zc1 L l)
  (hJ : ∀ f, J (fun _ => false) f w0.drew) (hop : Zf9 P L T J l.toArray a0 l 0)
  (hQ : ∀ vs w dn, (∀ i, i < l.length → dn i = true) → J dn vs w → Zbj vs w L 0 → Q .normal (Z9 vs l 0 a0) w) : (Code.region id l.toArray true).wp P Q a0 w0 := by
 simp only [Bool.and_eq_true, beq_iff_eq] at hB;obtain ⟨⟨h1, h2⟩, h3⟩ := hB;refine wp_region_any hm (Zk2 (L := L) (T := T) (J := J) h1 h2 (fun i j v ds w w' hne hwt hs hp => ?_) (fun j w => ?_) (fun i o hi => ?_) (fun i o hi hd => Zal L l i o hnn (by simpa using hi) hd) (fun vs w dn hdn hj ht => ?_) _ _ _ _ ?_ ?_)
 ·unfold Xv at hs;cases ht : T.getD j none with
  | none => rw [ht] at hs; exact Zbo L i hst v ds w w' hs hp
  | some s =>
   rw [ht] at hs;have h4 := (Kh T 0 j s hsp ht).2;rw [Nat.zero_add] at h4;have h5 := Zd5 L 0 i h4 (by rw [Nat.zero_add]; exact hne) (by rw [Nat.zero_add]; exact hwt);exact h5 v ds w w' hs hp
 ·unfold Xv;cases ht : T.getD j none with
  | none => exact Zp.refl w
  | some s => exact (Kh T 0 j s hsp ht).1 w
 ·have := Zds l 0 i o hop (by simpa using hi);simpa using this
 ·have h6 := hQ vs w dn (fun i hi => hdn i (by simpa using hi)) hj (Jj vs w L 0 (fun i hi => by
   rw [Nat.zero_add];exact ht i (by rw [h3] at hi; simpa using hi)))
  simpa using h6
 ·simp only [Array.toList_replicate];exact V7 _
 ·refine ⟨by simp, by rw [show (fun j => (Array.replicate l.toArray.size false).getD j false) = fun _ => false from funext fun j => by by_cases h : j < l.length <;> simp [h]]; exact hJ _, rfl, rfl, fun i o hi hl => ?_, fun _ _ => rfl, fun i o hi hl => ?_⟩
  ·exfalso;by_cases h : i < l.length <;> simp [h] at hl
  ·exfalso;by_cases h : i < l.length <;> simp [h] at hl
theorem Zjx {P : Program} {L : List Pl} {T : List (Option Qz)} {J : (Nat → Bool) → (Nat → Value) → World → Prop} {ops : Array Oper} {a0 : Act} {i : Nat} {o : Oper} (hg : o.guard = none)
  (h : ∀ a w dn, Zay ops i dn → J dn (gv ops a) w → Zgd L ops a0 i o a w → Zdm P (Xv T i) w (fun v w' => J (upd dn i) (Ki (gv ops a) i (dv o v)) w') (fun v w' => (Y6 L i).2 v ((Y6 L i).1.map (gv ops a)) w') ((execOp a.eval o).run P w)) : Zkt P L T J ops a0 i o :=
 fun a w dn hr hw hin => ⟨fun _ => h a w dn hr hw hin, fun hn => absurd (by unfold Kf; rw [hg]; trivial) hn⟩
theorem Xj {P : Program} {w : World} {J R : Value → World → Prop} {o : Oper} {ev : Operand → Value} {x : Operand} (ho : o.op = .move x) (hJ : J (ev x) w) (h : R (ev x) w) : Zdm P Zp w J R ((execOp ev o).run P w) := Z6 ho trivial ⟨hJ, h⟩
theorem Xd {P : Program} {w : World} {J R : Value → World → Prop} {o : Oper} {ev : Operand → Value} {x : Operand} (ho : o.op = .assign x) (hJ : J (ev x) w) (h : R (ev x) w) : Zdm P Zp w J R ((execOp ev o).run P w) := Y8 ho trivial ⟨hJ, h⟩
theorem Qh {P : Program} {w : World} {J R : Value → World → Prop} {o : Oper} {ev : Operand → Value} {v : Value} (h : (execOp ev o).run P w = .ok (.value v) w) (hJ : J v w) (hv : R v w) : Zdm P Zp w J R ((execOp ev o).run P w) := Zk h trivial ⟨hJ, hv⟩
theorem Qi {P : Program} {s : Qz} {w w' : World} {J R : Value → World → Prop} {o : Oper} {ev : Operand → Value} {v : Value} (h : (execOp ev o).run P w = .ok (.value v) w') (hs : s w w') (hJ : J v w') (hv : R v w') : Zdm P s w J R ((execOp ev o).run P w) := Xw h hs trivial ⟨hJ, hv⟩
theorem Zk5 {P : Program} {s : Qz} {w w' : World} {J R : Value → World → Prop} {o : Oper} {ev : Operand → Value} (h : (execOp ev o).run P w = .ok .skip w') (hs : s w w') (hJ : J undef w') (hv : R undef w') : Zdm P s w J R ((execOp ev o).run P w) := Yj h hs trivial ⟨hJ, hv⟩
end Go.Proofs.YtikhknkpndhakabGreat.Reg
namespace Go.Proofs.YtikhknkpndhakabGreat.Plain
set_option maxRecDepth 100000
structure Rec where
 kind : Int
 key : Int
 ver : Int
 data : List UInt8
def Rec.none : Rec := ⟨0, 0, 0, []⟩
def Qw (a b : Rec) : Bool := a.kind == b.kind && a.key == b.key && a.ver == b.ver && a.data == b.data
theorem Zbq (a b : Rec) : Qw a b = true ↔ a = b := by
 obtain ⟨a1, a2, a3, a4⟩ := a;obtain ⟨b1, b2, b3, b4⟩ := b;simp [Qw, and_assoc]
theorem Zlj (a : Rec) : Qw a a = true := (Zbq a a).2 rfl
def Xe (r : Rec) : Bool := if r.kind = 1 then decide (r.key = 0 ∧ r.ver = 0) else decide (1 ≤ r.key ∧ r.key ≤ 255 ∧ 1 ≤ r.ver ∧ r.ver ≤ 60000)
def Yx (k : Int) : Int := if k = 2 then 8 else 0
def Yh (r : Rec) : Int :=
 if r.kind < 1 ∨ 3 < r.kind then 1 else if Xe r = false then 3 else if Yx r.kind < (r.data.length : Int) then 4 else 0
theorem Zef (r : Rec) : Yh r = 0 ↔ (1 ≤ r.kind ∧ r.kind ≤ 3 ∧ Xe r = true ∧ (r.data.length : Int) ≤ Yx r.kind) := by
 unfold Yh;by_cases h1 : r.kind < 1 ∨ 3 < r.kind
 ·rw [if_pos h1]; constructor
  ·intro h; omega
  ·rintro ⟨h2, h3, _⟩; omega
 ·rw [if_neg h1];by_cases h2 : Xe r = false
  ·rw [if_pos h2]; constructor
   ·intro h; omega
   ·rintro ⟨_, _, h3, _⟩; rw [h2] at h3; cases h3
  ·rw [if_neg h2];have h2' : Xe r = true := by simpa using h2
   by_cases h3 : Yx r.kind < (r.data.length : Int)
   ·rw [if_pos h3]; constructor
    ·intro h; omega
    ·rintro ⟨_, _, _, h4⟩; omega
   ·rw [if_neg h3]; constructor
    ·intro _; exact ⟨by omega, by omega, h2', by omega⟩
    ·intro _; rfl
theorem K4 {r : Rec} (h : Yh r = 0) : 1 ≤ r.kind ∧ r.kind ≤ 3 ∧ 0 ≤ r.key ∧ r.key ≤ 255 ∧ 0 ≤ r.ver ∧ r.ver ≤ 60000 ∧ r.data.length ≤ 8 := by
 obtain ⟨h1, h2, h3, h4⟩ := (Zef r).1 h;unfold Xe at h3;unfold Yx at h4;by_cases hk : r.kind = 1
 ·rw [if_pos hk] at h3; simp at h3;split at h4 <;> omega
 ·rw [if_neg hk] at h3; simp at h3;split at h4 <;> omega
def Zbh (r : Rec) (at_ : Int) : List UInt8 := [lo r.kind, lo at_, lo r.key, hi r.ver, lo r.ver, lo (r.data.length : Int)] ++ (r.data ++ List.replicate (8 - r.data.length) 0)
def blk (r : Rec) (at_ : Int) : List UInt8 := Qk (Zbh r at_)
theorem Qg (r : Rec) (at_ : Int) (h : r.data.length ≤ 8) : (Zbh r at_).length = 14 := by simp [Zbh]; omega
theorem Qs (r : Rec) (at_ : Int) (h : r.data.length ≤ 8) : (blk r at_).length = 16 := by unfold blk; rw [Zgj, Qg r at_ h]
def at' (b : List UInt8) (i : Nat) : UInt8 := b.getD i 0
def Yt (b : List UInt8) : Rec := ⟨((at' b 0).toNat : Int), ((at' b 2).toNat : Int), ((at' b 3).toNat : Int) * 256 + ((at' b 4).toNat : Int), (b.drop 6).take (at' b 5).toNat⟩
def Vb (b : List UInt8) : List UInt8 := (b.drop (6 + (at' b 5).toNat)).take (8 - (at' b 5).toNat)
def Y7 (l : List UInt8) : Bool := l.all (· == 0)
def Y2 (b : List UInt8) (at_ : Int) : Int :=
 if b.length ≠ 16 then 2 else if Xp b = false then 7 else if ((at' b 1).toNat : Int) ≠ at_ then 8 else if 8 < (at' b 5).toNat then 4 else if Y7 (Vb b) = false then 2 else 0
def X4 (b : List UInt8) (at_ : Int) : Int := if Y2 b at_ = 0 then Yh (Yt b) else Y2 b at_
def Y4 (b : List UInt8) (at_ : Int) : Rec := if X4 b at_ = 0 then Yt b else Rec.none
end Go.Proofs.YtikhknkpndhakabGreat.Plain
namespace Go.Proofs.YtikhknkpndhakabGreat.Reg
open Go Go.RowKit
def gvE (ops : Array Oper) (a : Operand → Value) (j : Nat) : Value :=
  match (ops[j]?).bind (·.dst) with
  | some d => a (.tmp d)
  | none => undef
def Zue (ops : Array Oper) (i k : Nat) : Bool :=
  (List.range ops.size).all fun j => j == i || ((ops[j]?).bind (·.dst)) != some k || (((ops[j]?).map fun o => o.after.toList.any fun e => e.on == i && Region.binds .any e).getD false)
theorem Znv (ops : Array Oper) (i k : Nat) : Zue ops i k = ext ops i k := by
  unfold Zue ext;simp only [Array.any_toList]
variable {P : Program} {phi : Nat → Value → World → Prop} {L : List Pl} {T : List (Option Qz)} {ops : Array Oper} {a0 : Act} {w0 w : World} {i : Nat} {o : Oper} {a : Operand → Value}
def Zuk (phi : Nat → Value → World → Prop) (ops : Array Oper) (a0 : Act) (i : Nat) (o : Oper) (a : Operand → Value) (w : World) : Prop := (∀ e ∈ o.after.toList, Region.binds .any e = true → phi e.on (gvE ops a e.on) w) ∧ (∀ k, ext ops i k = true → a (.tmp k) = a0.eval (.tmp k))
def Zsy (L : List Pl) (ops : Array Oper) (a0 : Act) (i : Nat) (o : Oper) (a : Operand → Value) (w : World) : Prop := (∀ e ∈ o.after.toList, Region.binds .any e = true → Zjq L e.on (gvE ops a) w) ∧ (∀ k, ext ops i k = true → a (.tmp k) = a0.eval (.tmp k))
theorem Za (hg : o.guard = none) (h : ∀ a w, (∀ x, a (.const x) = x) → (∀ f, a (.func f) = .func (.func f) #[] #[]) → Zp w0 w → Zuk phi ops a0 i o a w → upon P w (phi i) ((execOp a o).run P w)) : Ziu P phi ops a0 w0 i o :=
  Zma hg fun a w hw hin => h a.eval w (fun _ => rfl) (fun _ => rfl) hw hin
theorem Zl (j : Nat) (b : Bool) (hg : o.guard = some (j, b)) (hy : ∀ a w, Ins phi ops a0 i o a w → gv ops a j = .bool b) (h : ∀ a w, (∀ x, a (.const x) = x) → (∀ f, a (.func f) = .func (.func f) #[] #[]) → Zp w0 w → Zuk phi ops a0 i o a w → upon P w (phi i) ((execOp a o).run P w)) : Ziu P phi ops a0 w0 i o :=
  Zrv j b hg hy fun a w hw hin => h a.eval w (fun _ => rfl) (fun _ => rfl) hw hin
theorem Zj {J : World → Prop} (hg : o.guard = none) (h : ∀ a w, (∀ x, a (.const x) = x) → (∀ f, a (.func f) = .func (.func f) #[] #[]) → J w → Zsy L ops a0 i o a w → V2 P (Xv T i) J w (fun v w' => (Y6 L i).2 v ((Y6 L i).1.map (gvE ops a)) w') ((execOp a o).run P w)) : Zku P L T J ops a0 i o :=
  Zjy hg fun a w hw hin => h a.eval w (fun _ => rfl) (fun _ => rfl) hw hin
theorem Zg {J : (Nat → Bool) → World → Prop} (hg : o.guard = none) (h : ∀ a w, (∀ x, a (.const x) = x) → (∀ f, a (.func f) = .func (.func f) #[] #[]) → ∀ dn, Zay ops i dn → J dn w → Zsy L ops a0 i o a w → V2 P (Xv T i) (J (upd dn i)) w (fun v w' => (Y6 L i).2 v ((Y6 L i).1.map (gvE ops a)) w') ((execOp a o).run P w)) : Zkv P L T J ops a0 i o :=
  Zjz hg fun a w dn hr hw hin => h a.eval w (fun _ => rfl) (fun _ => rfl) dn hr hw hin
theorem Zw {J : (Nat → Bool) → (Nat → Value) → World → Prop} (hg : o.guard = none) (h : ∀ a w, (∀ x, a (.const x) = x) → (∀ f, a (.func f) = .func (.func f) #[] #[]) → ∀ dn, Zay ops i dn → J dn (gvE ops a) w → Zsy L ops a0 i o a w → Zdm P (Xv T i) w (fun v w' => J (upd dn i) (Ki (gvE ops a) i (dv o v)) w') (fun v w' => (Y6 L i).2 v ((Y6 L i).1.map (gvE ops a)) w') ((execOp a o).run P w)) : Zkt P L T J ops a0 i o :=
  Zjx hg fun a w dn hr hw hin => h a.eval w (fun _ => rfl) (fun _ => rfl) dn hr hw hin
theorem Zsk {j : Nat} (hj : (o.after.toList.any fun e => e.on == j && Region.binds .any e) = true) : ∃ e ∈ o.after.toList, e.on = j ∧ Region.binds .any e = true := by
  rw [List.any_eq_true] at hj;obtain ⟨e, he, h2⟩ := hj;simp only [Bool.and_eq_true, beq_iff_eq] at h2;exact ⟨e, he, h2⟩
theorem Zc (h : Zuk phi ops a0 i o a w) (j : Nat) (hj : (o.after.toList.any fun e => e.on == j && Region.binds .any e) = true) : phi j (gvE ops a j) w := by
  obtain ⟨e, he, rfl, h3⟩ := Zsk hj;exact h.1 e he h3
theorem Zs (h : Zuk phi ops a0 i o a w) (k : Nat) (hk : Zue ops i k = true) : a (.tmp k) = a0.eval (.tmp k) := h.2 k (by rw [← Znv]; exact hk)
theorem Zf (h : Zsy L ops a0 i o a w) (j : Nat) (hj : (o.after.toList.any fun e => e.on == j && Region.binds .any e) = true) : (Y6 L j).2 (gvE ops a j) ((Y6 L j).1.map (gvE ops a)) w := by
  obtain ⟨e, he, rfl, h3⟩ := Zsk hj;exact h.1 e he h3
theorem Zq (h : Zsy L ops a0 i o a w) (k : Nat) (hk : Zue ops i k = true) : a (.tmp k) = a0.eval (.tmp k) := h.2 k (by rw [← Znv]; exact hk)
abbrev px (x : Value) : Pl := pl (ex x)
theorem se {x : Value} : Vu (px x) := Yk (Zh x)
theorem x5 {c : Prop} {x : Value} {s : Qz} : c ∨ ∀ v ds w w', s w w' → (px x).2 v ds w → (px x).2 v ds w' := .inr fun _ _ _ _ _ h => h
theorem n5 {d : Nat} {q : Prop} (h : some d = none) : q := by cases h
end Go.Proofs.YtikhknkpndhakabGreat.Reg
