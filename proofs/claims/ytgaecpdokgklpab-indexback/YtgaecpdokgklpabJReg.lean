/-
  Reg, Plain, Regw, Regv, Regx, Rec: several texts in one.
-/
import Derived.Orders
import Derived.Below
/-
  A drawn region, by one predicate a place: if each operation, in any world grown from the start and with what it waits for as told, yields a value as told for it, then in whatever order they come the frame is as told at the end.
  No condition beyond the premises that each theorem writes out.
-/
namespace Go.Proofs.Ytgaecpdokgklpab.Reg
set_option maxRecDepth 100000
open Go Go.RowKit

/-- What was there is as it was; more may be there. -/
def Grow (w w' : World) : Prop := Below w.heap.size w w'

theorem Grow.refl (w : World) : Grow w w := Below.refl _ _
theorem Grow.trans {a b c : World} (h : Grow a b) (k : Grow b c) : Grow a c := Below.trans h (Below.mono k h.size)
theorem Grow.drew {a w : World} (h : Grow a w) : Grow a w.drew := Below.drew h

/-- The value in the place that operation j writes. -/
def gv (ops : Array Oper) (a : Act) (j : Nat) : Value :=
 match (ops[j]?).bind (·.dst) with
 | some d => a.eval (.tmp d)
 | none => undef

/-- Nothing ahead of operation i has written place k. -/
def ext (ops : Array Oper) (i k : Nat) : Bool :=
 (List.range ops.size).all fun j => j == i || ((ops[j]?).bind (·.dst)) != some k || (((ops[j]?).map fun o => o.after.any fun e => e.on == i && Region.binds .any e).getD false)

def wants (ops : Array Oper) (a : Act) (o : Oper) : Prop :=
 match o.guard with
 | none => True
 | some (j, b) => gv ops a j = .bool b

/-- What is asked once an operation has yielded this. -/
def upon (P : Program) (w : World) (R : Value → World → Prop) : Result Next → Prop
 | .ok (.value v) w' => Grow w w' ∧ R v w'
 | .ok .skip w' => Grow w w' ∧ R undef w'
 | .ok (.enter f args) w' => Grow w w' ∧ Calls P f args w' (fun e w'' => ∃ v, e = .returned v ∧ Grow w' w'' ∧ R v w'')
 | _ => False

/-- What operation i may lean on. -/
def Ins (phi : Nat → Value → World → Prop) (ops : Array Oper) (a0 : Act) (i : Nat) (o : Oper) (a : Act) (w : World) : Prop :=
 (∀ e ∈ o.after.toList, Region.binds .any e = true → phi e.on (gv ops a e.on) w) ∧ (∀ k, ext ops i k = true → a.eval (.tmp k) = a0.eval (.tmp k))

/-- What is asked of operation i. -/
def Need (P : Program) (phi : Nat → Value → World → Prop) (ops : Array Oper) (a0 : Act) (w0 : World) (i : Nat) (o : Oper) : Prop :=
 ∀ a w, Grow w0 w → Ins phi ops a0 i o a w → (wants ops a o → upon P w (phi i) ((execOp a.eval o).run P w)) ∧ (¬ wants ops a o → phi i undef w)

def NeedAll (P : Program) (phi : Nat → Value → World → Prop) (ops : Array Oper) (a0 : Act) (w0 : World) : List Oper → Nat → Prop
 | [], _ => True
 | o :: l, i => Need P phi ops a0 w0 i o ∧ NeedAll P phi ops a0 w0 l (i + 1)

def putAll (vs : Nat → Value) : List Oper → Nat → Act → Act
 | [], _, a => a
 | o :: l, i, a => putAll vs l (i + 1) (a.put o.dst (vs i))

/-- The look over a region: each waits for earlier ones alone; each writes a place of its own, and one that is there. -/
def relB (ops : Array Oper) (n : Nat) : Bool :=
 (List.range ops.size).all fun i =>
  ((ops[i]?).map fun o => o.after.all (fun e => decide (e.on < i) || !Region.binds .any e) && (match o.dst with
   | some d => decide (d < n) && (List.range ops.size).all fun j => j == i || ((ops[j]?).bind (·.dst)) != some d
   | none => true)).getD false

theorem undef_ne_bool (b : Bool) : undef ≠ .bool b := by unfold undef; simp

theorem wanted_iff {ops : Array Oper} {a : Act} {o : Oper} : Region.wanted o (yielded ops a.tmps) = true ↔ wants ops a o := by
 unfold Region.wanted wants
 cases hg : o.guard with
 | none => simp
 | some p =>
  obtain ⟨j, b⟩ := p
  simp only [gv, yielded]
  cases hd : (ops[j]?).bind (·.dst) with
  | none => simp only [Option.bind_none]; have := undef_ne_bool b; simp [this]
  | some d =>
   simp only [Option.bind_some, Act.eval]
   cases ht : a.tmps[d]? with
   | none => have := undef_ne_bool b; simp [ht, this]
   | some v => simp [ht]; cases v <;> simp

theorem tmps_put_size (a : Act) (x : Option Tmp) (v : Value) : (a.put x v).tmps.size = a.tmps.size := by cases x <;> simp [Act.put]
theorem evs (a : Act) : (∀ x, a.eval (.const x) = x) ∧ ∀ f, a.eval (.func f) = .func (.func f) #[] #[] := ⟨fun _ => rfl, fun _ => rfl⟩
theorem eval_put_same (a : Act) (d : Nat) (v : Value) (h : d < a.tmps.size) : (a.put (some d) v).eval (.tmp d) = v := by simp [Act.put, Act.eval, h]
theorem eval_put_ne (a : Act) (x : Option Tmp) (k : Nat) (v : Value) (h : x ≠ some k) : (a.put x v).eval (.tmp k) = a.eval (.tmp k) :=
 Act.eval_put (fun d hd e => by cases e; exact h hd)

theorem relB_spec {ops : Array Oper} {n : Nat} (h : relB ops n = true) {i : Nat} {o : Oper} (hi : ops[i]? = some o) :
  (∀ e ∈ o.after.toList, Region.binds .any e = true → e.on < i) ∧ (∀ d, o.dst = some d → d < n ∧ ∀ j, j < ops.size → j ≠ i → (ops[j]?).bind (·.dst) ≠ some d) := by
 have hlt : i < ops.size := by
  rcases Nat.lt_or_ge i ops.size with h | h
  ·exact h
  ·simp [Array.getElem?_eq_none h] at hi
 unfold relB at h
 rw [List.all_eq_true] at h
 have h1 := h i (by simpa using hlt)
 simp only [hi, Option.map_some, Option.getD_some, Bool.and_eq_true] at h1
 obtain ⟨h2, h3⟩ := h1
 refine ⟨fun e he hbd => ?_, fun d hd => ?_⟩
 ·have := (Array.all_eq_true_iff_forall_mem.1 h2) e (by simpa using he)
  simpa [hbd] using this
 ·simp only [hd, Bool.and_eq_true, decide_eq_true_eq, List.all_eq_true] at h3
  refine ⟨h3.1, fun j hj hji => ?_⟩
  have := h3.2 j (by simpa using hj)
  simpa [hji] using this

theorem getD_set (l : Array Bool) (i j : Nat) (h : i < l.size) : (l.setIfInBounds i true).getD j false = if i = j then true else l.getD j false := by
 by_cases hij : i = j
 ·subst hij; simp [h]
 ·simp [hij, Array.getElem?_setIfInBounds_ne hij]

theorem ready_spec {ops : Array Oper} {listed : Array Bool} {i : Nat} (h : i ∈ Region.ready .any ops listed) :
  ∃ o, ops[i]? = some o ∧ listed.getD i true = false ∧ ∀ e ∈ o.after.toList, Region.binds .any e = true → listed.getD e.on false = true := by
 unfold Region.ready at h
 rw [List.mem_filter] at h
 obtain ⟨h1, h2⟩ := h
 simp only [Bool.and_eq_true, Bool.not_eq_true'] at h2
 obtain ⟨h2, h3⟩ := h2
 cases ho : ops[i]? with
 | none => simp [ho] at h3
 | some o =>
  refine ⟨o, rfl, h2, fun e he hb => ?_⟩
  simp only [ho, Option.map_some, Option.getD_some] at h3
  have := (Array.all_eq_true_iff_forall_mem.1 h3) e (by simpa using he)
  simpa [hb] using this

theorem ready_nil {ops : Array Oper} {n : Nat} {listed : Array Bool} (hB : relB ops n = true) (hs : listed.size = ops.size) (h : Region.ready .any ops listed = []) :
  ∀ i, i < ops.size → listed.getD i false = true := by
 intro i
 induction i using Nat.strongRecOn with
 | ind i ih =>
  intro hi
  have ho : ops[i]? = some ops[i] := by simp [hi]
  obtain ⟨hb1, _⟩ := relB_spec hB ho
  rcases hl : listed.getD i false with _ | _
  ·exfalso
   have : i ∈ Region.ready .any ops listed := by
    unfold Region.ready
    rw [List.mem_filter]
    refine ⟨by simpa using hi, ?_⟩
    simp only [ho, Option.map_some, Option.getD_some, Bool.and_eq_true]
    refine ⟨?_, ?_⟩
    ·have : i < listed.size := by omega
     simp [this] at hl ⊢; exact hl
    ·rw [Array.all_eq_true_iff_forall_mem]
     intro e he
     cases hbd : Region.binds .any e with
     | false => simp
     | true =>
      have h1 := hb1 e (by simpa using he) hbd
      simp [ih e.on h1 (by omega)]
   rw [h] at this; simp at this
  ·rfl

/-- How many are not yet done. -/
def left (l : List Bool) : Nat := (l.filter (fun b => !b)).length

theorem left_set : ∀ (l : List Bool) (i : Nat), l[i]? = some false → left (l.set i true) + 1 = left l
 | [], _, h => by simp at h
 | b :: l, 0, h => by simp at h; subst h; simp [left]
 | b :: l, i + 1, h => by
  have := left_set l i (by simpa using h)
  simp only [List.set_cons_succ, left] at *
  cases b <;> simp <;> omega

theorem left_zero : ∀ (l : List Bool), left l = 0 → ∀ i, i < l.length → l[i]? = some true
 | [], _, i, h => by simp at h
 | b :: l, h, 0, _ => by cases b <;> simp [left] at h ⊢
 | b :: l, h, i + 1, hi => by
  have h' : left l = 0 := by cases b <;> simp_all [left]
  simpa using left_zero l h' i (by simpa using hi)

theorem putAll_tmps (vs : Nat → Value) : ∀ (l : List Oper) (i : Nat) (a : Act), (putAll vs l i a).tmps.size = a.tmps.size ∧ (putAll vs l i a).defers = a.defers
 | [], _, _ => ⟨rfl, rfl⟩
 | o :: l, i, a => by
  have := putAll_tmps vs l (i + 1) (a.put o.dst (vs i))
  refine ⟨this.1.trans (tmps_put_size _ _ _), this.2.trans ?_⟩
  cases o.dst <;> rfl

theorem putAll_ne (vs : Nat → Value) (k : Nat) : ∀ (l : List Oper) (i : Nat) (a : Act), (∀ (j : Nat) (o : Oper), l[j]? = some o → o.dst ≠ some k) → (putAll vs l i a).eval (.tmp k) = a.eval (.tmp k)
 | [], _, _, _ => rfl
 | o :: l, i, a, h => by
  show (putAll vs l (i + 1) (a.put o.dst (vs i))).eval (.tmp k) = _
  rw [putAll_ne vs k l (i + 1) _ (fun j p hj => h (j + 1) p (by simpa using hj)), eval_put_ne _ _ _ _ (h 0 o (by simp))]

theorem putAll_at (vs : Nat → Value) (k : Nat) : ∀ (l : List Oper) (i : Nat) (a : Act) (j : Nat) (o : Oper), l[j]? = some o → o.dst = some k → k < a.tmps.size →
  (∀ j' o', l[j']? = some o' → j' ≠ j → o'.dst ≠ some k) → (putAll vs l i a).eval (.tmp k) = vs (i + j)
 | [], _, _, _, _, h, _, _, _ => by simp at h
 | o' :: l, i, a, 0, o, h, hd, hk, hu => by
  simp at h; subst h
  show (putAll vs l (i + 1) (a.put o'.dst (vs i))).eval (.tmp k) = _
  rw [putAll_ne vs k l (i + 1) _ (fun j p hj => hu (j + 1) p (by simpa using hj) (by omega)), hd]
  exact eval_put_same a k _ hk
 | o' :: l, i, a, j + 1, o, h, hd, hk, hu => by
  show (putAll vs l (i + 1) (a.put o'.dst (vs i))).eval (.tmp k) = _
  rw [putAll_at vs k l (i + 1) _ j o (by simpa using h) hd (by rw [tmps_put_size]; exact hk) (fun j' p hj hne => hu (j' + 1) p (by simpa using hj) (by omega))]
  congr 1; omega

theorem act_ext {a b : Act} (h1 : a.tmps.size = b.tmps.size) (h2 : a.defers = b.defers) (h3 : ∀ k, k < a.tmps.size → a.eval (.tmp k) = b.eval (.tmp k)) : a = b := by
 obtain ⟨ta, da⟩ := a
 obtain ⟨tb, db⟩ := b
 simp at h1 h2; subst h2
 congr 1
 refine Array.ext h1 (fun k hk1 hk2 => ?_)
 have := h3 k (by simpa using hk1)
 simpa [Act.eval, hk1, hk2] using this

theorem ext_spec {ops : Array Oper} {i k : Nat} (h : ext ops i k = true) {j : Nat} {o : Oper} (hj : ops[j]? = some o) (hd : o.dst = some k) (hne : j ≠ i) :
  ∃ e ∈ o.after.toList, e.on = i ∧ Region.binds .any e = true := by
 have hlt : j < ops.size := by
  rcases Nat.lt_or_ge j ops.size with h | h
  ·exact h
  ·simp [Array.getElem?_eq_none h] at hj
 unfold ext at h
 rw [List.all_eq_true] at h
 have := h j (by simpa using hlt)
 simp only [hj, Option.bind_some, hd, Option.map_some, Option.getD_some, Bool.or_eq_true, beq_iff_eq, bne_self_eq_false, Bool.false_eq_true, or_false] at this
 rcases this with h1 | h1
 ·exact absurd h1 hne
 ·rw [← Array.any_toList, List.any_eq_true] at h1
  obtain ⟨e, he, h2⟩ := h1
  simp only [Bool.and_eq_true, beq_iff_eq] at h2
  exact ⟨e, by simpa using he, h2.1, h2.2⟩

theorem left_replicate (n : Nat) : left (List.replicate n false) = n := by
 unfold left
 rw [List.filter_eq_self.2 (fun b hb => by simp [List.eq_of_mem_replicate hb])]
 simp

/-- Just this value. -/
def ex (x : Value) : Value → World → Prop := fun v _ => v = x
/-- What holds goes on holding while more comes. -/
def Stable (p : Value → World → Prop) : Prop := ∀ v w w', Grow w w' → p v w → p v w'
theorem st_ex (x : Value) : Stable (ex x) := fun _ _ _ _ h => h

def phiOf (L : List (Value → World → Prop)) (i : Nat) : Value → World → Prop := L.getD i (fun _ _ => True)
def StAll : List (Value → World → Prop) → Prop
 | [] => True
 | p :: L => Stable p ∧ StAll L
def ToldAll (vs : Nat → Value) (w : World) : List (Value → World → Prop) → Nat → Prop
 | [], _ => True
 | p :: L, i => p (vs i) w ∧ ToldAll vs w L (i + 1)

def dstB (l : List Oper) : Bool := l.all fun o => o.dst.isSome

/-- An operation without a guard, and one whose guard says yes, or no. -/
theorem need_plain {P : Program} {phi : Nat → Value → World → Prop} {ops : Array Oper} {a0 : Act} {w0 : World} {i : Nat} {o : Oper} (hg : o.guard = none)
  (h : ∀ a w, Grow w0 w → Ins phi ops a0 i o a w → upon P w (phi i) ((execOp a.eval o).run P w)) : Need P phi ops a0 w0 i o :=
 fun a w hw hin => ⟨fun _ => h a w hw hin, fun hn => absurd (by unfold wants; rw [hg]; trivial) hn⟩
theorem need_yes {P : Program} {phi : Nat → Value → World → Prop} {ops : Array Oper} {a0 : Act} {w0 : World} {i : Nat} {o : Oper} (j : Nat) (b : Bool) (hg : o.guard = some (j, b))
  (hy : ∀ a w, Ins phi ops a0 i o a w → gv ops a j = .bool b)
  (h : ∀ a w, Grow w0 w → Ins phi ops a0 i o a w → upon P w (phi i) ((execOp a.eval o).run P w)) : Need P phi ops a0 w0 i o :=
 fun a w hw hin => ⟨fun _ => h a w hw hin, fun hn => absurd (by unfold wants; rw [hg]; exact hy a w hin) hn⟩
theorem need_no {P : Program} {phi : Nat → Value → World → Prop} {ops : Array Oper} {a0 : Act} {w0 : World} {i : Nat} {o : Oper} (j : Nat) (b c : Bool) (hg : o.guard = some (j, b)) (hbc : b ≠ c)
  (hy : ∀ a w, Ins phi ops a0 i o a w → gv ops a j = .bool c) (hu : ∀ w, phi i undef w) : Need P phi ops a0 w0 i o :=
 fun a w hw hin => ⟨fun hn => by
  unfold wants at hn; rw [hg] at hn
  have h1 := hy a w hin
  have h2 : gv ops a j = .bool b := hn
  rw [h1] at h2
  exact absurd (by cases h2; rfl) hbc, fun _ => hu w⟩
/-- A guard that is itself not wanted: no value is there. -/
theorem need_undef {P : Program} {phi : Nat → Value → World → Prop} {ops : Array Oper} {a0 : Act} {w0 : World} {i : Nat} {o : Oper} (j : Nat) (b : Bool) (hg : o.guard = some (j, b))
  (hy : ∀ a w, Ins phi ops a0 i o a w → gv ops a j = undef) (hu : ∀ w, phi i undef w) : Need P phi ops a0 w0 i o :=
 fun a w hw hin => ⟨fun hn => by
  unfold wants at hn; rw [hg] at hn
  have h1 := hy a w hin
  have h2 : gv ops a j = .bool b := hn
  rw [h1] at h2
  exact absurd h2 (undef_ne_bool b), fun _ => hu w⟩

theorem ins_on {phi : Nat → Value → World → Prop} {ops : Array Oper} {a0 : Act} {i : Nat} {o : Oper} {a : Act} {w : World} (h : Ins phi ops a0 i o a w) (j : Nat)
  (hj : (o.after.any fun e => e.on == j && Region.binds .any e) = true) : phi j (gv ops a j) w := by
 rw [← Array.any_toList, List.any_eq_true] at hj
 obtain ⟨e, he, h2⟩ := hj
 simp only [Bool.and_eq_true, beq_iff_eq] at h2
 obtain ⟨rfl, h3⟩ := h2
 exact h.1 e he h3
theorem ins_ext {phi : Nat → Value → World → Prop} {ops : Array Oper} {a0 : Act} {i : Nat} {o : Oper} {a : Act} {w : World} (h : Ins phi ops a0 i o a w) (k : Nat) (hk : ext ops i k = true) :
  a.eval (.tmp k) = a0.eval (.tmp k) := h.2 k hk

theorem upon_move {P : Program} {w : World} {R : Value → World → Prop} {o : Oper} {ev : Operand → Value} {x : Operand} (ho : o.op = .move x) (h : R (ev x) w) : upon P w R ((execOp ev o).run P w) := by
 unfold execOp; rw [ho]; exact ⟨Grow.refl w, h⟩
theorem upon_assign {P : Program} {w : World} {R : Value → World → Prop} {o : Oper} {ev : Operand → Value} {x : Operand} (ho : o.op = .assign x) (h : R (ev x) w) : upon P w R ((execOp ev o).run P w) := by
 unfold execOp; rw [ho]; exact ⟨Grow.refl w, h⟩
theorem upon_pick {P : Program} {w : World} {R : Value → World → Prop} {o : Oper} {ev : Operand → Value} {c x y : Operand} {b : Bool} (ho : o.op = .pick c x y) (hc : ev c = .bool b) (h : R (if b then ev x else ev y) w) : upon P w R ((execOp ev o).run P w) := by
 unfold execOp; rw [ho]; simp only [hc]; cases b <;> exact ⟨Grow.refl w, h⟩
theorem upon_val {P : Program} {w : World} {R : Value → World → Prop} {o : Oper} {ev : Operand → Value} {v : Value} (h : (execOp ev o).run P w = .ok (.value v) w) (hv : R v w) : upon P w R ((execOp ev o).run P w) := by
 rw [h]; exact ⟨Grow.refl w, hv⟩
theorem upon_call {P : Program} {w : World} {R : Value → World → Prop} {o : Oper} {ev : Operand → Value} {f : FuncId} {args : Array Value} (h : (execOp ev o).run P w = .ok (.enter f args) w)
  (hc : Calls P f args w fun e w'' => ∃ v, e = .returned v ∧ Grow w w'' ∧ R v w'') : upon P w R ((execOp ev o).run P w) := by
 rw [h]; exact ⟨Grow.refl w, hc⟩

end Go.Proofs.Ytgaecpdokgklpab.Reg

/-
  Plain facts on sums of bytes and on two bytes of a number: no program, no memory.
  No condition.
-/
namespace Go.Proofs.Ytgaecpdokgklpab.Plain
set_option maxRecDepth 100000

/-- One byte more. -/
def next (s : Int) (c : UInt8) : Int := (s * 131 + (c.toNat : Int) + 1) % 65521
/-- The sum of bytes. -/
def sumOf (l : List UInt8) : Int := l.foldl next 3

theorem sumOf_nil : sumOf [] = 3 := rfl
theorem sumOf_snoc (l : List UInt8) (c : UInt8) : sumOf (l ++ [c]) = (sumOf l * 131 + (c.toNat : Int) + 1) % 65521 := by
 simp [sumOf, next, List.foldl_append]
theorem sumOf_bd (l : List UInt8) : 0 ≤ sumOf l ∧ sumOf l < 65521 := by
 have key : ∀ (l : List UInt8) (s : Int), 0 ≤ s → s < 65521 → 0 ≤ l.foldl next s ∧ l.foldl next s < 65521 := by
  intro l
  induction l with
  | nil => intro s h1 h2; exact ⟨h1, h2⟩
  | cons c l ih =>
   intro s h1 h2
   refine ih _ ?_ ?_ <;> unfold next <;> omega
 exact key l 3 (by omega) (by omega)
theorem take_snoc (l : List UInt8) (k : Nat) (h : k < l.length) : l.take (k + 1) = l.take k ++ [l[k]] := by
 rw [List.take_succ_eq_append_getElem h]

/-- The two bytes of a number. -/
def hi (n : Int) : UInt8 := UInt8.ofNat ((n / 256) % 256).toNat
def lo (n : Int) : UInt8 := UInt8.ofNat (n % 256).toNat
theorem hi_val (n : Int) : ((hi n).toNat : Int) = (n / 256) % 256 := by unfold hi; rw [UInt8.toNat_ofNat']; omega
theorem lo_val (n : Int) : ((lo n).toNat : Int) = n % 256 := by unfold lo; rw [UInt8.toNat_ofNat']; omega
/-- Bytes with their sum behind. -/
def sealed (l : List UInt8) : List UInt8 := l ++ [hi (sumOf l), lo (sumOf l)]
theorem sealed_length (l : List UInt8) : (sealed l).length = l.length + 2 := by simp [sealed]


theorem next_inj (s t : Int) (c : UInt8) (hs : 0 ≤ s) (hs' : s < 65521) (ht : 0 ≤ t) (ht' : t < 65521) (h : next s c = next t c) : s = t := by
 unfold next at h; omega
theorem next_ne (s : Int) (c d : UInt8) (hcd : c ≠ d) : next s c ≠ next s d := by
 intro h
 apply hcd
 have hc : c.toNat < 256 := UInt8.toNat_lt _
 have hd : d.toNat < 256 := UInt8.toNat_lt _
 unfold next at h
 refine UInt8.toNat_inj.1 ?_
 omega
theorem next_bd (s : Int) (c : UInt8) : 0 ≤ next s c ∧ next s c < 65521 := by unfold next; omega
theorem fold_inj : ∀ (l : List UInt8) (s t : Int), 0 ≤ s → s < 65521 → 0 ≤ t → t < 65521 → l.foldl next s = l.foldl next t → s = t
 | [], _, _, _, _, _, _, h => h
 | c :: l, s, t, h1, h2, h3, h4, h => by
  have := fold_inj l _ _ (next_bd s c).1 (next_bd s c).2 (next_bd t c).1 (next_bd t c).2 h
  exact next_inj s t c h1 h2 h3 h4 this
/-- One byte turned turns the sum. -/
theorem fold_set : ∀ (l : List UInt8) (s : Int) (k : Nat) (c : UInt8) (hk : k < l.length), 0 ≤ s → s < 65521 → l[k] ≠ c → (l.set k c).foldl next s ≠ l.foldl next s
 | [], _, _, _, hk, _, _, _ => by simp at hk
 | d :: l, s, 0, c, _, h1, h2, hne => by
  intro h
  have h3 : next s c = next s d := fold_inj l _ _ (next_bd s c).1 (next_bd s c).2 (next_bd s d).1 (next_bd s d).2 h
  exact next_ne s d c (by simpa using hne) h3.symm
 | d :: l, s, k + 1, c, hk, h1, h2, hne => fold_set l (next s d) k c (by simpa using hk) (next_bd s d).1 (next_bd s d).2 (by simpa using hne)
theorem sum_set (l : List UInt8) (k : Nat) (c : UInt8) (hk : k < l.length) (hne : l[k] ≠ c) : sumOf (l.set k c) ≠ sumOf l :=
 fold_set l 3 k c hk (by omega) (by omega) hne

/-- Are the last two bytes those of the sum of the ones ahead? -/
def sealedB (l : List UInt8) : Bool := decide (2 ≤ l.length) && (((l.getD (l.length - 2) 0).toNat : Int) * 256 + ((l.getD (l.length - 1) 0).toNat : Int) == sumOf (l.take (l.length - 2)))

theorem sealedB_app (l : List UInt8) (x y : UInt8) : sealedB (l ++ [x, y]) = ((x.toNat : Int) * 256 + (y.toNat : Int) == sumOf l) := by
 have e : (l ++ [x, y]).length = l.length + 2 := by simp
 unfold sealedB
 rw [e, show l.length + 2 - 2 = l.length from by omega, show l.length + 2 - 1 = l.length + 1 from by omega, decide_eq_true (by omega : 2 ≤ l.length + 2), Bool.true_and]
 simp [List.getD_eq_getElem?_getD]

theorem two_eq (x y : UInt8) (s : Int) (h0 : 0 ≤ s) (h1 : s < 65536) : ((x.toNat : Int) * 256 + (y.toNat : Int) = s) ↔ (hi s = x ∧ lo s = y) := by
 have hx : x.toNat < 256 := UInt8.toNat_lt _
 have hy : y.toNat < 256 := UInt8.toNat_lt _
 have h2 := hi_val s
 have h3 := lo_val s
 constructor
 ·intro h
  refine ⟨UInt8.toNat_inj.1 ?_, UInt8.toNat_inj.1 ?_⟩ <;> omega
 ·rintro ⟨rfl, rfl⟩
  omega

theorem sealedB_sealed (l : List UInt8) : sealedB (sealed l) = true := by
 have hs := sumOf_bd l
 unfold sealed
 rw [sealedB_app, beq_iff_eq, two_eq _ _ _ hs.1 (by omega)]
 exact ⟨rfl, rfl⟩

/-- ONE BYTE TURNED IS FOUND. -/
theorem sealedB_set (l : List UInt8) (k : Nat) (c : UInt8) (hk : k < (sealed l).length) (hne : (sealed l)[k] ≠ c) : sealedB ((sealed l).set k c) = false := by
 have hs := sumOf_bd l
 have he : (sealed l).length = l.length + 2 := sealed_length l
 by_cases h1 : k < l.length
 ·have e : (sealed l).set k c = l.set k c ++ [hi (sumOf l), lo (sumOf l)] := by unfold sealed; rw [List.set_append_left _ _ h1]
  rw [e, sealedB_app, beq_eq_false_iff_ne]
  intro h
  have h2 : ((hi (sumOf l)).toNat : Int) * 256 + ((lo (sumOf l)).toNat : Int) = sumOf l := (two_eq _ _ _ hs.1 (by omega)).2 ⟨rfl, rfl⟩
  refine sum_set l k c h1 ?_ (h.symm.trans h2)
  have : (sealed l)[k] = l[k] := by unfold sealed; exact List.getElem_append_left h1
  rw [← this]; exact hne
 ·by_cases h2 : k = l.length
  ·have e : (sealed l).set k c = l ++ [c, lo (sumOf l)] := by unfold sealed; rw [List.set_append_right _ _ (by omega), h2]; simp
   rw [e, sealedB_app, beq_eq_false_iff_ne]
   intro h
   have := (two_eq _ _ _ hs.1 (by omega)).1 h
   apply hne
   subst h2
   simp [sealed, this.1]
  ·have h3 : k = l.length + 1 := by omega
   have e : (sealed l).set k c = l ++ [hi (sumOf l), c] := by unfold sealed; rw [List.set_append_right _ _ (by omega), h3]; simp
   rw [e, sealedB_app, beq_eq_false_iff_ne]
   intro h
   have := (two_eq _ _ _ hs.1 (by omega)).1 h
   apply hne
   subst h3
   simp [sealed, this.2]

end Go.Proofs.Ytgaecpdokgklpab.Plain

/-
  A drawn region that also writes: one predicate a place, a step relation for each operation that does more than grow memory, and a fact on the world that every step keeps; in whatever order the operations come the frame is as told at the end.
  No condition beyond the premises that each theorem writes out.
-/
namespace Go.Proofs.Ytgaecpdokgklpab.Reg
set_option maxRecDepth 100000
open Go Go.RowKit

/-- A predicate of a place's value, of values of places that it waits for, and of the world. -/
abbrev Pl := List Nat × (Value → List Value → World → Prop)
def pl (q : Value → World → Prop) : Pl := ([], fun v _ w => q v w)
def pl1 (d : Nat) (q : Value → Value → World → Prop) : Pl := ([d], fun v ds w => q v (ds.getD 0 undef) w)
def plAt (L : List Pl) (i : Nat) : Pl := L.getD i ([], fun _ _ _ => True)
def phiW (L : List Pl) (i : Nat) (f : Nat → Value) (w : World) : Prop := (plAt L i).2 (f i) ((plAt L i).1.map f) w
def setv (f : Nat → Value) (i : Nat) (v : Value) : Nat → Value := fun j => if j = i then v else f j

abbrev Step := World → World → Prop
def stepAt (T : List (Option Step)) (j : Nat) : Step := match T.getD j none with
 | none => Grow
 | some s => s

/-- Operation i waits for operation j. -/
def waits (ops : Array Oper) (i j : Nat) : Bool := ((ops[i]?).map fun o => o.after.any fun e => e.on == j && Region.binds .any e).getD false

/-- What is asked once an operation has yielded this: the step, and what is kept. -/
def uponW (P : Program) (s : Step) (J : World → Prop) (w : World) (R : Value → World → Prop) : Result Next → Prop
 | .ok (.value v) w' => s w w' ∧ J w' ∧ R v w'
 | .ok .skip w' => s w w' ∧ J w' ∧ R undef w'
 | .ok (.enter f args) w' => Calls P f args w' (fun e w'' => ∃ v, e = .returned v ∧ s w w'' ∧ J w'' ∧ R v w'')
 | _ => False

def InsW (L : List Pl) (ops : Array Oper) (a0 : Act) (i : Nat) (o : Oper) (a : Act) (w : World) : Prop :=
 (∀ e ∈ o.after.toList, Region.binds .any e = true → phiW L e.on (gv ops a) w) ∧ (∀ k, ext ops i k = true → a.eval (.tmp k) = a0.eval (.tmp k))

def NeedW (P : Program) (L : List Pl) (T : List (Option Step)) (J : World → Prop) (ops : Array Oper) (a0 : Act) (i : Nat) (o : Oper) : Prop :=
 ∀ a w, J w → InsW L ops a0 i o a w → (wants ops a o → uponW P (stepAt T i) J w (fun v w' => (plAt L i).2 v ((plAt L i).1.map (gv ops a)) w') ((execOp a.eval o).run P w)) ∧ (¬ wants ops a o → (plAt L i).2 undef ((plAt L i).1.map (gv ops a)) w)

def NeedAllW (P : Program) (L : List Pl) (T : List (Option Step)) (J : World → Prop) (ops : Array Oper) (a0 : Act) : List Oper → Nat → Prop
 | [], _ => True
 | o :: l, i => NeedW P L T J ops a0 i o ∧ NeedAllW P L T J ops a0 l (i + 1)

/-- Each predicate looks at places alone that its own operation waits for. -/
def depB (L : List Pl) (ops : Array Oper) : Bool := (List.range ops.size).all fun i => (plAt L i).1.all fun d => waits ops i d

theorem dep_spec {L : List Pl} {ops : Array Oper} (h : depB L ops = true) {i : Nat} {o : Oper} (hi : ops[i]? = some o) {d : Nat} (hd : d ∈ (plAt L i).1) : ∃ e ∈ o.after.toList, e.on = d ∧ Region.binds .any e = true := by
 have hlt : i < ops.size := by
  rcases Nat.lt_or_ge i ops.size with h | h
  ·exact h
  ·simp [Array.getElem?_eq_none h] at hi
 unfold depB at h
 rw [List.all_eq_true] at h
 have h1 := h i (by simpa using hlt)
 rw [List.all_eq_true] at h1
 have h2 := h1 d hd
 simp only [waits, hi, Option.map_some, Option.getD_some] at h2
 rw [← Array.any_toList, List.any_eq_true] at h2
 obtain ⟨e, he, h3⟩ := h2
 simp only [Bool.and_eq_true, beq_iff_eq] at h3
 exact ⟨e, he, h3.1, h3.2⟩

theorem listed_ne {listed : Array Bool} {i j : Nat} (hi : listed.getD i false = false) (hj : listed.getD j false = true) : i ≠ j := by
 intro e; subst e; rw [hi] at hj; cases hj

def StableW (p : Pl) : Prop := ∀ v ds w w', Grow w w' → p.2 v ds w → p.2 v ds w'
def StAllW : List Pl → Prop
 | [] => True
 | p :: L => StableW p ∧ StAllW L
def ToldAllW (vs : Nat → Value) (w : World) : List Pl → Nat → Prop
 | [], _ => True
 | p :: L, i => p.2 (vs i) (p.1.map vs) w ∧ ToldAllW vs w L (i + 1)
/-- Each predicate of an operation that doesn't come ahead holds through this step. -/
def SpIn (s : Step) (ops : Array Oper) (j : Nat) : List Pl → Nat → Prop
 | [], _ => True
 | p :: L, i => ((i == j || waits ops i j) = true ∨ ∀ v ds w w', s w w' → p.2 v ds w → p.2 v ds w') ∧ SpIn s ops j L (i + 1)
def SpAll (L : List Pl) (ops : Array Oper) : List (Option Step) → Nat → Prop
 | [], _ => True
 | none :: T, j => SpAll L ops T (j + 1)
 | some s :: T, j => ((∀ w, s w w) ∧ SpIn s ops j L 0) ∧ SpAll L ops T (j + 1)
def NoneAll : List Pl → List Oper → Prop
 | [], _ => True
 | _, [] => True
 | p :: L, o :: l => (o.dst = none → ∀ v ds w, p.2 v ds w → p.2 undef ds w) ∧ NoneAll L l

theorem st_pl {q : Value → World → Prop} (h : Stable q) : StableW (pl q) := fun v _ w w' hg hq => h v w w' hg hq

theorem stAllW_at : ∀ (L : List Pl) (i : Nat), StAllW L → StableW (plAt L i)
 | [], i, _ => fun _ _ _ _ _ _ => by simp [plAt]
 | p :: L, 0, h => h.1
 | p :: L, i + 1, h => stAllW_at L i h.2

theorem spIn_at {s : Step} {ops : Array Oper} {j : Nat} : ∀ (L : List Pl) (k i : Nat), SpIn s ops j L k → k + i ≠ j → waits ops (k + i) j = false → ∀ v ds w w', s w w' → (plAt L i).2 v ds w → (plAt L i).2 v ds w'
 | [], k, i, _, _, _ => fun _ _ _ _ _ _ => by simp [plAt]
 | p :: L, k, 0, h, hne, hw => by
  rcases h.1 with h1 | h1
  ·simp only [Bool.or_eq_true, beq_iff_eq] at h1
   rcases h1 with h1 | h1
   ·exact absurd h1 hne
   ·rw [Nat.add_zero] at hw; rw [hw] at h1; cases h1
  ·exact h1
 | p :: L, k, i + 1, h, hne, hw => by
  have := spIn_at L (k + 1) i h.2 (by omega) (by rw [show k + 1 + i = k + (i + 1) from by omega]; exact hw)
  exact this

theorem spAll_at {L : List Pl} {ops : Array Oper} : ∀ (T : List (Option Step)) (k j : Nat) (s : Step), SpAll L ops T k → T.getD j none = some s → (∀ w, s w w) ∧ SpIn s ops (k + j) L 0
 | [], k, j, s, _, h => by simp at h
 | none :: T, k, 0, s, _, h => by simp at h
 | some s' :: T, k, 0, s, h, hs => by simp at hs; subst hs; exact h.1
 | none :: T, k, j + 1, s, h, hs => by
  have := spAll_at T (k + 1) j s h (by simpa using hs)
  rwa [show k + 1 + j = k + (j + 1) from by omega] at this
 | some s' :: T, k, j + 1, s, h, hs => by
  have := spAll_at T (k + 1) j s h.2 (by simpa using hs)
  rwa [show k + 1 + j = k + (j + 1) from by omega] at this

theorem noneAll_at : ∀ (L : List Pl) (l : List Oper) (i : Nat) (o : Oper), NoneAll L l → l[i]? = some o → o.dst = none → ∀ v ds w, (plAt L i).2 v ds w → (plAt L i).2 undef ds w
 | [], _, i, _, _, _, _ => fun _ _ _ _ => by simp [plAt]
 | _ :: _, [], i, _, _, h, _ => by simp at h
 | p :: L, o' :: l, 0, o, h, ho, hd => by simp at ho; subst ho; exact h.1 hd
 | p :: L, o' :: l, i + 1, o, h, ho, hd => noneAll_at L l i o h.2 (by simpa using ho) hd

theorem toldAllW_of (vs : Nat → Value) (w : World) : ∀ (L : List Pl) (k : Nat), (∀ i, i < L.length → (plAt L i).2 (vs (k + i)) ((plAt L i).1.map vs) w) → ToldAllW vs w L k
 | [], _, _ => trivial
 | p :: L, k, h => ⟨h 0 (by simp), toldAllW_of vs w L (k + 1) (fun i hi => by
   have := h (i + 1) (by simpa using hi)
   rw [show k + (i + 1) = k + 1 + i from by omega] at this
   exact this)⟩

/-- An operation without a guard, and one whose guard says yes, or no. -/
theorem needw_plain {P : Program} {L : List Pl} {T : List (Option Step)} {J : World → Prop} {ops : Array Oper} {a0 : Act} {i : Nat} {o : Oper} (hg : o.guard = none)
  (h : ∀ a w, J w → InsW L ops a0 i o a w → uponW P (stepAt T i) J w (fun v w' => (plAt L i).2 v ((plAt L i).1.map (gv ops a)) w') ((execOp a.eval o).run P w)) : NeedW P L T J ops a0 i o :=
 fun a w hw hin => ⟨fun _ => h a w hw hin, fun hn => absurd (by unfold wants; rw [hg]; trivial) hn⟩
theorem needw_yes {P : Program} {L : List Pl} {T : List (Option Step)} {J : World → Prop} {ops : Array Oper} {a0 : Act} {i : Nat} {o : Oper} (j : Nat) (b : Bool) (hg : o.guard = some (j, b))
  (hy : ∀ a w, InsW L ops a0 i o a w → gv ops a j = .bool b)
  (h : ∀ a w, J w → InsW L ops a0 i o a w → uponW P (stepAt T i) J w (fun v w' => (plAt L i).2 v ((plAt L i).1.map (gv ops a)) w') ((execOp a.eval o).run P w)) : NeedW P L T J ops a0 i o :=
 fun a w hw hin => ⟨fun _ => h a w hw hin, fun hn => absurd (by unfold wants; rw [hg]; exact hy a w hin) hn⟩
theorem needw_no {P : Program} {L : List Pl} {T : List (Option Step)} {J : World → Prop} {ops : Array Oper} {a0 : Act} {i : Nat} {o : Oper} (j : Nat) (b c : Bool) (hg : o.guard = some (j, b)) (hbc : b ≠ c)
  (hy : ∀ a w, InsW L ops a0 i o a w → gv ops a j = .bool c) (hu : ∀ ds w, (plAt L i).2 undef ds w) : NeedW P L T J ops a0 i o :=
 fun a w hw hin => ⟨fun hn => by
  unfold wants at hn; rw [hg] at hn
  have h1 := hy a w hin
  have h2 : gv ops a j = .bool b := hn
  rw [h1] at h2
  exact absurd (by cases h2; rfl) hbc, fun _ => hu _ w⟩
theorem needw_undef {P : Program} {L : List Pl} {T : List (Option Step)} {J : World → Prop} {ops : Array Oper} {a0 : Act} {i : Nat} {o : Oper} (j : Nat) (b : Bool) (hg : o.guard = some (j, b))
  (hy : ∀ a w, InsW L ops a0 i o a w → gv ops a j = undef) (hu : ∀ ds w, (plAt L i).2 undef ds w) : NeedW P L T J ops a0 i o :=
 fun a w hw hin => ⟨fun hn => by
  unfold wants at hn; rw [hg] at hn
  have h1 := hy a w hin
  have h2 : gv ops a j = .bool b := hn
  rw [h1] at h2
  exact absurd h2 (undef_ne_bool b), fun _ => hu _ w⟩

theorem insw_on {L : List Pl} {ops : Array Oper} {a0 : Act} {i : Nat} {o : Oper} {a : Act} {w : World} (h : InsW L ops a0 i o a w) (j : Nat)
  (hj : (o.after.any fun e => e.on == j && Region.binds .any e) = true) : (plAt L j).2 (gv ops a j) ((plAt L j).1.map (gv ops a)) w := by
 rw [← Array.any_toList, List.any_eq_true] at hj
 obtain ⟨e, he, h2⟩ := hj
 simp only [Bool.and_eq_true, beq_iff_eq] at h2
 obtain ⟨rfl, h3⟩ := h2
 exact h.1 e he h3
theorem insw_ext {L : List Pl} {ops : Array Oper} {a0 : Act} {i : Nat} {o : Oper} {a : Act} {w : World} (h : InsW L ops a0 i o a w) (k : Nat) (hk : ext ops i k = true) :
  a.eval (.tmp k) = a0.eval (.tmp k) := h.2 k hk

theorem uponw_move {P : Program} {J : World → Prop} {w : World} {R : Value → World → Prop} {o : Oper} {ev : Operand → Value} {x : Operand} (ho : o.op = .move x) (hJ : J w) (h : R (ev x) w) : uponW P Grow J w R ((execOp ev o).run P w) := by
 unfold execOp; rw [ho]; exact ⟨Grow.refl w, hJ, h⟩
theorem uponw_assign {P : Program} {J : World → Prop} {w : World} {R : Value → World → Prop} {o : Oper} {ev : Operand → Value} {x : Operand} (ho : o.op = .assign x) (hJ : J w) (h : R (ev x) w) : uponW P Grow J w R ((execOp ev o).run P w) := by
 unfold execOp; rw [ho]; exact ⟨Grow.refl w, hJ, h⟩
theorem uponw_pick {P : Program} {J : World → Prop} {w : World} {R : Value → World → Prop} {o : Oper} {ev : Operand → Value} {c x y : Operand} {b : Bool} (ho : o.op = .pick c x y) (hJ : J w) (hc : ev c = .bool b) (h : R (if b then ev x else ev y) w) : uponW P Grow J w R ((execOp ev o).run P w) := by
 unfold execOp; rw [ho]; simp only [hc]; cases b <;> exact ⟨Grow.refl w, hJ, h⟩
theorem uponw_val {P : Program} {J : World → Prop} {w : World} {R : Value → World → Prop} {o : Oper} {ev : Operand → Value} {v : Value} (h : (execOp ev o).run P w = .ok (.value v) w) (hJ : J w) (hv : R v w) : uponW P Grow J w R ((execOp ev o).run P w) := by
 rw [h]; exact ⟨Grow.refl w, hJ, hv⟩
/-- A value, and a step. -/
theorem uponw_step {P : Program} {s : Step} {J : World → Prop} {w w' : World} {R : Value → World → Prop} {o : Oper} {ev : Operand → Value} {v : Value} (h : (execOp ev o).run P w = .ok (.value v) w') (hs : s w w') (hJ : J w') (hv : R v w') : uponW P s J w R ((execOp ev o).run P w) := by
 rw [h]; exact ⟨hs, hJ, hv⟩
/-- No value, and a step: a store. -/
theorem uponw_skip {P : Program} {s : Step} {J : World → Prop} {w w' : World} {R : Value → World → Prop} {o : Oper} {ev : Operand → Value} (h : (execOp ev o).run P w = .ok .skip w') (hs : s w w') (hJ : J w') (hv : R undef w') : uponW P s J w R ((execOp ev o).run P w) := by
 rw [h]; exact ⟨hs, hJ, hv⟩
theorem uponw_call {P : Program} {s : Step} {J : World → Prop} {w : World} {R : Value → World → Prop} {o : Oper} {ev : Operand → Value} {f : FuncId} {args : Array Value} (h : (execOp ev o).run P w = .ok (.enter f args) w)
  (hc : Calls P f args w fun e w'' => ∃ v, e = .returned v ∧ s w w'' ∧ J w'' ∧ R v w'') : uponW P s J w R ((execOp ev o).run P w) := by
 rw [h]; exact hc

end Go.Proofs.Ytgaecpdokgklpab.Reg

/-
  A drawn region that writes, where what is kept may hang on which operations are done: as the law ahead of it, the fact on the world told with those.
  No condition beyond the premises that each theorem writes out.
-/
namespace Go.Proofs.Ytgaecpdokgklpab.Reg
set_option maxRecDepth 100000
open Go Go.RowKit

def upd (dn : Nat → Bool) (i : Nat) : Nat → Bool := fun j => if j = i then true else dn j
/-- Operation i is ready: it is not done, what it waits for is, and what is done has its own done. -/
structure Ready (ops : Array Oper) (i : Nat) (dn : Nat → Bool) : Prop where
 un : dn i = false
 rd : ∀ j, waits ops i j = true → dn j = true
 cl : ∀ j k, waits ops j k = true → dn j = true → dn k = true
theorem Ready.not1 {ops : Array Oper} {i : Nat} {dn : Nat → Bool} (h : Ready ops i dn) (j : Nat) (hj : waits ops j i = true) : dn j = false := by
 cases hd : dn j with
 | false => rfl
 | true => have := h.cl j i hj hd; rw [h.un] at this; cases this
theorem Ready.notBy {ops : Array Oper} {i : Nat} {dn : Nat → Bool} (h : Ready ops i dn) (j k : Nat) (hk : dn k = false) (hj : waits ops j k = true) : dn j = false := by
 cases hd : dn j with
 | false => rfl
 | true => have := h.cl j k hj hd; rw [hk] at this; cases this
theorem upd_listed {listed : Array Bool} {i : Nat} (h : i < listed.size) : (fun j => (listed.setIfInBounds i true).getD j false) = upd (fun j => listed.getD j false) i := by
 funext j
 show (listed.setIfInBounds i true).getD j false = _
 rw [getD_set _ _ _ h]
 unfold upd
 by_cases hij : i = j
 ·subst hij; simp
 ·rw [if_neg hij, if_neg (fun e => hij e.symm)]

def NeedV (P : Program) (L : List Pl) (T : List (Option Step)) (J : (Nat → Bool) → World → Prop) (ops : Array Oper) (a0 : Act) (i : Nat) (o : Oper) : Prop :=
 ∀ a w dn, Ready ops i dn → J dn w → InsW L ops a0 i o a w → (wants ops a o → uponW P (stepAt T i) (J (upd dn i)) w (fun v w' => (plAt L i).2 v ((plAt L i).1.map (gv ops a)) w') ((execOp a.eval o).run P w)) ∧ (¬ wants ops a o → J (upd dn i) w ∧ (plAt L i).2 undef ((plAt L i).1.map (gv ops a)) w)

def NeedAllV (P : Program) (L : List Pl) (T : List (Option Step)) (J : (Nat → Bool) → World → Prop) (ops : Array Oper) (a0 : Act) : List Oper → Nat → Prop
 | [], _ => True
 | o :: l, i => NeedV P L T J ops a0 i o ∧ NeedAllV P L T J ops a0 l (i + 1)

/-- An operation without a guard, and one whose guard says yes, or no. -/
theorem needv_plain {P : Program} {L : List Pl} {T : List (Option Step)} {J : (Nat → Bool) → World → Prop} {ops : Array Oper} {a0 : Act} {i : Nat} {o : Oper} (hg : o.guard = none)
  (h : ∀ a w dn, Ready ops i dn → J dn w → InsW L ops a0 i o a w → uponW P (stepAt T i) (J (upd dn i)) w (fun v w' => (plAt L i).2 v ((plAt L i).1.map (gv ops a)) w') ((execOp a.eval o).run P w)) : NeedV P L T J ops a0 i o :=
 fun a w dn hr hw hin => ⟨fun _ => h a w dn hr hw hin, fun hn => absurd (by unfold wants; rw [hg]; trivial) hn⟩
theorem needv_yes {P : Program} {L : List Pl} {T : List (Option Step)} {J : (Nat → Bool) → World → Prop} {ops : Array Oper} {a0 : Act} {i : Nat} {o : Oper} (j : Nat) (b : Bool) (hg : o.guard = some (j, b))
  (hy : ∀ a w, InsW L ops a0 i o a w → gv ops a j = .bool b)
  (h : ∀ a w dn, Ready ops i dn → J dn w → InsW L ops a0 i o a w → uponW P (stepAt T i) (J (upd dn i)) w (fun v w' => (plAt L i).2 v ((plAt L i).1.map (gv ops a)) w') ((execOp a.eval o).run P w)) : NeedV P L T J ops a0 i o :=
 fun a w dn hr hw hin => ⟨fun _ => h a w dn hr hw hin, fun hn => absurd (by unfold wants; rw [hg]; exact hy a w hin) hn⟩
theorem needv_no {P : Program} {L : List Pl} {T : List (Option Step)} {J : (Nat → Bool) → World → Prop} {ops : Array Oper} {a0 : Act} {i : Nat} {o : Oper} (j : Nat) (b c : Bool) (hg : o.guard = some (j, b)) (hbc : b ≠ c)
  (hy : ∀ a w, InsW L ops a0 i o a w → gv ops a j = .bool c) (hk : ∀ w dn, Ready ops i dn → J dn w → J (upd dn i) w) (hu : ∀ ds w, (plAt L i).2 undef ds w) : NeedV P L T J ops a0 i o :=
 fun a w dn hr hw hin => ⟨fun hn => by
  unfold wants at hn; rw [hg] at hn
  have h1 := hy a w hin
  have h2 : gv ops a j = .bool b := hn
  rw [h1] at h2
  exact absurd (by cases h2; rfl) hbc, fun _ => ⟨hk w dn hr hw, hu _ w⟩⟩
theorem needv_undef {P : Program} {L : List Pl} {T : List (Option Step)} {J : (Nat → Bool) → World → Prop} {ops : Array Oper} {a0 : Act} {i : Nat} {o : Oper} (j : Nat) (b : Bool) (hg : o.guard = some (j, b))
  (hy : ∀ a w, InsW L ops a0 i o a w → gv ops a j = undef) (hk : ∀ w dn, Ready ops i dn → J dn w → J (upd dn i) w) (hu : ∀ ds w, (plAt L i).2 undef ds w) : NeedV P L T J ops a0 i o :=
 fun a w dn hr hw hin => ⟨fun hn => by
  unfold wants at hn; rw [hg] at hn
  have h1 := hy a w hin
  have h2 : gv ops a j = .bool b := hn
  rw [h1] at h2
  exact absurd h2 (undef_ne_bool b), fun _ => ⟨hk w dn hr hw, hu _ w⟩⟩


end Go.Proofs.Ytgaecpdokgklpab.Reg

/-
  A drawn region that writes, where what is kept may hang on which operations are done, and on what they have yielded.
  No condition beyond the premises that each theorem writes out.
-/
namespace Go.Proofs.Ytgaecpdokgklpab.Reg
set_option maxRecDepth 100000
open Go Go.RowKit

/-- The value that an operation leaves in its place. -/
def dv (o : Oper) (v : Value) : Value := match o.dst with
 | none => undef
 | some _ => v
/-- What is asked once an operation has yielded this. -/
abbrev uponX (P : Program) (s : Step) (w : World) (J R : Value → World → Prop) : Result Next → Prop := uponW P s (fun _ => True) w (fun v w' => J v w' ∧ R v w')

def NeedX (P : Program) (L : List Pl) (T : List (Option Step)) (J : (Nat → Bool) → (Nat → Value) → World → Prop) (ops : Array Oper) (a0 : Act) (i : Nat) (o : Oper) : Prop :=
 ∀ a w dn, Ready ops i dn → J dn (gv ops a) w → InsW L ops a0 i o a w → (wants ops a o → uponX P (stepAt T i) w (fun v w' => J (upd dn i) (setv (gv ops a) i (dv o v)) w') (fun v w' => (plAt L i).2 v ((plAt L i).1.map (gv ops a)) w') ((execOp a.eval o).run P w)) ∧ (¬ wants ops a o → J (upd dn i) (setv (gv ops a) i undef) w ∧ (plAt L i).2 undef ((plAt L i).1.map (gv ops a)) w)

def NeedAllX (P : Program) (L : List Pl) (T : List (Option Step)) (J : (Nat → Bool) → (Nat → Value) → World → Prop) (ops : Array Oper) (a0 : Act) : List Oper → Nat → Prop
 | [], _ => True
 | o :: l, i => NeedX P L T J ops a0 i o ∧ NeedAllX P L T J ops a0 l (i + 1)

theorem needAllX_at {P : Program} {L : List Pl} {T : List (Option Step)} {J : (Nat → Bool) → (Nat → Value) → World → Prop} {ops : Array Oper} {a0 : Act} :
  ∀ (l : List Oper) (i j : Nat) (o : Oper), NeedAllX P L T J ops a0 l i → l[j]? = some o → NeedX P L T J ops a0 (i + j) o
 | [], _, _, _, _, h => by simp at h
 | o' :: l, i, 0, o, h, hj => by simp at hj; subst hj; exact h.1
 | o' :: l, i, j + 1, o, h, hj => by
  have := needAllX_at l (i + 1) j o h.2 (by simpa using hj)
  rwa [show i + 1 + j = i + (j + 1) from by omega] at this

/-- What holds at every stage, 'listed' done. -/
structure InvX (L : List Pl) (J : (Nat → Bool) → (Nat → Value) → World → Prop) (ops : Array Oper) (a0 : Act) (listed : Array Bool) (a : Act) (w : World) : Prop where
 lsize : listed.size = ops.size
 keep : J (fun j => listed.getD j false) (gv ops a) w
 tsize : a.tmps.size = a0.tmps.size
 defers : a.defers = a0.defers
 told : ∀ i o, ops[i]? = some o → listed.getD i false = true → phiW L i (gv ops a) w
 kept : ∀ k, (∀ i o, ops[i]? = some o → listed.getD i false = true → o.dst ≠ some k) → a.eval (.tmp k) = a0.eval (.tmp k)
 closed : ∀ i o, ops[i]? = some o → listed.getD i false = true → ∀ e ∈ o.after.toList, Region.binds .any e = true → listed.getD e.on false = true

theorem invX_put {L : List Pl} {T : List (Option Step)} {J : (Nat → Bool) → (Nat → Value) → World → Prop} {ops : Array Oper} {a0 : Act} {listed : Array Bool} {a : Act} {w w' : World} {i : Nat} {o : Oper} {v : Value}
  (hst : ∀ i j v ds w w', i ≠ j → waits ops i j = false → stepAt T j w w' → (plAt L i).2 v ds w → (plAt L i).2 v ds w') (hD : depB L ops = true) (hB : relB ops a0.tmps.size = true) (hi : ops[i]? = some o) (I : InvX L J ops a0 listed a w)
  (hun : listed.getD i false = false)
  (hafter : ∀ e ∈ o.after.toList, Region.binds .any e = true → listed.getD e.on false = true) (hg : stepAt T i w w') (hJ : J (upd (fun j => listed.getD j false) i) (setv (gv ops a) i v) w') (hv : (plAt L i).2 v ((plAt L i).1.map (gv ops a)) w') (hnone : o.dst = none → v = undef) :
  InvX L J ops a0 (listed.setIfInBounds i true) (a.put o.dst v) w' := by
 have hlt : i < ops.size := by
  rcases Nat.lt_or_ge i ops.size with h | h
  ·exact h
  ·simp [Array.getElem?_eq_none h] at hi
 have hll : i < listed.size := by rw [I.lsize]; exact hlt
 obtain ⟨hb1, hb2⟩ := relB_spec hB hi
 have hsame : ∀ j, j ≠ i → gv ops (a.put o.dst v) j = gv ops a j := by
  intro j hji
  by_cases hjlt : j < ops.size
  ·unfold gv
   cases hd : (ops[j]?).bind (·.dst) with
   | none => rfl
   | some d =>
    refine eval_put_ne a o.dst d v (fun e => ?_)
    exact (hb2 d e).2 j hjlt hji hd
  ·unfold gv; rw [Array.getElem?_eq_none (by omega)]; rfl
 have hown : gv ops (a.put o.dst v) i = v := by
  unfold gv
  simp only [hi, Option.bind_some]
  cases hd : o.dst with
  | none => simp [hnone hd]
  | some d => exact eval_put_same a d v (by rw [I.tsize]; exact (hb2 d hd).1)
 have hset : gv ops (a.put o.dst v) = setv (gv ops a) i v := by
  funext j
  unfold setv
  by_cases hji : j = i
  ·rw [if_pos hji, hji]; exact hown
  ·rw [if_neg hji]; exact hsame j hji
 refine ⟨by simp [I.lsize], by rw [upd_listed hll, hset]; exact hJ, by rw [tmps_put_size]; exact I.tsize, ?_, ?_, ?_, ?_⟩
 ·rw [← I.defers]; cases o.dst <;> rfl
 ·intro j p hj hl
  rw [getD_set _ _ _ hll] at hl
  have hmap : ∀ k pk, ops[k]? = some pk → (k = i ∨ listed.getD k false = true) → (plAt L k).1.map (gv ops (a.put o.dst v)) = (plAt L k).1.map (gv ops a) := by
   intro k pk hk hor
   refine List.map_congr_left (fun d hd => hsame d ?_)
   obtain ⟨e, he, hed, hbd⟩ := dep_spec hD hk hd
   intro hdi
   rcases hor with rfl | hkl
   ·have h5 := hafter e (by rw [hi] at hk; cases hk; exact he) hbd
    rw [hed, hdi, hun] at h5; cases h5
   ·have h5 := I.closed k pk hk hkl e he hbd
    rw [hed, hdi, hun] at h5; cases h5
  by_cases hij : i = j
  ·subst hij
   show (plAt L i).2 _ _ w'
   rw [hown, hmap i p hj (.inl rfl)]
   exact hv
  ·rw [if_neg hij] at hl
   show (plAt L j).2 _ _ w'
   rw [hsame j (fun e => hij e.symm), hmap j p hj (.inr hl)]
   refine hst j i _ _ w w' (fun e => hij e.symm) ?_ hg (I.told j p hj hl)
   cases hw : waits ops j i with
   | false => rfl
   | true =>
    exfalso
    simp only [waits, hj, Option.map_some, Option.getD_some] at hw
    rw [← Array.any_toList, List.any_eq_true] at hw
    obtain ⟨e, he, h3⟩ := hw
    simp only [Bool.and_eq_true, beq_iff_eq] at h3
    have h5 := I.closed j p hj hl e he h3.2
    rw [h3.1, hun] at h5; cases h5
 ·intro k hk
  have h1 : o.dst ≠ some k := hk i o hi (by rw [getD_set _ _ _ hll]; simp)
  rw [eval_put_ne a o.dst k v h1]
  refine I.kept k (fun j p hj hl => hk j p hj ?_)
  rw [getD_set _ _ _ hll]; split
  ·rfl
  ·exact hl
 ·intro j p hj hl e he hb
  rw [getD_set _ _ _ hll]
  split
  ·rfl
  ·rw [getD_set _ _ _ hll] at hl
   by_cases hij : i = j
   ·subst hij
    have : p = o := by rw [hi] at hj; exact (Option.some.inj hj).symm
    subst this
    exact hafter e he hb
   ·rw [if_neg hij] at hl
    exact I.closed j p hj hl e he hb

theorem invX_end {L : List Pl} {J : (Nat → Bool) → (Nat → Value) → World → Prop} {ops : Array Oper} {a0 : Act} {listed : Array Bool} {a : Act} {w : World}
  (hB : relB ops a0.tmps.size = true) (I : InvX L J ops a0 listed a w) :
  a = putAll (gv ops a) ops.toList 0 a0 := by
 have hp := putAll_tmps (gv ops a) ops.toList 0 a0
 refine act_ext (I.tsize.trans hp.1.symm) (I.defers.trans hp.2.symm) (fun k hk => ?_)
 by_cases hex : ∃ j : Nat, ∃ o : Oper, ops[j]? = some o ∧ o.dst = some k
 ·obtain ⟨j, o, hj, hd⟩ := hex
  obtain ⟨_, hb2⟩ := relB_spec hB hj
  rw [putAll_at (gv ops a) k ops.toList 0 a0 j o (by simpa using hj) hd (by rw [← I.tsize]; exact hk) ?_]
  ·simp only [Nat.zero_add, gv, hj, Option.bind_some, hd]
  ·intro j' o' hj' hne e
   have hj'' : ops[j']? = some o' := by simpa using hj'
   have hlt : j' < ops.size := by
    rcases Nat.lt_or_ge j' ops.size with h | h
    ·exact h
    ·simp [Array.getElem?_eq_none h] at hj''
   exact (hb2 k hd).2 j' hlt hne (by simp [hj'', e])
 ·rw [putAll_ne (gv ops a) k ops.toList 0 a0 (fun j o hj e => hex ⟨j, o, by simpa using hj, e⟩)]
  exact I.kept k (fun j o hj _ e => hex ⟨j, o, hj, e⟩)

theorem wpAny_relX {P : Program} {L : List Pl} {T : List (Option Step)} {J : (Nat → Bool) → (Nat → Value) → World → Prop} {ops : Array Oper} {a0 : Act} {Q : Exit → Act → World → Prop}
  (hB : relB ops a0.tmps.size = true) (hD : depB L ops = true)
  (hst : ∀ i j v ds w w', i ≠ j → waits ops i j = false → stepAt T j w w' → (plAt L i).2 v ds w → (plAt L i).2 v ds w') (hidle : ∀ j w, stepAt T j w w)
  (hop : ∀ i o, ops[i]? = some o → NeedX P L T J ops a0 i o)
  (hnone : ∀ i o, ops[i]? = some o → o.dst = none → ∀ v ds w, (plAt L i).2 v ds w → (plAt L i).2 undef ds w)
  (hQ : ∀ vs w dn, (∀ i, i < ops.size → dn i = true) → J dn vs w → (∀ i, i < ops.size → phiW L i vs w) → Q .normal (putAll vs ops.toList 0 a0) w) :
  ∀ (fuel : Nat) (listed : Array Bool) (a : Act) (w : World), left listed.toList = fuel → InvX L J ops a0 listed a w → wpAny P .any ops Q fuel listed a w := by
 have hend : ∀ (listed : Array Bool) (a : Act) (w : World), InvX L J ops a0 listed a w → Region.ready .any ops listed = [] → Q .normal a w := by
  intro listed a w I hr
  have hall := ready_nil hB I.lsize hr
  have he := invX_end hB I
  rw [he]
  refine hQ _ w _ hall I.keep (fun i hi => ?_)
  exact I.told i ops[i] (by simp [hi]) (hall i hi)
 intro fuel
 induction fuel with
 | zero =>
  intro listed a w hl I
  have hr : Region.ready .any ops listed = [] := by
   cases hrr : Region.ready .any ops listed with
   | nil => rfl
   | cons i l =>
    exfalso
    obtain ⟨o, ho, h1, _⟩ := ready_spec (ops := ops) (listed := listed) (i := i) (by rw [hrr]; simp)
    have hlt : i < ops.size := by
     rcases Nat.lt_or_ge i ops.size with h | h
     ·exact h
     ·simp [Array.getElem?_eq_none h] at ho
    have := left_zero listed.toList hl i (by simpa [I.lsize] using hlt)
    simp at this
    simp [this] at h1
  exact ⟨hr, hend listed a w I hr⟩
 | succ fuel ih =>
  intro listed a w hl I
  refine ⟨hend listed a w I, fun i hi => ?_⟩
  obtain ⟨o, ho, h1, h2⟩ := ready_spec hi
  have hlt : i < ops.size := by
   rcases Nat.lt_or_ge i ops.size with h | h
   ·exact h
   ·simp [Array.getElem?_eq_none h] at ho
  have hli : listed[i]? = some false := by
   have h3 : i < listed.size := by rw [I.lsize]; exact hlt
   simp [h3] at h1 ⊢; exact h1
  have hun : listed.getD i false = false := by
   have h3 : i < listed.size := by rw [I.lsize]; exact hlt
   simp [h3] at hli ⊢; exact hli
  have hleft : left (listed.setIfInBounds i true).toList = fuel := by
   have := left_set listed.toList i (by simpa using hli)
   simp only [Array.toList_setIfInBounds]; omega
  have hins : InsW L ops a0 i o a w := by
   refine ⟨fun e he hb => ?_, fun k hk => ?_⟩
   ·have h3 := h2 e he hb
    have h4 : e.on < ops.size := by
     rcases Nat.lt_or_ge e.on ops.size with h | h
     ·exact h
     ·have h5 : listed.size ≤ e.on := by rw [I.lsize]; exact h
      simp [Array.getD_eq_getD_getElem?, Array.getElem?_eq_none h5] at h3
    exact I.told e.on ops[e.on] (by simp [h4]) h3
   ·refine I.kept k (fun j p hj hl2 hd => ?_)
    have hji : j ≠ i := fun e => by subst e; rw [hun] at hl2; cases hl2
    obtain ⟨e, he, he1, he2⟩ := ext_spec hk hj hd hji
    have h5 := I.closed j p hj hl2 e he he2
    rw [he1, hun] at h5; cases h5
  have hrd : Ready ops i (fun j => listed.getD j false) := by
   refine ⟨hun, fun j hj => ?_, fun j k hjk hj => ?_⟩
   ·simp only [waits, ho, Option.map_some, Option.getD_some] at hj
    rw [← Array.any_toList, List.any_eq_true] at hj
    obtain ⟨e, he, h3⟩ := hj
    simp only [Bool.and_eq_true, beq_iff_eq] at h3
    rw [← h3.1]; exact h2 e he h3.2
   ·cases hoj : ops[j]? with
    | none => simp [waits, hoj] at hjk
    | some p =>
     simp only [waits, hoj, Option.map_some, Option.getD_some] at hjk
     rw [← Array.any_toList, List.any_eq_true] at hjk
     obtain ⟨e, he, h3⟩ := hjk
     simp only [Bool.and_eq_true, beq_iff_eq] at h3
     rw [← h3.1]; exact I.closed j p hoj hj e he h3.2
  obtain ⟨n1, n2⟩ := hop i o ho a w _ hrd I.keep hins
  unfold wpOp
  simp only [ho]
  by_cases hw : Region.wanted o (yielded ops a.tmps) = true
  ·simp only [hw, if_true]
   refine .inl ?_
   have hu := n1 (wanted_iff.1 hw)
   unfold Oper.wp
   generalize (execOp a.eval o).run P w = r at *
   have fin : ∀ v w', stepAt T i w w' → J (upd (fun j => listed.getD j false) i) (setv (gv ops a) i (dv o v)) w' → (plAt L i).2 v ((plAt L i).1.map (gv ops a)) w' → wpAny P .any ops Q fuel (listed.setIfInBounds i true) (a.put o.dst v) w' := by
    intro v w' hg hJ hv
    cases hd : o.dst with
    | none =>
     have hv' := hnone i o ho hd v _ w' hv
     rw [show dv o v = undef from by simp [dv, hd]] at hJ
     have := invX_put (v := undef) hst hD hB ho I hun h2 hg hJ hv' (fun _ => rfl)
     rw [hd] at this
     exact ih _ _ _ hleft this
    | some d =>
     rw [show dv o v = v from by simp [dv, hd]] at hJ
     have := invX_put (v := v) hst hD hB ho I hun h2 hg hJ hv (fun e => by rw [hd] at e; cases e)
     rw [hd] at this
     exact ih _ _ _ hleft this
   cases r with
   | ok n w' =>
    cases n <;> simp only [uponW] at hu <;> simp only [Oper.upon]
    case value v => exact fin v w' hu.1 hu.2.2.1 hu.2.2.2
    case skip => exact fin undef w' hu.1 hu.2.2.1 hu.2.2.2
    case enter f args =>
     refine hu.mono (fun e w'' he => ?_)
     obtain ⟨v, rfl, hg, -, hJ, hv⟩ := he
     exact fin v w'' hg hJ hv
   | halt x w' => simp only [uponW] at hu
  ·simp only [hw]
   have hu := n2 (fun h => hw (wanted_iff.2 h))
   have := invX_put (v := undef) hst hD hB ho I hun h2 (hidle i w) hu.1 hu.2 (fun _ => rfl)
   exact ih _ _ _ hleft this

/-- THE LAW: a region that draws its order and writes. -/
theorem wp_region_x {P : Program} {id : Nat} {l : List Oper} {a0 : Act} {w0 : World} {Q : Exit → Act → World → Prop} (L : List Pl) (T : List (Option Step)) (J : (Nat → Bool) → (Nat → Value) → World → Prop)
  (hm : P.follows .mixedOrders = true) (hB : (relB l.toArray a0.tmps.size && depB L l.toArray && (L.length == l.length)) = true) (hst : StAllW L) (hsp : SpAll L l.toArray T 0) (hnn : NoneAll L l)
  (hJ : ∀ f, J (fun _ => false) f w0.drew) (hop : NeedAllX P L T J l.toArray a0 l 0)
  (hQ : ∀ vs w dn, (∀ i, i < l.length → dn i = true) → J dn vs w → ToldAllW vs w L 0 → Q .normal (putAll vs l 0 a0) w) : (Code.region id l.toArray true).wp P Q a0 w0 := by
 simp only [Bool.and_eq_true, beq_iff_eq] at hB
 obtain ⟨⟨h1, h2⟩, h3⟩ := hB
 refine wp_region_any hm (wpAny_relX (L := L) (T := T) (J := J) h1 h2 (fun i j v ds w w' hne hwt hs hp => ?_) (fun j w => ?_) (fun i o hi => ?_) (fun i o hi hd => noneAll_at L l i o hnn (by simpa using hi) hd) (fun vs w dn hdn hj ht => ?_) _ _ _ _ ?_ ?_)
 ·unfold stepAt at hs
  cases ht : T.getD j none with
  | none => rw [ht] at hs; exact stAllW_at L i hst v ds w w' hs hp
  | some s =>
   rw [ht] at hs
   have h4 := (spAll_at T 0 j s hsp ht).2
   rw [Nat.zero_add] at h4
   have h5 := spIn_at L 0 i h4 (by rw [Nat.zero_add]; exact hne) (by rw [Nat.zero_add]; exact hwt)
   exact h5 v ds w w' hs hp
 ·unfold stepAt
  cases ht : T.getD j none with
  | none => exact Grow.refl w
  | some s => exact (spAll_at T 0 j s hsp ht).1 w
 ·have := needAllX_at l 0 i o hop (by simpa using hi)
  simpa using this
 ·have h6 := hQ vs w dn (fun i hi => hdn i (by simpa using hi)) hj (toldAllW_of vs w L 0 (fun i hi => by
   rw [Nat.zero_add]
   exact ht i (by rw [h3] at hi; simpa using hi)))
  simpa using h6
 ·simp only [Array.toList_replicate]
  exact left_replicate _
 ·refine ⟨by simp, by rw [show (fun j => (Array.replicate l.toArray.size false).getD j false) = fun _ => false from funext fun j => by by_cases h : j < l.length <;> simp [h]]; exact hJ _, rfl, rfl, fun i o hi hl => ?_, fun _ _ => rfl, fun i o hi hl => ?_⟩
  ·exfalso
   by_cases h : i < l.length <;> simp [h] at hl
  ·exfalso
   by_cases h : i < l.length <;> simp [h] at hl

/-! ### The plainer laws: what is kept hangs on less -/

theorem uponW_x {P : Program} {s : Step} {J : World → Prop} {w : World} {R : Value → World → Prop} : ∀ {r : Result Next}, uponW P s J w R r → uponW P s (fun _ => True) w (fun v w' => J w' ∧ R v w') r
 | .ok (.value _) _, h => ⟨h.1, trivial, h.2⟩
 | .ok .skip _, h => ⟨h.1, trivial, h.2⟩
 | .ok (.enter _ _) _, h => Calls.mono h fun _ _ ⟨v, h1, h2, h3, h4⟩ => ⟨v, h1, h2, trivial, h3, h4⟩
 | .halt _ _, h => h
theorem needAllV_x {P : Program} {L : List Pl} {T : List (Option Step)} {J : (Nat → Bool) → World → Prop} {ops : Array Oper} {a0 : Act} : ∀ (l : List Oper) (i : Nat), NeedAllV P L T J ops a0 l i → NeedAllX P L T (fun dn _ w => J dn w) ops a0 l i
 | [], _, _ => trivial
 | _ :: l, i, h => ⟨fun a w dn hr hw hin => ⟨fun hh => uponW_x ((h.1 a w dn hr hw hin).1 hh), (h.1 a w dn hr hw hin).2⟩, needAllV_x l (i + 1) h.2⟩
theorem wp_region_v {P : Program} {id : Nat} {l : List Oper} {a0 : Act} {w0 : World} {Q : Exit → Act → World → Prop} (L : List Pl) (T : List (Option Step)) (J : (Nat → Bool) → World → Prop)
  (hm : P.follows .mixedOrders = true) (hB : (relB l.toArray a0.tmps.size && depB L l.toArray && (L.length == l.length)) = true) (hst : StAllW L) (hsp : SpAll L l.toArray T 0) (hnn : NoneAll L l)
  (hJ : J (fun _ => false) w0.drew) (hop : NeedAllV P L T J l.toArray a0 l 0)
  (hQ : ∀ vs w dn, (∀ i, i < l.length → dn i = true) → J dn w → ToldAllW vs w L 0 → Q .normal (putAll vs l 0 a0) w) : (Code.region id l.toArray true).wp P Q a0 w0 :=
 wp_region_x L T (fun dn _ w => J dn w) hm hB hst hsp hnn (fun _ => hJ) (needAllV_x l 0 hop) hQ
theorem needAllW_v {P : Program} {L : List Pl} {T : List (Option Step)} {J : World → Prop} {ops : Array Oper} {a0 : Act} : ∀ (l : List Oper) (i : Nat), NeedAllW P L T J ops a0 l i → NeedAllV P L T (fun _ w => J w) ops a0 l i
 | [], _, _ => trivial
 | _ :: l, i, h => ⟨fun a w _ _ hw hin => ⟨(h.1 a w hw hin).1, fun hn => ⟨hw, (h.1 a w hw hin).2 hn⟩⟩, needAllW_v l (i + 1) h.2⟩
theorem wp_region_w {P : Program} {id : Nat} {l : List Oper} {a0 : Act} {w0 : World} {Q : Exit → Act → World → Prop} (L : List Pl) (T : List (Option Step)) (J : World → Prop)
  (hm : P.follows .mixedOrders = true) (hB : (relB l.toArray a0.tmps.size && depB L l.toArray && (L.length == l.length)) = true) (hst : StAllW L) (hsp : SpAll L l.toArray T 0) (hnn : NoneAll L l)
  (hJ : J w0.drew) (hop : NeedAllW P L T J l.toArray a0 l 0)
  (hQ : ∀ vs w, J w → ToldAllW vs w L 0 → Q .normal (putAll vs l 0 a0) w) : (Code.region id l.toArray true).wp P Q a0 w0 :=
 wp_region_v L T (fun _ w => J w) hm hB hst hsp hnn hJ (needAllW_v l 0 hop) fun vs w _ _ hj ht => hQ vs w hj ht
theorem pl_at : ∀ (L : List (Value → World → Prop)) (i : Nat), plAt (L.map pl) i = pl (phiOf L i)
 | [], _ => by simp [plAt, phiOf, pl]
 | _ :: _, 0 => rfl
 | _ :: L, i + 1 => pl_at L i
theorem pl_told {vs : Nat → Value} {w : World} : ∀ (L : List (Value → World → Prop)) (i : Nat), ToldAllW vs w (L.map pl) i → ToldAll vs w L i
 | [], _, _ => trivial
 | _ :: L, i, h => ⟨h.1, pl_told L (i + 1) h.2⟩
theorem pl_stay : ∀ (L : List (Value → World → Prop)), StAll L → StAllW (L.map pl)
 | [], _ => trivial
 | _ :: L, h => ⟨st_pl h.1, pl_stay L h.2⟩
theorem pl_none : ∀ (L : List (Value → World → Prop)) (l : List Oper), dstB l = true → NoneAll (L.map pl) l
 | [], _, _ => trivial
 | _ :: _, [], _ => trivial
 | _ :: L, o :: l, h => by
  unfold dstB at h
  simp only [List.all_cons, Bool.and_eq_true] at h
  exact ⟨fun hn => (by rw [hn] at h; exact absurd h.1 (by simp)), pl_none L l h.2⟩
theorem upon_w {P : Program} {w0 w : World} {R : Value → World → Prop} (hw : Grow w0 w) : ∀ {r : Result Next}, upon P w R r → uponW P Grow (Grow w0) w R r
 | .ok (.value _) _, h => ⟨h.1, hw.trans h.1, h.2⟩
 | .ok .skip _, h => ⟨h.1, hw.trans h.1, h.2⟩
 | .ok (.enter _ _) _, h => h.2.mono fun _ _ ⟨v, h1, h2, h3⟩ => ⟨v, h1, h.1.trans h2, hw.trans (h.1.trans h2), h3⟩
 | .halt _ _, h => h
theorem needAll_w {P : Program} {L : List (Value → World → Prop)} {ops : Array Oper} {a0 : Act} {w0 : World} : ∀ (l : List Oper) (i : Nat), NeedAll P (phiOf L) ops a0 w0 l i → NeedAllW P (L.map pl) [] (Grow w0) ops a0 l i
 | [], _, _ => trivial
 | _ :: l, i, h => ⟨fun a w hw hin => by
  have h1 := h.1 a w hw ⟨fun e he hb => by
   have h2 := hin.1 e he hb
   unfold phiW at h2
   rw [pl_at] at h2
   exact h2, hin.2⟩
  rw [pl_at]
  exact ⟨fun hh => upon_w hw (h1.1 hh), h1.2⟩, needAll_w l (i + 1) h.2⟩
theorem wp_region_told {P : Program} {id : Nat} {l : List Oper} {a0 : Act} {w0 : World} {Q : Exit → Act → World → Prop} (L : List (Value → World → Prop))
  (hm : P.follows .mixedOrders = true) (hB : (relB l.toArray a0.tmps.size && dstB l && (L.length == l.length)) = true) (hst : StAll L)
  (hop : NeedAll P (phiOf L) l.toArray a0 w0 l 0)
  (hQ : ∀ vs w, Grow w0 w → ToldAll vs w L 0 → Q .normal (putAll vs l 0 a0) w) : (Code.region id l.toArray true).wp P Q a0 w0 := by
 simp only [Bool.and_eq_true, beq_iff_eq] at hB
 refine wp_region_w (L.map pl) [] (Grow w0) hm ?_ (pl_stay L hst) trivial (pl_none L l hB.1.2) (Grow.refl _).drew (needAll_w l 0 hop) fun vs w hg ht => hQ vs w hg (pl_told L 0 ht)
 simp only [Bool.and_eq_true, beq_iff_eq, List.length_map]
 exact ⟨⟨hB.1.1, by unfold depB; simp [pl_at, pl]⟩, hB.2⟩

/-- An operation without a guard, and one whose guard says yes, or no. -/
theorem needx_plain {P : Program} {L : List Pl} {T : List (Option Step)} {J : (Nat → Bool) → (Nat → Value) → World → Prop} {ops : Array Oper} {a0 : Act} {i : Nat} {o : Oper} (hg : o.guard = none)
  (h : ∀ a w dn, Ready ops i dn → J dn (gv ops a) w → InsW L ops a0 i o a w → uponX P (stepAt T i) w (fun v w' => J (upd dn i) (setv (gv ops a) i (dv o v)) w') (fun v w' => (plAt L i).2 v ((plAt L i).1.map (gv ops a)) w') ((execOp a.eval o).run P w)) : NeedX P L T J ops a0 i o :=
 fun a w dn hr hw hin => ⟨fun _ => h a w dn hr hw hin, fun hn => absurd (by unfold wants; rw [hg]; trivial) hn⟩
theorem needx_yes {P : Program} {L : List Pl} {T : List (Option Step)} {J : (Nat → Bool) → (Nat → Value) → World → Prop} {ops : Array Oper} {a0 : Act} {i : Nat} {o : Oper} (j : Nat) (b : Bool) (hg : o.guard = some (j, b))
  (hy : ∀ a w, InsW L ops a0 i o a w → gv ops a j = .bool b)
  (h : ∀ a w dn, Ready ops i dn → J dn (gv ops a) w → InsW L ops a0 i o a w → uponX P (stepAt T i) w (fun v w' => J (upd dn i) (setv (gv ops a) i (dv o v)) w') (fun v w' => (plAt L i).2 v ((plAt L i).1.map (gv ops a)) w') ((execOp a.eval o).run P w)) : NeedX P L T J ops a0 i o :=
 fun a w dn hr hw hin => ⟨fun _ => h a w dn hr hw hin, fun hn => absurd (by unfold wants; rw [hg]; exact hy a w hin) hn⟩
theorem needx_no {P : Program} {L : List Pl} {T : List (Option Step)} {J : (Nat → Bool) → (Nat → Value) → World → Prop} {ops : Array Oper} {a0 : Act} {i : Nat} {o : Oper} (j : Nat) (b c : Bool) (hg : o.guard = some (j, b)) (hbc : b ≠ c)
  (hy : ∀ a w, InsW L ops a0 i o a w → gv ops a j = .bool c) (hk : ∀ f w dn, Ready ops i dn → J dn f w → J (upd dn i) (setv f i undef) w) (hu : ∀ ds w, (plAt L i).2 undef ds w) : NeedX P L T J ops a0 i o :=
 fun a w dn hr hw hin => ⟨fun hn => by
  unfold wants at hn; rw [hg] at hn
  have h1 := hy a w hin
  have h2 : gv ops a j = .bool b := hn
  rw [h1] at h2
  exact absurd (by cases h2; rfl) hbc, fun _ => ⟨hk _ w dn hr hw, hu _ w⟩⟩
theorem needx_undef {P : Program} {L : List Pl} {T : List (Option Step)} {J : (Nat → Bool) → (Nat → Value) → World → Prop} {ops : Array Oper} {a0 : Act} {i : Nat} {o : Oper} (j : Nat) (b : Bool) (hg : o.guard = some (j, b))
  (hy : ∀ a w, InsW L ops a0 i o a w → gv ops a j = undef) (hk : ∀ f w dn, Ready ops i dn → J dn f w → J (upd dn i) (setv f i undef) w) (hu : ∀ ds w, (plAt L i).2 undef ds w) : NeedX P L T J ops a0 i o :=
 fun a w dn hr hw hin => ⟨fun hn => by
  unfold wants at hn; rw [hg] at hn
  have h1 := hy a w hin
  have h2 : gv ops a j = .bool b := hn
  rw [h1] at h2
  exact absurd h2 (undef_ne_bool b), fun _ => ⟨hk _ w dn hr hw, hu _ w⟩⟩

theorem uponx_move {P : Program} {w : World} {J R : Value → World → Prop} {o : Oper} {ev : Operand → Value} {x : Operand} (ho : o.op = .move x) (hJ : J (ev x) w) (h : R (ev x) w) : uponX P Grow w J R ((execOp ev o).run P w) := uponw_move ho trivial ⟨hJ, h⟩
theorem uponx_assign {P : Program} {w : World} {J R : Value → World → Prop} {o : Oper} {ev : Operand → Value} {x : Operand} (ho : o.op = .assign x) (hJ : J (ev x) w) (h : R (ev x) w) : uponX P Grow w J R ((execOp ev o).run P w) := uponw_assign ho trivial ⟨hJ, h⟩
theorem uponx_val {P : Program} {w : World} {J R : Value → World → Prop} {o : Oper} {ev : Operand → Value} {v : Value} (h : (execOp ev o).run P w = .ok (.value v) w) (hJ : J v w) (hv : R v w) : uponX P Grow w J R ((execOp ev o).run P w) := uponw_val h trivial ⟨hJ, hv⟩
theorem uponx_step {P : Program} {s : Step} {w w' : World} {J R : Value → World → Prop} {o : Oper} {ev : Operand → Value} {v : Value} (h : (execOp ev o).run P w = .ok (.value v) w') (hs : s w w') (hJ : J v w') (hv : R v w') : uponX P s w J R ((execOp ev o).run P w) := uponw_step h hs trivial ⟨hJ, hv⟩
theorem uponx_skip {P : Program} {s : Step} {w w' : World} {J R : Value → World → Prop} {o : Oper} {ev : Operand → Value} (h : (execOp ev o).run P w = .ok .skip w') (hs : s w w') (hJ : J undef w') (hv : R undef w') : uponX P s w J R ((execOp ev o).run P w) := uponw_skip h hs trivial ⟨hJ, hv⟩
end Go.Proofs.Ytgaecpdokgklpab.Reg

/-
  Records, their blocks, and what a block tells: no program, no memory.
  No condition.
-/
namespace Go.Proofs.Ytgaecpdokgklpab.Plain
set_option maxRecDepth 100000

/-- A record. -/
structure Rec where
 kind : Int
 key : Int
 ver : Int
 data : List UInt8

def Rec.none : Rec := ⟨0, 0, 0, []⟩

def sameB (a b : Rec) : Bool := a.kind == b.kind && a.key == b.key && a.ver == b.ver && a.data == b.data
theorem sameB_iff (a b : Rec) : sameB a b = true ↔ a = b := by
 obtain ⟨a1, a2, a3, a4⟩ := a
 obtain ⟨b1, b2, b3, b4⟩ := b
 simp [sameB, and_assoc]
theorem sameB_refl (a : Rec) : sameB a a = true := (sameB_iff a a).2 rfl

def inRangeB (r : Rec) : Bool := if r.kind = 1 then decide (r.key = 0 ∧ r.ver = 0) else decide (1 ≤ r.key ∧ r.key ≤ 255 ∧ 1 ≤ r.ver ∧ r.ver ≤ 60000)
def maxData (k : Int) : Int := if k = 2 then 8 else 0
/-- What is wrong with a record: the error's number, 0 if nothing. -/
def wrong (r : Rec) : Int :=
 if r.kind < 1 ∨ 3 < r.kind then 1 else if inRangeB r = false then 3 else if maxData r.kind < (r.data.length : Int) then 4 else 0

theorem wrong_zero (r : Rec) : wrong r = 0 ↔ (1 ≤ r.kind ∧ r.kind ≤ 3 ∧ inRangeB r = true ∧ (r.data.length : Int) ≤ maxData r.kind) := by
 unfold wrong
 by_cases h1 : r.kind < 1 ∨ 3 < r.kind
 ·rw [if_pos h1]; constructor
  ·intro h; omega
  ·rintro ⟨h2, h3, _⟩; omega
 ·rw [if_neg h1]
  by_cases h2 : inRangeB r = false
  ·rw [if_pos h2]; constructor
   ·intro h; omega
   ·rintro ⟨_, _, h3, _⟩; rw [h2] at h3; cases h3
  ·rw [if_neg h2]
   have h2' : inRangeB r = true := by simpa using h2
   by_cases h3 : maxData r.kind < (r.data.length : Int)
   ·rw [if_pos h3]; constructor
    ·intro h; omega
    ·rintro ⟨_, _, _, h4⟩; omega
   ·rw [if_neg h3]; constructor
    ·intro _; exact ⟨by omega, by omega, h2', by omega⟩
    ·intro _; rfl

/-- What the numbers of a right record are. -/
theorem right_bd {r : Rec} (h : wrong r = 0) : 1 ≤ r.kind ∧ r.kind ≤ 3 ∧ 0 ≤ r.key ∧ r.key ≤ 255 ∧ 0 ≤ r.ver ∧ r.ver ≤ 60000 ∧ r.data.length ≤ 8 := by
 obtain ⟨h1, h2, h3, h4⟩ := (wrong_zero r).1 h
 unfold inRangeB at h3
 unfold maxData at h4
 by_cases hk : r.kind = 1
 ·rw [if_pos hk] at h3; simp at h3
  split at h4 <;> omega
 ·rw [if_neg hk] at h3; simp at h3
  split at h4 <;> omega

/-- A block without its sum. -/
def body (r : Rec) (at_ : Int) : List UInt8 := [lo r.kind, lo at_, lo r.key, hi r.ver, lo r.ver, lo (r.data.length : Int)] ++ (r.data ++ List.replicate (8 - r.data.length) 0)
/-- The block that tells r at a place. -/
def blk (r : Rec) (at_ : Int) : List UInt8 := sealed (body r at_)
theorem body_length (r : Rec) (at_ : Int) (h : r.data.length ≤ 8) : (body r at_).length = 14 := by simp [body]; omega
theorem blk_length (r : Rec) (at_ : Int) (h : r.data.length ≤ 8) : (blk r at_).length = 16 := by unfold blk; rw [sealed_length, body_length r at_ h]

/-- The byte at a place. -/
def at' (b : List UInt8) (i : Nat) : UInt8 := b.getD i 0
/-- The record that stands in a block. -/
def recOf (b : List UInt8) : Rec := ⟨((at' b 0).toNat : Int), ((at' b 2).toNat : Int), ((at' b 3).toNat : Int) * 256 + ((at' b 4).toNat : Int), (b.drop 6).take (at' b 5).toNat⟩
/-- What stands behind the data. -/
def restOf (b : List UInt8) : List UInt8 := (b.drop (6 + (at' b 5).toNat)).take (8 - (at' b 5).toNat)
def noughtsB (l : List UInt8) : Bool := l.all (· == 0)
/-- Why bytes are no block of a place. -/
def spoilt (b : List UInt8) (at_ : Int) : Int :=
 if b.length ≠ 16 then 2 else if sealedB b = false then 7 else if ((at' b 1).toNat : Int) ≠ at_ then 8 else if 8 < (at' b 5).toNat then 4 else if noughtsB (restOf b) = false then 2 else 0
def readE (b : List UInt8) (at_ : Int) : Int := if spoilt b at_ = 0 then wrong (recOf b) else spoilt b at_
def readR (b : List UInt8) (at_ : Int) : Rec := if readE b at_ = 0 then recOf b else Rec.none

end Go.Proofs.Ytgaecpdokgklpab.Plain
