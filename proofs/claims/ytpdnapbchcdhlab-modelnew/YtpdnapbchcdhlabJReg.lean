import Derived.Orders
import Derived.Below
set_option maxHeartbeats 8000000
namespace Go.Proofs.Ytpdnapbchcdhlab.Reg
set_option maxRecDepth 100000
open Go Go.RowKit
variable {P : Program} {R : Value → World → Prop} {a0 : Act} {ev : Operand → Value} {i n : Nat} {listed : Array Bool} {o : Oper} {ops : Array Oper} {phi : Nat → Value → World → Prop} {w : World} {x : Operand}
def Zi (w w' : World) : Prop := Below w.heap.size w w'
theorem Zi.refl (w : World) : Zi w w := Below.refl _ _
theorem Zi.trans {a b c : World} (h : Zi a b) (k : Zi b c) : Zi a c := Below.trans h (Below.mono k h.size)
theorem Zi.drew {a : World} (h : Zi a w) : Zi a w.drew := Below.drew h
def gv (ops : Array Oper) (a : Act) (j : Nat) : Value :=
 match (ops[j]?).bind (·.dst) with
 | some d => a.eval (.tmp d)
 | none => undef
def ext (ops : Array Oper) (i k : Nat) : Bool :=
 (List.range ops.size).all fun j => j == i || ((ops[j]?).bind (·.dst)) != some k || (((ops[j]?).map fun o => o.after.any fun e => e.on == i && Region.binds .any e).getD false)
def Xh (ops : Array Oper) (a : Act) (o : Oper) : Prop :=
 match o.guard with
 | none => True
 | some (j, b) => gv ops a j = .bool b
def upon (P : Program) (w : World) (R : Value → World → Prop) : Result Next → Prop
 | .ok (.value v) w' => Zi w w' ∧ R v w'
 | .ok .skip w' => Zi w w' ∧ R undef w'
 | .ok (.enter f args) w' => Zi w w' ∧ Calls P f args w' (fun e w'' => ∃ v, e = .returned v ∧ Zi w' w'' ∧ R v w'')
 | _ => False
def Ins (phi : Nat → Value → World → Prop) (ops : Array Oper) (a0 : Act) (i : Nat) (o : Oper) (a : Act) (w : World) : Prop :=
 (∀ e ∈ o.after.toList, Region.binds .any e = true → phi e.on (gv ops a e.on) w) ∧ (∀ k, ext ops i k = true → a.eval (.tmp k) = a0.eval (.tmp k))
def Vx (P : Program) (phi : Nat → Value → World → Prop) (ops : Array Oper) (a0 : Act) (w0 : World) (i : Nat) (o : Oper) : Prop :=
 ∀ a w, Zi w0 w → Ins phi ops a0 i o a w → (Xh ops a o → upon P w (phi i) ((execOp a.eval o).run P w)) ∧ (¬ Xh ops a o → phi i undef w)
def Ko (P : Program) (phi : Nat → Value → World → Prop) (ops : Array Oper) (a0 : Act) (w0 : World) : List Oper → Nat → Prop
 | [], _ => True
 | o :: l, i => Vx P phi ops a0 w0 i o ∧ Ko P phi ops a0 w0 l (i + 1)
def Z4 (vs : Nat → Value) : List Oper → Nat → Act → Act
 | [], _, a => a
 | o :: l, i, a => Z4 vs l (i + 1) (a.put o.dst (vs i))
def Vs (ops : Array Oper) (n : Nat) : Bool :=
 (List.range ops.size).all fun i =>
  ((ops[i]?).map fun o => o.after.all (fun e => decide (e.on < i) || !Region.binds .any e) && (match o.dst with
   | some d => decide (d < n) && (List.range ops.size).all fun j => j == i || ((ops[j]?).bind (·.dst)) != some d
   | none => true)).getD false
theorem Xs (b : Bool) : undef ≠ .bool b := by unfold undef; simp
theorem Va {a : Act} : Region.wanted o (yielded ops a.tmps) = true ↔ Xh ops a o := by
 unfold Region.wanted Xh;cases hg : o.guard with
 | none => simp
 | some p =>
  obtain ⟨j, b⟩ := p;simp only [gv, yielded];cases hd : (ops[j]?).bind (·.dst) with
  | none => simp only [Option.bind_none]; have := Xs b; simp [this]
  | some d =>
   simp only [Option.bind_some, Act.eval];cases ht : a.tmps[d]? with
   | none => have := Xs b; simp [ht, this]
   | some v => simp [ht]; cases v <;> simp
theorem Xt (a : Act) (x : Option Tmp) (v : Value) : (a.put x v).tmps.size = a.tmps.size := by cases x <;> simp [Act.put]
theorem evs (a : Act) : (∀ x, a.eval (.const x) = x) ∧ ∀ f, a.eval (.func f) = .func (.func f) #[] #[] := ⟨fun _ => rfl, fun _ => rfl⟩
theorem Qf (a : Act) (d : Nat) (v : Value) (h : d < a.tmps.size) : (a.put (some d) v).eval (.tmp d) = v := by simp [Act.put, Act.eval, h]
theorem X9 (a : Act) (x : Option Tmp) (k : Nat) (v : Value) (h : x ≠ some k) : (a.put x v).eval (.tmp k) = a.eval (.tmp k) :=
 Act.eval_put (fun d hd e => by cases e; exact h hd)
theorem Qt (h : Vs ops n = true) (hi : ops[i]? = some o) :
  (∀ e ∈ o.after.toList, Region.binds .any e = true → e.on < i) ∧ (∀ d, o.dst = some d → d < n ∧ ∀ j, j < ops.size → j ≠ i → (ops[j]?).bind (·.dst) ≠ some d) := by
 have hlt : i < ops.size := by
  rcases Nat.lt_or_ge i ops.size with h | h
  ·exact h
  ·simp [Array.getElem?_eq_none h] at hi
 unfold Vs at h;rw [List.all_eq_true] at h;have h1 := h i (by simpa using hlt);simp only [hi, Option.map_some, Option.getD_some, Bool.and_eq_true] at h1;obtain ⟨h2, h3⟩ := h1;refine ⟨fun e he hbd => ?_, fun d hd => ?_⟩
 ·have := (Array.all_eq_true_iff_forall_mem.1 h2) e (by simpa using he);simpa [hbd] using this
 ·simp only [hd, Bool.and_eq_true, decide_eq_true_eq, List.all_eq_true] at h3;refine ⟨h3.1, fun j hj hji => ?_⟩;have := h3.2 j (by simpa using hj);simpa [hji] using this
theorem Xn (l : Array Bool) (i j : Nat) (h : i < l.size) : (l.setIfInBounds i true).getD j false = if i = j then true else l.getD j false := by
 by_cases hij : i = j
 ·subst hij; simp [h]
 ·simp [hij, Array.getElem?_setIfInBounds_ne hij]
theorem Vd (h : i ∈ Region.ready .any ops listed) :
  ∃ o, ops[i]? = some o ∧ listed.getD i true = false ∧ ∀ e ∈ o.after.toList, Region.binds .any e = true → listed.getD e.on false = true := by
 unfold Region.ready at h;rw [List.mem_filter] at h;obtain ⟨h1, h2⟩ := h;simp only [Bool.and_eq_true, Bool.not_eq_true'] at h2;obtain ⟨h2, h3⟩ := h2;cases ho : ops[i]? with
 | none => simp [ho] at h3
 | some o =>
  refine ⟨o, rfl, h2, fun e he hb => ?_⟩;simp only [ho, Option.map_some, Option.getD_some] at h3;have := (Array.all_eq_true_iff_forall_mem.1 h3) e (by simpa using he);simpa [hb] using this
theorem Zad (hB : Vs ops n = true) (hs : listed.size = ops.size) (h : Region.ready .any ops listed = []) :
  ∀ i, i < ops.size → listed.getD i false = true := by
 intro i
 induction i using Nat.strongRecOn with
 | ind i ih =>
  intro hi;have ho : ops[i]? = some ops[i] := by simp [hi]
  obtain ⟨hb1, _⟩ := Qt hB ho;rcases hl : listed.getD i false with _ | _
  ·exfalso;have : i ∈ Region.ready .any ops listed := by
    unfold Region.ready;rw [List.mem_filter];refine ⟨by simpa using hi, ?_⟩;simp only [ho, Option.map_some, Option.getD_some, Bool.and_eq_true];refine ⟨?_, ?_⟩
    ·have : i < listed.size := by omega
     simp [this] at hl ⊢; exact hl
    ·rw [Array.all_eq_true_iff_forall_mem];intro e he;cases hbd : Region.binds .any e with
     | false => simp
     | true =>
      have h1 := hb1 e (by simpa using he) hbd;simp [ih e.on h1 (by omega)]
   rw [h] at this; simp at this
  ·rfl
def left (l : List Bool) : Nat := (l.filter (fun b => !b)).length
theorem K1 : ∀ (l : List Bool) (i : Nat), l[i]? = some false → left (l.set i true) + 1 = left l
 | [], _, h => by simp at h
 | b :: l, 0, h => by simp at h; subst h; simp [left]
 | b :: l, i + 1, h => by
  have := K1 l i (by simpa using h);simp only [List.set_cons_succ, left] at *;cases b <;> simp <;> omega
theorem V9 : ∀ (l : List Bool), left l = 0 → ∀ i, i < l.length → l[i]? = some true
 | [], _, i, h => by simp at h
 | b :: l, h, 0, _ => by cases b <;> simp [left] at h ⊢
 | b :: l, h, i + 1, hi => by
  have h' : left l = 0 := by cases b <;> simp_all [left]
  simpa using V9 l h' i (by simpa using hi)
theorem Q2 (vs : Nat → Value) : ∀ (l : List Oper) (i : Nat) (a : Act), (Z4 vs l i a).tmps.size = a.tmps.size ∧ (Z4 vs l i a).defers = a.defers
 | [], _, _ => ⟨rfl, rfl⟩
 | o :: l, i, a => by
  have := Q2 vs l (i + 1) (a.put o.dst (vs i));refine ⟨this.1.trans (Xt _ _ _), this.2.trans ?_⟩;cases o.dst <;> rfl
theorem Qu (vs : Nat → Value) (k : Nat) : ∀ (l : List Oper) (i : Nat) (a : Act), (∀ (j : Nat) (o : Oper), l[j]? = some o → o.dst ≠ some k) → (Z4 vs l i a).eval (.tmp k) = a.eval (.tmp k)
 | [], _, _, _ => rfl
 | o :: l, i, a, h => by
  show (Z4 vs l (i + 1) (a.put o.dst (vs i))).eval (.tmp k) = _;rw [Qu vs k l (i + 1) _ (fun j p hj => h (j + 1) p (by simpa using hj)), X9 _ _ _ _ (h 0 o (by simp))]
theorem V3 (vs : Nat → Value) (k : Nat) : ∀ (l : List Oper) (i : Nat) (a : Act) (j : Nat) (o : Oper), l[j]? = some o → o.dst = some k → k < a.tmps.size →
  (∀ j' o', l[j']? = some o' → j' ≠ j → o'.dst ≠ some k) → (Z4 vs l i a).eval (.tmp k) = vs (i + j)
 | [], _, _, _, _, h, _, _, _ => by simp at h
 | o' :: l, i, a, 0, o, h, hd, hk, hu => by
  simp at h; subst h;show (Z4 vs l (i + 1) (a.put o'.dst (vs i))).eval (.tmp k) = _;rw [Qu vs k l (i + 1) _ (fun j p hj => hu (j + 1) p (by simpa using hj) (by omega)), hd];exact Qf a k _ hk
 | o' :: l, i, a, j + 1, o, h, hd, hk, hu => by
  show (Z4 vs l (i + 1) (a.put o'.dst (vs i))).eval (.tmp k) = _;rw [V3 vs k l (i + 1) _ j o (by simpa using h) hd (by rw [Xt]; exact hk) (fun j' p hj hne => hu (j' + 1) p (by simpa using hj) (by omega))]
  congr 1; omega
theorem Zbv {a b : Act} (h1 : a.tmps.size = b.tmps.size) (h2 : a.defers = b.defers) (h3 : ∀ k, k < a.tmps.size → a.eval (.tmp k) = b.eval (.tmp k)) : a = b := by
 obtain ⟨ta, da⟩ := a;obtain ⟨tb, db⟩ := b;simp at h1 h2; subst h2
 congr 1
 refine Array.ext h1 fun k hk1 hk2 => ?_;have := h3 k (by simpa using hk1);simpa [Act.eval, hk1, hk2] using this
theorem Zbd {k : Nat} (h : ext ops i k = true) {j : Nat} (hj : ops[j]? = some o) (hd : o.dst = some k) (hne : j ≠ i) :
  ∃ e ∈ o.after.toList, e.on = i ∧ Region.binds .any e = true := by
 have hlt : j < ops.size := by
  rcases Nat.lt_or_ge j ops.size with h | h
  ·exact h
  ·simp [Array.getElem?_eq_none h] at hj
 unfold ext at h;rw [List.all_eq_true] at h;have := h j (by simpa using hlt);simp only [hj, Option.bind_some, hd, Option.map_some, Option.getD_some, Bool.or_eq_true, beq_iff_eq, bne_self_eq_false, Bool.false_eq_true, or_false] at this;rcases this with h1 | h1
 ·exact absurd h1 hne
 ·rw [← Array.any_toList, List.any_eq_true] at h1;obtain ⟨e, he, h2⟩ := h1;simp only [Bool.and_eq_true, beq_iff_eq] at h2;exact ⟨e, by simpa using he, h2.1, h2.2⟩
theorem Vj (n : Nat) : left (List.replicate n false) = n := by
 unfold left;rw [List.filter_eq_self.2 (fun b hb => by simp [List.eq_of_mem_replicate hb])];simp
def ex (x : Value) : Value → World → Prop := fun v _ => v = x
def Jv (p : Value → World → Prop) : Prop := ∀ v w w', Zi w w' → p v w → p v w'
theorem Zd (x : Value) : Jv (ex x) := fun _ _ _ _ h => h
def J3 (L : List (Value → World → Prop)) (i : Nat) : Value → World → Prop := L.getD i (fun _ _ => True)
def Zbj : List (Value → World → Prop) → Prop
 | [] => True
 | p :: L => Jv p ∧ Zbj L
def Kn (vs : Nat → Value) (w : World) : List (Value → World → Prop) → Nat → Prop
 | [], _ => True
 | p :: L, i => p (vs i) w ∧ Kn vs w L (i + 1)
def Zb7 (l : List Oper) : Bool := l.all fun o => o.dst.isSome
theorem Jm {P : Program} {phi : Nat → Value → World → Prop} {ops : Array Oper} {a0 : Act} {w0 : World} {i : Nat} (hg : o.guard = none)
  (h : ∀ a w, Zi w0 w → Ins phi ops a0 i o a w → upon P w (phi i) ((execOp a.eval o).run P w)) : Vx P phi ops a0 w0 i o :=
 fun a w hw hin => ⟨fun _ => h a w hw hin, fun hn => absurd (by unfold Xh; rw [hg]; trivial) hn⟩
theorem Za3 {P : Program} {phi : Nat → Value → World → Prop} {ops : Array Oper} {a0 : Act} {w0 : World} {i : Nat} (j : Nat) (b : Bool) (hg : o.guard = some (j, b))
  (hy : ∀ a w, Ins phi ops a0 i o a w → gv ops a j = .bool b)
  (h : ∀ a w, Zi w0 w → Ins phi ops a0 i o a w → upon P w (phi i) ((execOp a.eval o).run P w)) : Vx P phi ops a0 w0 i o :=
 fun a w hw hin => ⟨fun _ => h a w hw hin, fun hn => absurd (by unfold Xh; rw [hg]; exact hy a w hin) hn⟩
theorem Zbt {P : Program} {phi : Nat → Value → World → Prop} {ops : Array Oper} {a0 : Act} {w0 : World} {i : Nat} (j : Nat) (b c : Bool) (hg : o.guard = some (j, b)) (hbc : b ≠ c)
  (hy : ∀ a w, Ins phi ops a0 i o a w → gv ops a j = .bool c) (hu : ∀ w, phi i undef w) : Vx P phi ops a0 w0 i o :=
 fun a w hw hin => ⟨fun hn => by
  unfold Xh at hn; rw [hg] at hn;have h1 := hy a w hin;have h2 : gv ops a j = .bool b := hn;rw [h1] at h2;exact absurd (by cases h2; rfl) hbc, fun _ => hu w⟩
theorem Jl {P : Program} {phi : Nat → Value → World → Prop} {ops : Array Oper} {a0 : Act} {w0 : World} {i : Nat} (j : Nat) (b : Bool) (hg : o.guard = some (j, b))
  (hy : ∀ a w, Ins phi ops a0 i o a w → gv ops a j = undef) (hu : ∀ w, phi i undef w) : Vx P phi ops a0 w0 i o :=
 fun a w hw hin => ⟨fun hn => by
  unfold Xh at hn; rw [hg] at hn;have h1 := hy a w hin;have h2 : gv ops a j = .bool b := hn;rw [h1] at h2;exact absurd h2 (Xs b), fun _ => hu w⟩
theorem Jq {a : Act} (h : Ins phi ops a0 i o a w) (j : Nat)
  (hj : (o.after.any fun e => e.on == j && Region.binds .any e) = true) : phi j (gv ops a j) w := by
 rw [← Array.any_toList, List.any_eq_true] at hj;obtain ⟨e, he, h2⟩ := hj;simp only [Bool.and_eq_true, beq_iff_eq] at h2;obtain ⟨rfl, h3⟩ := h2;exact h.1 e he h3
theorem Zcf {a : Act} (h : Ins phi ops a0 i o a w) (k : Nat) (hk : ext ops i k = true) :
  a.eval (.tmp k) = a0.eval (.tmp k) := h.2 k hk
theorem Zj (ho : o.op = .move x) (h : R (ev x) w) : upon P w R ((execOp ev o).run P w) := by
 unfold execOp; rw [ho]; exact ⟨Zi.refl w, h⟩
theorem Yx (ho : o.op = .assign x) (h : R (ev x) w) : upon P w R ((execOp ev o).run P w) := by
 unfold execOp; rw [ho]; exact ⟨Zi.refl w, h⟩
theorem Z1 {c y : Operand} {b : Bool} (ho : o.op = .pick c x y) (hc : ev c = .bool b) (h : R (if b then ev x else ev y) w) : upon P w R ((execOp ev o).run P w) := by
 unfold execOp; rw [ho]; simp only [hc]; cases b <;> exact ⟨Zi.refl w, h⟩
theorem Zg {v : Value} (h : (execOp ev o).run P w = .ok (.value v) w) (hv : R v w) : upon P w R ((execOp ev o).run P w) := by
 rw [h]; exact ⟨Zi.refl w, hv⟩
theorem Z2 {R : Value → World → Prop} {f : FuncId} {args : Array Value} (h : (execOp ev o).run P w = .ok (.enter f args) w)
  (hc : Calls P f args w fun e w'' => ∃ v, e = .returned v ∧ Zi w w'' ∧ R v w'') : upon P w R ((execOp ev o).run P w) := by
 rw [h]; exact ⟨Zi.refl w, hc⟩
end Go.Proofs.Ytpdnapbchcdhlab.Reg
namespace Go.Proofs.Ytpdnapbchcdhlab.Plain
set_option maxRecDepth 100000
def hi (n : Int) : UInt8 := UInt8.ofNat ((n / 256) % 256).toNat
def lo (n : Int) : UInt8 := UInt8.ofNat (n % 256).toNat
end Go.Proofs.Ytpdnapbchcdhlab.Plain
namespace Go.Proofs.Ytpdnapbchcdhlab.Reg
set_option maxRecDepth 100000
open Go Go.RowKit
variable {J : World → Prop} {P : Program} {R : Value → World → Prop} {a a0 : Act} {ev : Operand → Value} {i : Nat} {o : Oper} {ops : Array Oper} {v : Value} {w : World} {x : Operand}
abbrev Pl := List Nat × (Value → List Value → World → Prop)
def pl (q : Value → World → Prop) : Pl := ([], fun v _ w => q v w)
def pl1 (d : Nat) (q : Value → Value → World → Prop) : Pl := ([d], fun v ds w => q v (ds.getD 0 undef) w)
def Yb (L : List Pl) (i : Nat) : Pl := L.getD i ([], fun _ _ _ => True)
def Za0 (L : List Pl) (i : Nat) (f : Nat → Value) (w : World) : Prop := (Yb L i).2 (f i) ((Yb L i).1.map f) w
def Xd (f : Nat → Value) (i : Nat) (v : Value) : Nat → Value := fun j => if j = i then v else f j
abbrev Y0 := World → World → Prop
def Y9 (T : List (Option Y0)) (j : Nat) : Y0 := match T.getD j none with
 | none => Zi
 | some s => s
def Xi (ops : Array Oper) (i j : Nat) : Bool := ((ops[i]?).map fun o => o.after.any fun e => e.on == j && Region.binds .any e).getD false
def Xw (P : Program) (s : Y0) (J : World → Prop) (w : World) (R : Value → World → Prop) : Result Next → Prop
 | .ok (.value v) w' => s w w' ∧ J w' ∧ R v w'
 | .ok .skip w' => s w w' ∧ J w' ∧ R undef w'
 | .ok (.enter f args) w' => Calls P f args w' (fun e w'' => ∃ v, e = .returned v ∧ s w w'' ∧ J w'' ∧ R v w'')
 | _ => False
def Jw (L : List Pl) (ops : Array Oper) (a0 : Act) (i : Nat) (o : Oper) (a : Act) (w : World) : Prop :=
 (∀ e ∈ o.after.toList, Region.binds .any e = true → Za0 L e.on (gv ops a) w) ∧ (∀ k, ext ops i k = true → a.eval (.tmp k) = a0.eval (.tmp k))
def Zcc (P : Program) (L : List Pl) (T : List (Option Y0)) (J : World → Prop) (ops : Array Oper) (a0 : Act) (i : Nat) (o : Oper) : Prop :=
 ∀ a w, J w → Jw L ops a0 i o a w → (Xh ops a o → Xw P (Y9 T i) J w (fun v w' => (Yb L i).2 v ((Yb L i).1.map (gv ops a)) w') ((execOp a.eval o).run P w)) ∧ (¬ Xh ops a o → (Yb L i).2 undef ((Yb L i).1.map (gv ops a)) w)
def Qq (P : Program) (L : List Pl) (T : List (Option Y0)) (J : World → Prop) (ops : Array Oper) (a0 : Act) : List Oper → Nat → Prop
 | [], _ => True
 | o :: l, i => Zcc P L T J ops a0 i o ∧ Qq P L T J ops a0 l (i + 1)
def K4 (L : List Pl) (ops : Array Oper) : Bool := (List.range ops.size).all fun i => (Yb L i).1.all fun d => Xi ops i d
theorem Zbf {L : List Pl} (h : K4 L ops = true) (hi : ops[i]? = some o) {d : Nat} (hd : d ∈ (Yb L i).1) : ∃ e ∈ o.after.toList, e.on = d ∧ Region.binds .any e = true := by
 have hlt : i < ops.size := by
  rcases Nat.lt_or_ge i ops.size with h | h
  ·exact h
  ·simp [Array.getElem?_eq_none h] at hi
 unfold K4 at h;rw [List.all_eq_true] at h;have h1 := h i (by simpa using hlt);rw [List.all_eq_true] at h1;have h2 := h1 d hd;simp only [Xi, hi, Option.map_some, Option.getD_some] at h2;rw [← Array.any_toList, List.any_eq_true] at h2;obtain ⟨e, he, h3⟩ := h2;simp only [Bool.and_eq_true, beq_iff_eq] at h3;exact ⟨e, he, h3.1, h3.2⟩
def Q8 (p : Pl) : Prop := ∀ v ds w w', Zi w w' → p.2 v ds w → p.2 v ds w'
def Qx : List Pl → Prop
 | [] => True
 | p :: L => Q8 p ∧ Qx L
def Xy (vs : Nat → Value) (w : World) : List Pl → Nat → Prop
 | [], _ => True
 | p :: L, i => p.2 (vs i) (p.1.map vs) w ∧ Xy vs w L (i + 1)
def Zbw (s : Y0) (ops : Array Oper) (j : Nat) : List Pl → Nat → Prop
 | [], _ => True
 | p :: L, i => ((i == j || Xi ops i j) = true ∨ ∀ v ds w w', s w w' → p.2 v ds w → p.2 v ds w') ∧ Zbw s ops j L (i + 1)
def Ke (L : List Pl) (ops : Array Oper) : List (Option Y0) → Nat → Prop
 | [], _ => True
 | none :: T, j => Ke L ops T (j + 1)
 | some s :: T, j => ((∀ w, s w w) ∧ Zbw s ops j L 0) ∧ Ke L ops T (j + 1)
def Qd : List Pl → List Oper → Prop
 | [], _ => True
 | _, [] => True
 | p :: L, o :: l => (o.dst = none → ∀ v ds w, p.2 v ds w → p.2 undef ds w) ∧ Qd L l
theorem Xb {q : Value → World → Prop} (h : Jv q) : Q8 (pl q) := fun v _ w w' hg hq => h v w w' hg hq
theorem Vz : ∀ (L : List Pl) (i : Nat), Qx L → Q8 (Yb L i)
 | [], i, _ => fun _ _ _ _ _ _ => by simp [Yb]
 | p :: L, 0, h => h.1
 | p :: L, i + 1, h => Vz L i h.2
theorem Jx {s : Y0} {j : Nat} : ∀ (L : List Pl) (k i : Nat), Zbw s ops j L k → k + i ≠ j → Xi ops (k + i) j = false → ∀ v ds w w', s w w' → (Yb L i).2 v ds w → (Yb L i).2 v ds w'
 | [], k, i, _, _, _ => fun _ _ _ _ _ _ => by simp [Yb]
 | p :: L, k, 0, h, hne, hw => by
  rcases h.1 with h1 | h1
  ·simp only [Bool.or_eq_true, beq_iff_eq] at h1;rcases h1 with h1 | h1
   ·exact absurd h1 hne
   ·rw [Nat.add_zero] at hw; rw [hw] at h1; cases h1
  ·exact h1
 | p :: L, k, i + 1, h, hne, hw => by
  have := Jx L (k + 1) i h.2 (by omega) (by rw [show k + 1 + i = k + (i + 1) from by omega]; exact hw);exact this
theorem Qj {L : List Pl} : ∀ (T : List (Option Y0)) (k j : Nat) (s : Y0), Ke L ops T k → T.getD j none = some s → (∀ w, s w w) ∧ Zbw s ops (k + j) L 0
 | [], k, j, s, _, h => by simp at h
 | none :: T, k, 0, s, _, h => by simp at h
 | some s' :: T, k, 0, s, h, hs => by simp at hs; subst hs; exact h.1
 | none :: T, k, j + 1, s, h, hs => by
  have := Qj T (k + 1) j s h (by simpa using hs)
  rwa [show k + 1 + j = k + (j + 1) from by omega] at this
 | some s' :: T, k, j + 1, s, h, hs => by
  have := Qj T (k + 1) j s h.2 (by simpa using hs)
  rwa [show k + 1 + j = k + (j + 1) from by omega] at this
theorem Ve : ∀ (L : List Pl) (l : List Oper) (i : Nat) (o : Oper), Qd L l → l[i]? = some o → o.dst = none → ∀ v ds w, (Yb L i).2 v ds w → (Yb L i).2 undef ds w
 | [], _, i, _, _, _, _ => fun _ _ _ _ => by simp [Yb]
 | _ :: _, [], i, _, _, h, _ => by simp at h
 | p :: L, o' :: l, 0, o, h, ho, hd => by simp at ho; subst ho; exact h.1 hd
 | p :: L, o' :: l, i + 1, o, h, ho, hd => Ve L l i o h.2 (by simpa using ho) hd
theorem Qy (vs : Nat → Value) (w : World) : ∀ (L : List Pl) (k : Nat), (∀ i, i < L.length → (Yb L i).2 (vs (k + i)) ((Yb L i).1.map vs) w) → Xy vs w L k
 | [], _, _ => trivial
 | p :: L, k, h => ⟨h 0 (by simp), Qy vs w L (k + 1) (fun i hi => by
   have := h (i + 1) (by simpa using hi);rw [show k + (i + 1) = k + 1 + i from by omega] at this;exact this)⟩
theorem Zce {L : List Pl} (h : Jw L ops a0 i o a w) (j : Nat)
  (hj : (o.after.any fun e => e.on == j && Region.binds .any e) = true) : (Yb L j).2 (gv ops a j) ((Yb L j).1.map (gv ops a)) w := by
 rw [← Array.any_toList, List.any_eq_true] at hj;obtain ⟨e, he, h2⟩ := hj;simp only [Bool.and_eq_true, beq_iff_eq] at h2;obtain ⟨rfl, h3⟩ := h2;exact h.1 e he h3
theorem Zb9 {L : List Pl} (h : Jw L ops a0 i o a w) (k : Nat) (hk : ext ops i k = true) :
  a.eval (.tmp k) = a0.eval (.tmp k) := h.2 k hk
theorem Jc (ho : o.op = .move x) (hJ : J w) (h : R (ev x) w) : Xw P Zi J w R ((execOp ev o).run P w) := by
 unfold execOp; rw [ho]; exact ⟨Zi.refl w, hJ, h⟩
theorem Kg (ho : o.op = .assign x) (hJ : J w) (h : R (ev x) w) : Xw P Zi J w R ((execOp ev o).run P w) := by
 unfold execOp; rw [ho]; exact ⟨Zi.refl w, hJ, h⟩
theorem J8 (h : (execOp ev o).run P w = .ok (.value v) w) (hJ : J w) (hv : R v w) : Xw P Zi J w R ((execOp ev o).run P w) := by
 rw [h]; exact ⟨Zi.refl w, hJ, hv⟩
theorem Jb {s : Y0} {w' : World} (h : (execOp ev o).run P w = .ok (.value v) w') (hs : s w w') (hJ : J w') (hv : R v w') : Xw P s J w R ((execOp ev o).run P w) := by
 rw [h]; exact ⟨hs, hJ, hv⟩
theorem Xj {s : Y0} {J : World → Prop} {R : Value → World → Prop} {f : FuncId} {args : Array Value} (h : (execOp ev o).run P w = .ok (.enter f args) w)
  (hc : Calls P f args w fun e w'' => ∃ v, e = .returned v ∧ s w w'' ∧ J w'' ∧ R v w'') : Xw P s J w R ((execOp ev o).run P w) := by
 rw [h]; exact hc
end Go.Proofs.Ytpdnapbchcdhlab.Reg
namespace Go.Proofs.Ytpdnapbchcdhlab.Reg
set_option maxRecDepth 100000
open Go Go.RowKit
variable {dn : Nat → Bool} {i : Nat} {ops : Array Oper}
def upd (dn : Nat → Bool) (i : Nat) : Nat → Bool := fun j => if j = i then true else dn j
structure Qo (ops : Array Oper) (i : Nat) (dn : Nat → Bool) : Prop where
 un : dn i = false
 rd : ∀ j, Xi ops i j = true → dn j = true
 cl : ∀ j k, Xi ops j k = true → dn j = true → dn k = true
theorem Qo.not1 (h : Qo ops i dn) (j : Nat) (hj : Xi ops j i = true) : dn j = false := by
 cases hd : dn j with
 | false => rfl
 | true => have := h.cl j i hj hd; rw [h.un] at this; cases this
theorem Qo.notBy (h : Qo ops i dn) (j k : Nat) (hk : dn k = false) (hj : Xi ops j k = true) : dn j = false := by
 cases hd : dn j with
 | false => rfl
 | true => have := h.cl j k hj hd; rw [hk] at this; cases this
theorem Jd {listed : Array Bool} (h : i < listed.size) : (fun j => (listed.setIfInBounds i true).getD j false) = upd (fun j => listed.getD j false) i := by
 funext j
 show (listed.setIfInBounds i true).getD j false = _;rw [Xn _ _ _ h];unfold upd;by_cases hij : i = j
 ·subst hij; simp
 ·rw [if_neg hij, if_neg (fun e => hij e.symm)]
def Zcd (P : Program) (L : List Pl) (T : List (Option Y0)) (J : (Nat → Bool) → World → Prop) (ops : Array Oper) (a0 : Act) (i : Nat) (o : Oper) : Prop :=
 ∀ a w dn, Qo ops i dn → J dn w → Jw L ops a0 i o a w → (Xh ops a o → Xw P (Y9 T i) (J (upd dn i)) w (fun v w' => (Yb L i).2 v ((Yb L i).1.map (gv ops a)) w') ((execOp a.eval o).run P w)) ∧ (¬ Xh ops a o → J (upd dn i) w ∧ (Yb L i).2 undef ((Yb L i).1.map (gv ops a)) w)
def Qr (P : Program) (L : List Pl) (T : List (Option Y0)) (J : (Nat → Bool) → World → Prop) (ops : Array Oper) (a0 : Act) : List Oper → Nat → Prop
 | [], _ => True
 | o :: l, i => Zcd P L T J ops a0 i o ∧ Qr P L T J ops a0 l (i + 1)
end Go.Proofs.Ytpdnapbchcdhlab.Reg
namespace Go.Proofs.Ytpdnapbchcdhlab.Reg
set_option maxRecDepth 100000
open Go Go.RowKit
variable {P : Program} {R : Value → World → Prop} {a0 : Act} {ev : Operand → Value} {o : Oper} {ops : Array Oper} {v : Value} {w w' w0 : World} {x : Operand}
def dv (o : Oper) (v : Value) : Value := match o.dst with
 | none => undef
 | some _ => v
abbrev Vb (P : Program) (s : Y0) (w : World) (J R : Value → World → Prop) : Result Next → Prop := Xw P s (fun _ => True) w (fun v w' => J v w' ∧ R v w')
def K6 (P : Program) (L : List Pl) (T : List (Option Y0)) (J : (Nat → Bool) → (Nat → Value) → World → Prop) (ops : Array Oper) (a0 : Act) (i : Nat) (o : Oper) : Prop :=
 ∀ a w dn, Qo ops i dn → J dn (gv ops a) w → Jw L ops a0 i o a w → (Xh ops a o → Vb P (Y9 T i) w (fun v w' => J (upd dn i) (Xd (gv ops a) i (dv o v)) w') (fun v w' => (Yb L i).2 v ((Yb L i).1.map (gv ops a)) w') ((execOp a.eval o).run P w)) ∧ (¬ Xh ops a o → J (upd dn i) (Xd (gv ops a) i undef) w ∧ (Yb L i).2 undef ((Yb L i).1.map (gv ops a)) w)
def Qp (P : Program) (L : List Pl) (T : List (Option Y0)) (J : (Nat → Bool) → (Nat → Value) → World → Prop) (ops : Array Oper) (a0 : Act) : List Oper → Nat → Prop
 | [], _ => True
 | o :: l, i => K6 P L T J ops a0 i o ∧ Qp P L T J ops a0 l (i + 1)
theorem Q3 {P : Program} {L : List Pl} {T : List (Option Y0)} {J : (Nat → Bool) → (Nat → Value) → World → Prop} {ops : Array Oper} {a0 : Act} :
  ∀ (l : List Oper) (i j : Nat) (o : Oper), Qp P L T J ops a0 l i → l[j]? = some o → K6 P L T J ops a0 (i + j) o
 | [], _, _, _, _, h => by simp at h
 | o' :: l, i, 0, o, h, hj => by simp at hj; subst hj; exact h.1
 | o' :: l, i, j + 1, o, h, hj => by
  have := Q3 l (i + 1) j o h.2 (by simpa using hj)
  rwa [show i + 1 + j = i + (j + 1) from by omega] at this
structure Zbl (L : List Pl) (J : (Nat → Bool) → (Nat → Value) → World → Prop) (ops : Array Oper) (a0 : Act) (listed : Array Bool) (a : Act) (w : World) : Prop where
 lsize : listed.size = ops.size
 keep : J (fun j => listed.getD j false) (gv ops a) w
 tsize : a.tmps.size = a0.tmps.size
 defers : a.defers = a0.defers
 told : ∀ i o, ops[i]? = some o → listed.getD i false = true → Za0 L i (gv ops a) w
 kept : ∀ k, (∀ i o, ops[i]? = some o → listed.getD i false = true → o.dst ≠ some k) → a.eval (.tmp k) = a0.eval (.tmp k)
 closed : ∀ i o, ops[i]? = some o → listed.getD i false = true → ∀ e ∈ o.after.toList, Region.binds .any e = true → listed.getD e.on false = true
theorem Vk {L : List Pl} {T : List (Option Y0)} {J : (Nat → Bool) → (Nat → Value) → World → Prop} {ops : Array Oper} {a0 : Act} {listed : Array Bool} {a : Act} {w w' : World} {i : Nat} {o : Oper} {v : Value}
  (hst : ∀ i j v ds w w', i ≠ j → Xi ops i j = false → Y9 T j w w' → (Yb L i).2 v ds w → (Yb L i).2 v ds w') (hD : K4 L ops = true) (hB : Vs ops a0.tmps.size = true) (hi : ops[i]? = some o) (I : Zbl L J ops a0 listed a w)
  (hun : listed.getD i false = false)
  (hafter : ∀ e ∈ o.after.toList, Region.binds .any e = true → listed.getD e.on false = true) (hg : Y9 T i w w') (hJ : J (upd (fun j => listed.getD j false) i) (Xd (gv ops a) i v) w') (hv : (Yb L i).2 v ((Yb L i).1.map (gv ops a)) w') (hnone : o.dst = none → v = undef) :
  Zbl L J ops a0 (listed.setIfInBounds i true) (a.put o.dst v) w' := by
 have hlt : i < ops.size := by
  rcases Nat.lt_or_ge i ops.size with h | h
  ·exact h
  ·simp [Array.getElem?_eq_none h] at hi
 have hll : i < listed.size := by rw [I.lsize]; exact hlt
 obtain ⟨hb1, hb2⟩ := Qt hB hi;have hsame : ∀ j, j ≠ i → gv ops (a.put o.dst v) j = gv ops a j := by
  intro j hji;by_cases hjlt : j < ops.size
  ·unfold gv;cases hd : (ops[j]?).bind (·.dst) with
   | none => rfl
   | some d =>
    refine X9 a o.dst d v fun e => ?_;exact (hb2 d e).2 j hjlt hji hd
  ·unfold gv; rw [Array.getElem?_eq_none (by omega)]; rfl
 have hown : gv ops (a.put o.dst v) i = v := by
  unfold gv;simp only [hi, Option.bind_some];cases hd : o.dst with
  | none => simp [hnone hd]
  | some d => exact Qf a d v (by rw [I.tsize]; exact (hb2 d hd).1)
 have hset : gv ops (a.put o.dst v) = Xd (gv ops a) i v := by
  funext j
  unfold Xd;by_cases hji : j = i
  ·rw [if_pos hji, hji]; exact hown
  ·rw [if_neg hji]; exact hsame j hji
 refine ⟨by simp [I.lsize], by rw [Jd hll, hset]; exact hJ, by rw [Xt]; exact I.tsize, ?_, ?_, ?_, ?_⟩
 ·rw [← I.defers]; cases o.dst <;> rfl
 ·intro j p hj hl;rw [Xn _ _ _ hll] at hl;have hmap : ∀ k pk, ops[k]? = some pk → (k = i ∨ listed.getD k false = true) → (Yb L k).1.map (gv ops (a.put o.dst v)) = (Yb L k).1.map (gv ops a) := by
   intro k pk hk hor;refine List.map_congr_left (fun d hd => hsame d ?_);obtain ⟨e, he, hed, hbd⟩ := Zbf hD hk hd;intro hdi;rcases hor with rfl | hkl
   ·have h5 := hafter e (by rw [hi] at hk; cases hk; exact he) hbd;rw [hed, hdi, hun] at h5; cases h5
   ·have h5 := I.closed k pk hk hkl e he hbd;rw [hed, hdi, hun] at h5; cases h5
  by_cases hij : i = j
  ·subst hij;show (Yb L i).2 _ _ w';rw [hown, hmap i p hj (.inl rfl)];exact hv
  ·rw [if_neg hij] at hl;show (Yb L j).2 _ _ w';rw [hsame j (fun e => hij e.symm), hmap j p hj (.inr hl)];refine hst j i _ _ w w' (fun e => hij e.symm) ?_ hg (I.told j p hj hl);cases hw : Xi ops j i with
   | false => rfl
   | true =>
    exfalso;simp only [Xi, hj, Option.map_some, Option.getD_some] at hw;rw [← Array.any_toList, List.any_eq_true] at hw;obtain ⟨e, he, h3⟩ := hw;simp only [Bool.and_eq_true, beq_iff_eq] at h3;have h5 := I.closed j p hj hl e he h3.2;rw [h3.1, hun] at h5; cases h5
 ·intro k hk;have h1 : o.dst ≠ some k := hk i o hi (by rw [Xn _ _ _ hll]; simp);rw [X9 a o.dst k v h1];refine I.kept k (fun j p hj hl => hk j p hj ?_);rw [Xn _ _ _ hll]; split
  ·rfl
  ·exact hl
 ·intro j p hj hl e he hb;rw [Xn _ _ _ hll];split
  ·rfl
  ·rw [Xn _ _ _ hll] at hl;by_cases hij : i = j
   ·subst hij;have : p = o := by rw [hi] at hj; exact (Option.some.inj hj).symm
    subst this;exact hafter e he hb
   ·rw [if_neg hij] at hl;exact I.closed j p hj hl e he hb
theorem Za7 {L : List Pl} {J : (Nat → Bool) → (Nat → Value) → World → Prop} {ops : Array Oper} {a0 : Act} {listed : Array Bool} {a : Act} {w : World}
  (hB : Vs ops a0.tmps.size = true) (I : Zbl L J ops a0 listed a w) :
  a = Z4 (gv ops a) ops.toList 0 a0 := by
 have hp := Q2 (gv ops a) ops.toList 0 a0;refine Zbv (I.tsize.trans hp.1.symm) (I.defers.trans hp.2.symm) fun k hk => ?_;by_cases hex : ∃ j : Nat, ∃ o : Oper, ops[j]? = some o ∧ o.dst = some k
 ·obtain ⟨j, o, hj, hd⟩ := hex;obtain ⟨_, hb2⟩ := Qt hB hj;rw [V3 (gv ops a) k ops.toList 0 a0 j o (by simpa using hj) hd (by rw [← I.tsize]; exact hk) ?_]
  ·simp only [Nat.zero_add, gv, hj, Option.bind_some, hd]
  ·intro j' o' hj' hne e;have hj'' : ops[j']? = some o' := by simpa using hj'
   have hlt : j' < ops.size := by
    rcases Nat.lt_or_ge j' ops.size with h | h
    ·exact h
    ·simp [Array.getElem?_eq_none h] at hj''
   exact (hb2 k hd).2 j' hlt hne (by simp [hj'', e])
 ·rw [Qu (gv ops a) k ops.toList 0 a0 (fun j o hj e => hex ⟨j, o, by simpa using hj, e⟩)];exact I.kept k (fun j o hj _ e => hex ⟨j, o, hj, e⟩)
theorem Ja {P : Program} {L : List Pl} {T : List (Option Y0)} {J : (Nat → Bool) → (Nat → Value) → World → Prop} {ops : Array Oper} {a0 : Act} {Q : Exit → Act → World → Prop}
  (hB : Vs ops a0.tmps.size = true) (hD : K4 L ops = true)
  (hst : ∀ i j v ds w w', i ≠ j → Xi ops i j = false → Y9 T j w w' → (Yb L i).2 v ds w → (Yb L i).2 v ds w') (hidle : ∀ j w, Y9 T j w w)
  (hop : ∀ i o, ops[i]? = some o → K6 P L T J ops a0 i o)
  (hnone : ∀ i o, ops[i]? = some o → o.dst = none → ∀ v ds w, (Yb L i).2 v ds w → (Yb L i).2 undef ds w)
  (hQ : ∀ vs w dn, (∀ i, i < ops.size → dn i = true) → J dn vs w → (∀ i, i < ops.size → Za0 L i vs w) → Q .normal (Z4 vs ops.toList 0 a0) w) :
  ∀ (fuel : Nat) (listed : Array Bool) (a : Act) (w : World), left listed.toList = fuel → Zbl L J ops a0 listed a w → wpAny P .any ops Q fuel listed a w := by
 have hend : ∀ (listed : Array Bool) (a : Act) (w : World), Zbl L J ops a0 listed a w → Region.ready .any ops listed = [] → Q .normal a w := by
  intro listed a w I hr;have hall := Zad hB I.lsize hr;have he := Za7 hB I;rw [he];refine hQ _ w _ hall I.keep fun i hi => ?_;exact I.told i ops[i] (by simp [hi]) (hall i hi)
 intro fuel
 induction fuel with
 | zero =>
  intro listed a w hl I;have hr : Region.ready .any ops listed = [] := by
   cases hrr : Region.ready .any ops listed with
   | nil => rfl
   | cons i l =>
    exfalso;obtain ⟨o, ho, h1, _⟩ := Vd (ops := ops) (listed := listed) (i := i) (by rw [hrr]; simp);have hlt : i < ops.size := by
     rcases Nat.lt_or_ge i ops.size with h | h
     ·exact h
     ·simp [Array.getElem?_eq_none h] at ho
    have := V9 listed.toList hl i (by simpa [I.lsize] using hlt);simp at this;simp [this] at h1
  exact ⟨hr, hend listed a w I hr⟩
 | succ fuel ih =>
  intro listed a w hl I;refine ⟨hend listed a w I, fun i hi => ?_⟩;obtain ⟨o, ho, h1, h2⟩ := Vd hi;have hlt : i < ops.size := by
   rcases Nat.lt_or_ge i ops.size with h | h
   ·exact h
   ·simp [Array.getElem?_eq_none h] at ho
  have hli : listed[i]? = some false := by
   have h3 : i < listed.size := by rw [I.lsize]; exact hlt
   simp [h3] at h1 ⊢; exact h1
  have hun : listed.getD i false = false := by
   have h3 : i < listed.size := by rw [I.lsize]; exact hlt
   simp [h3] at hli ⊢; exact hli
  have hleft : left (listed.setIfInBounds i true).toList = fuel := by
   have := K1 listed.toList i (by simpa using hli);simp only [Array.toList_setIfInBounds]; omega
  have hins : Jw L ops a0 i o a w := by
   refine ⟨fun e he hb => ?_, fun k hk => ?_⟩
   ·have h3 := h2 e he hb;have h4 : e.on < ops.size := by
     rcases Nat.lt_or_ge e.on ops.size with h | h
     ·exact h
     ·have h5 : listed.size ≤ e.on := by rw [I.lsize]; exact h
      simp [Array.getD_eq_getD_getElem?, Array.getElem?_eq_none h5] at h3
    exact I.told e.on ops[e.on] (by simp [h4]) h3
   ·refine I.kept k fun j p hj hl2 hd => ?_;have hji : j ≠ i := fun e => by subst e; rw [hun] at hl2; cases hl2
    obtain ⟨e, he, he1, he2⟩ := Zbd hk hj hd hji;have h5 := I.closed j p hj hl2 e he he2;rw [he1, hun] at h5; cases h5
  have hrd : Qo ops i (fun j => listed.getD j false) := by
   refine ⟨hun, fun j hj => ?_, fun j k hjk hj => ?_⟩
   ·simp only [Xi, ho, Option.map_some, Option.getD_some] at hj;rw [← Array.any_toList, List.any_eq_true] at hj;obtain ⟨e, he, h3⟩ := hj;simp only [Bool.and_eq_true, beq_iff_eq] at h3;rw [← h3.1]; exact h2 e he h3.2
   ·cases hoj : ops[j]? with
    | none => simp [Xi, hoj] at hjk
    | some p =>
     simp only [Xi, hoj, Option.map_some, Option.getD_some] at hjk;rw [← Array.any_toList, List.any_eq_true] at hjk;obtain ⟨e, he, h3⟩ := hjk;simp only [Bool.and_eq_true, beq_iff_eq] at h3;rw [← h3.1]; exact I.closed j p hoj hj e he h3.2
  obtain ⟨n1, n2⟩ := hop i o ho a w _ hrd I.keep hins;unfold wpOp;simp only [ho];by_cases hw : Region.wanted o (yielded ops a.tmps) = true
  ·simp only [hw, if_true];refine .inl ?_;have hu := n1 (Va.1 hw);unfold Oper.wp;generalize (execOp a.eval o).run P w = r at *;have fin : ∀ v w', Y9 T i w w' → J (upd (fun j => listed.getD j false) i) (Xd (gv ops a) i (dv o v)) w' → (Yb L i).2 v ((Yb L i).1.map (gv ops a)) w' → wpAny P .any ops Q fuel (listed.setIfInBounds i true) (a.put o.dst v) w' := by
    intro v w' hg hJ hv;cases hd : o.dst with
    | none =>
     have hv' := hnone i o ho hd v _ w' hv;rw [show dv o v = undef from by simp [dv, hd]] at hJ;have := Vk (v := undef) hst hD hB ho I hun h2 hg hJ hv' (fun _ => rfl);rw [hd] at this;exact ih _ _ _ hleft this
    | some d =>
     rw [show dv o v = v from by simp [dv, hd]] at hJ;have := Vk (v := v) hst hD hB ho I hun h2 hg hJ hv (fun e => by rw [hd] at e; cases e);rw [hd] at this;exact ih _ _ _ hleft this
   cases r with
   | ok n w' =>
    cases n <;> simp only [Xw] at hu <;> simp only [Oper.upon]
    case value v => exact fin v w' hu.1 hu.2.2.1 hu.2.2.2
    case skip => exact fin undef w' hu.1 hu.2.2.1 hu.2.2.2
    case enter f args =>
     refine hu.mono fun e w'' he => ?_;obtain ⟨v, rfl, hg, -, hJ, hv⟩ := he;exact fin v w'' hg hJ hv
   | halt x w' => simp only [Xw] at hu
  ·simp only [hw];have hu := n2 (fun h => hw (Va.2 h));have := Vk (v := undef) hst hD hB ho I hun h2 (hidle i w) hu.1 hu.2 (fun _ => rfl);exact ih _ _ _ hleft this
theorem Yw {P : Program} {id : Nat} {l : List Oper} {a0 : Act} {w0 : World} {Q : Exit → Act → World → Prop} (L : List Pl) (T : List (Option Y0)) (J : (Nat → Bool) → (Nat → Value) → World → Prop)
  (hm : P.follows .mixedOrders = true) (hB : (Vs l.toArray a0.tmps.size && K4 L l.toArray && (L.length == l.length)) = true) (hst : Qx L) (hsp : Ke L l.toArray T 0) (hnn : Qd L l)
  (hJ : ∀ f, J (fun _ => false) f w0.drew) (hop : Qp P L T J l.toArray a0 l 0)
  (hQ : ∀ vs w dn, (∀ i, i < l.length → dn i = true) → J dn vs w → Xy vs w L 0 → Q .normal (Z4 vs l 0 a0) w) : (Code.region id l.toArray true).wp P Q a0 w0 := by
 simp only [Bool.and_eq_true, beq_iff_eq] at hB;obtain ⟨⟨h1, h2⟩, h3⟩ := hB;refine wp_region_any hm (Ja (L := L) (T := T) (J := J) h1 h2 (fun i j v ds w w' hne hwt hs hp => ?_) (fun j w => ?_) (fun i o hi => ?_) (fun i o hi hd => Ve L l i o hnn (by simpa using hi) hd) (fun vs w dn hdn hj ht => ?_) _ _ _ _ ?_ ?_)
 ·unfold Y9 at hs;cases ht : T.getD j none with
  | none => rw [ht] at hs; exact Vz L i hst v ds w w' hs hp
  | some s =>
   rw [ht] at hs;have h4 := (Qj T 0 j s hsp ht).2;rw [Nat.zero_add] at h4;have h5 := Jx L 0 i h4 (by rw [Nat.zero_add]; exact hne) (by rw [Nat.zero_add]; exact hwt);exact h5 v ds w w' hs hp
 ·unfold Y9;cases ht : T.getD j none with
  | none => exact Zi.refl w
  | some s => exact (Qj T 0 j s hsp ht).1 w
 ·have := Q3 l 0 i o hop (by simpa using hi);simpa using this
 ·have h6 := hQ vs w dn (fun i hi => hdn i (by simpa using hi)) hj (Qy vs w L 0 (fun i hi => by
   rw [Nat.zero_add];exact ht i (by rw [h3] at hi; simpa using hi)))
  simpa using h6
 ·simp only [Array.toList_replicate];exact Vj _
 ·refine ⟨by simp, by rw [show (fun j => (Array.replicate l.toArray.size false).getD j false) = fun _ => false from funext fun j => by by_cases h : j < l.length <;> simp [h]]; exact hJ _, rfl, rfl, fun i o hi hl => ?_, fun _ _ => rfl, fun i o hi hl => ?_⟩
  ·exfalso;by_cases h : i < l.length <;> simp [h] at hl
  ·exfalso;by_cases h : i < l.length <;> simp [h] at hl
theorem Zbq {s : Y0} {J : World → Prop} : ∀ {r : Result Next}, Xw P s J w R r → Xw P s (fun _ => True) w (fun v w' => J w' ∧ R v w') r
 | .ok (.value _) _, h => ⟨h.1, trivial, h.2⟩
 | .ok .skip _, h => ⟨h.1, trivial, h.2⟩
 | .ok (.enter _ _) _, h => Calls.mono h fun _ _ ⟨v, h1, h2, h3, h4⟩ => ⟨v, h1, h2, trivial, h3, h4⟩
 | .halt _ _, h => h
theorem Vh {L : List Pl} {T : List (Option Y0)} {J : (Nat → Bool) → World → Prop} : ∀ (l : List Oper) (i : Nat), Qr P L T J ops a0 l i → Qp P L T (fun dn _ w => J dn w) ops a0 l i
 | [], _, _ => trivial
 | _ :: l, i, h => ⟨fun a w dn hr hw hin => ⟨fun hh => Zbq ((h.1 a w dn hr hw hin).1 hh), (h.1 a w dn hr hw hin).2⟩, Vh l (i + 1) h.2⟩
theorem Kq {P : Program} {id : Nat} {l : List Oper} {a0 : Act} {w0 : World} {Q : Exit → Act → World → Prop} (L : List Pl) (T : List (Option Y0)) (J : (Nat → Bool) → World → Prop)
  (hm : P.follows .mixedOrders = true) (hB : (Vs l.toArray a0.tmps.size && K4 L l.toArray && (L.length == l.length)) = true) (hst : Qx L) (hsp : Ke L l.toArray T 0) (hnn : Qd L l)
  (hJ : J (fun _ => false) w0.drew) (hop : Qr P L T J l.toArray a0 l 0)
  (hQ : ∀ vs w dn, (∀ i, i < l.length → dn i = true) → J dn w → Xy vs w L 0 → Q .normal (Z4 vs l 0 a0) w) : (Code.region id l.toArray true).wp P Q a0 w0 :=
 Yw L T (fun dn _ w => J dn w) hm hB hst hsp hnn (fun _ => hJ) (Vh l 0 hop) hQ
theorem Vg {L : List Pl} {T : List (Option Y0)} {J : World → Prop} : ∀ (l : List Oper) (i : Nat), Qq P L T J ops a0 l i → Qr P L T (fun _ w => J w) ops a0 l i
 | [], _, _ => trivial
 | _ :: l, i, h => ⟨fun a w _ _ hw hin => ⟨(h.1 a w hw hin).1, fun hn => ⟨hw, (h.1 a w hw hin).2 hn⟩⟩, Vg l (i + 1) h.2⟩
theorem Kp {P : Program} {id : Nat} {l : List Oper} {a0 : Act} {w0 : World} {Q : Exit → Act → World → Prop} (L : List Pl) (T : List (Option Y0)) (J : World → Prop)
  (hm : P.follows .mixedOrders = true) (hB : (Vs l.toArray a0.tmps.size && K4 L l.toArray && (L.length == l.length)) = true) (hst : Qx L) (hsp : Ke L l.toArray T 0) (hnn : Qd L l)
  (hJ : J w0.drew) (hop : Qq P L T J l.toArray a0 l 0)
  (hQ : ∀ vs w, J w → Xy vs w L 0 → Q .normal (Z4 vs l 0 a0) w) : (Code.region id l.toArray true).wp P Q a0 w0 :=
 Kq L T (fun _ w => J w) hm hB hst hsp hnn hJ (Vg l 0 hop) fun vs w _ _ hj ht => hQ vs w hj ht
theorem J2 : ∀ (L : List (Value → World → Prop)) (i : Nat), Yb (L.map pl) i = pl (J3 L i)
 | [], _ => by simp [Yb, J3, pl]
 | _ :: _, 0 => rfl
 | _ :: L, i + 1 => J2 L i
theorem Jz {vs : Nat → Value} : ∀ (L : List (Value → World → Prop)) (i : Nat), Xy vs w (L.map pl) i → Kn vs w L i
 | [], _, _ => trivial
 | _ :: L, i, h => ⟨h.1, Jz L (i + 1) h.2⟩
theorem J0 : ∀ (L : List (Value → World → Prop)), Zbj L → Qx (L.map pl)
 | [], _ => trivial
 | _ :: L, h => ⟨Xb h.1, J0 L h.2⟩
theorem J1 : ∀ (L : List (Value → World → Prop)) (l : List Oper), Zb7 l = true → Qd (L.map pl) l
 | [], _, _ => trivial
 | _ :: _, [], _ => trivial
 | _ :: L, o :: l, h => by
  unfold Zb7 at h;simp only [List.all_cons, Bool.and_eq_true] at h;exact ⟨fun hn => (by rw [hn] at h; exact absurd h.1 (by simp)), J1 L l h.2⟩
theorem Zb0 (hw : Zi w0 w) : ∀ {r : Result Next}, upon P w R r → Xw P Zi (Zi w0) w R r
 | .ok (.value _) _, h => ⟨h.1, hw.trans h.1, h.2⟩
 | .ok .skip _, h => ⟨h.1, hw.trans h.1, h.2⟩
 | .ok (.enter _ _) _, h => h.2.mono fun _ _ ⟨v, h1, h2, h3⟩ => ⟨v, h1, h.1.trans h2, hw.trans (h.1.trans h2), h3⟩
 | .halt _ _, h => h
theorem V6 {L : List (Value → World → Prop)} : ∀ (l : List Oper) (i : Nat), Ko P (J3 L) ops a0 w0 l i → Qq P (L.map pl) [] (Zi w0) ops a0 l i
 | [], _, _ => trivial
 | _ :: l, i, h => ⟨fun a w hw hin => by
  have h1 := h.1 a w hw ⟨fun e he hb => by
   have h2 := hin.1 e he hb;unfold Za0 at h2;rw [J2] at h2;exact h2, hin.2⟩
  rw [J2];exact ⟨fun hh => Zb0 hw (h1.1 hh), h1.2⟩, V6 l (i + 1) h.2⟩
theorem Zw {P : Program} {id : Nat} {l : List Oper} {a0 : Act} {w0 : World} {Q : Exit → Act → World → Prop} (L : List (Value → World → Prop))
  (hm : P.follows .mixedOrders = true) (hB : (Vs l.toArray a0.tmps.size && Zb7 l && (L.length == l.length)) = true) (hst : Zbj L)
  (hop : Ko P (J3 L) l.toArray a0 w0 l 0)
  (hQ : ∀ vs w, Zi w0 w → Kn vs w L 0 → Q .normal (Z4 vs l 0 a0) w) : (Code.region id l.toArray true).wp P Q a0 w0 := by
 simp only [Bool.and_eq_true, beq_iff_eq] at hB;refine Kp (L.map pl) [] (Zi w0) hm ?_ (J0 L hst) trivial (J1 L l hB.1.2) (Zi.refl _).drew (V6 l 0 hop) fun vs w hg ht => hQ vs w hg (Jz L 0 ht)
 simp only [Bool.and_eq_true, beq_iff_eq, List.length_map];exact ⟨⟨hB.1.1, by unfold K4; simp [J2, pl]⟩, hB.2⟩
theorem Ky {P : Program} {L : List Pl} {T : List (Option Y0)} {J : (Nat → Bool) → (Nat → Value) → World → Prop} {ops : Array Oper} {a0 : Act} {i : Nat} (hg : o.guard = none)
  (h : ∀ a w dn, Qo ops i dn → J dn (gv ops a) w → Jw L ops a0 i o a w → Vb P (Y9 T i) w (fun v w' => J (upd dn i) (Xd (gv ops a) i (dv o v)) w') (fun v w' => (Yb L i).2 v ((Yb L i).1.map (gv ops a)) w') ((execOp a.eval o).run P w)) : K6 P L T J ops a0 i o :=
 fun a w dn hr hw hin => ⟨fun _ => h a w dn hr hw hin, fun hn => absurd (by unfold Xh; rw [hg]; trivial) hn⟩
theorem Zz {J : Value → World → Prop} (ho : o.op = .move x) (hJ : J (ev x) w) (h : R (ev x) w) : Vb P Zi w J R ((execOp ev o).run P w) := Jc ho trivial ⟨hJ, h⟩
theorem Z0 {J : Value → World → Prop} (ho : o.op = .assign x) (hJ : J (ev x) w) (h : R (ev x) w) : Vb P Zi w J R ((execOp ev o).run P w) := Kg ho trivial ⟨hJ, h⟩
theorem Yi {J : Value → World → Prop} (h : (execOp ev o).run P w = .ok (.value v) w) (hJ : J v w) (hv : R v w) : Vb P Zi w J R ((execOp ev o).run P w) := J8 h trivial ⟨hJ, hv⟩
theorem Yh {s : Y0} {J : Value → World → Prop} (h : (execOp ev o).run P w = .ok (.value v) w') (hs : s w w') (hJ : J v w') (hv : R v w') : Vb P s w J R ((execOp ev o).run P w) := Jb h hs trivial ⟨hJ, hv⟩
end Go.Proofs.Ytpdnapbchcdhlab.Reg
namespace Go.Proofs.Ytpdnapbchcdhlab.Plain
set_option maxRecDepth 100000
structure Rec where
 kind : Int
 key : Int
 ver : Int
 data : List UInt8
def Ye (a b : Rec) : Bool := a.kind == b.kind && a.key == b.key && a.ver == b.ver && a.data == b.data
theorem J9 (a b : Rec) : Ye a b = true ↔ a = b := by
 obtain ⟨a1, a2, a3, a4⟩ := a;obtain ⟨b1, b2, b3, b4⟩ := b;simp [Ye, and_assoc]
theorem X0 (a : Rec) : Ye a a = true := (J9 a a).2 rfl
def Ya (r : Rec) : Bool := if r.kind = 1 then decide (r.key = 0 ∧ r.ver = 0) else decide (1 ≤ r.key ∧ r.key ≤ 255 ∧ 1 ≤ r.ver ∧ r.ver ≤ 60000)
def Yn (k : Int) : Int := if k = 2 then 8 else 0
def Yd (r : Rec) : Int :=
 if r.kind < 1 ∨ 3 < r.kind then 1 else if Ya r = false then 3 else if Yn r.kind < (r.data.length : Int) then 4 else 0
theorem K9 (r : Rec) : Yd r = 0 ↔ (1 ≤ r.kind ∧ r.kind ≤ 3 ∧ Ya r = true ∧ (r.data.length : Int) ≤ Yn r.kind) := by
 unfold Yd;by_cases h1 : r.kind < 1 ∨ 3 < r.kind
 ·rw [if_pos h1]; constructor
  ·intro h; omega
  ·rintro ⟨h2, h3, _⟩; omega
 ·rw [if_neg h1];by_cases h2 : Ya r = false
  ·rw [if_pos h2]; constructor
   ·intro h; omega
   ·rintro ⟨_, _, h3, _⟩; rw [h2] at h3; cases h3
  ·rw [if_neg h2];have h2' : Ya r = true := by simpa using h2
   by_cases h3 : Yn r.kind < (r.data.length : Int)
   ·rw [if_pos h3]; constructor
    ·intro h; omega
    ·rintro ⟨_, _, _, h4⟩; omega
   ·rw [if_neg h3]; constructor
    ·intro _; exact ⟨by omega, by omega, h2', by omega⟩
    ·intro _; rfl
theorem Zay {r : Rec} (h : Yd r = 0) : 1 ≤ r.kind ∧ r.kind ≤ 3 ∧ 0 ≤ r.key ∧ r.key ≤ 255 ∧ 0 ≤ r.ver ∧ r.ver ≤ 60000 ∧ r.data.length ≤ 8 := by
 obtain ⟨h1, h2, h3, h4⟩ := (K9 r).1 h;unfold Ya at h3;unfold Yn at h4;by_cases hk : r.kind = 1
 ·rw [if_pos hk] at h3; simp at h3;split at h4 <;> omega
 ·rw [if_neg hk] at h3; simp at h3;split at h4 <;> omega
end Go.Proofs.Ytpdnapbchcdhlab.Plain
namespace Go.Proofs.Ytpdnapbchcdhlab.Reg
open Go Go.RowKit
variable {x : Value}
def gvE (ops : Array Oper) (a : Operand → Value) (j : Nat) : Value :=
  match (ops[j]?).bind (·.dst) with
  | some d => a (.tmp d)
  | none => undef
def Zbu (ops : Array Oper) (i k : Nat) : Bool :=
  (List.range ops.size).all fun j => j == i || ((ops[j]?).bind (·.dst)) != some k || (((ops[j]?).map fun o => o.after.toList.any fun e => e.on == i && Region.binds .any e).getD false)
theorem J7 (ops : Array Oper) (i k : Nat) : Zbu ops i k = ext ops i k := by
  unfold Zbu ext;simp only [Array.any_toList]
variable {P : Program} {phi : Nat → Value → World → Prop} {L : List Pl} {T : List (Option Y0)} {ops : Array Oper} {a0 : Act} {w0 w : World} {i : Nat} {o : Oper} {a : Operand → Value}
def Zbm (phi : Nat → Value → World → Prop) (ops : Array Oper) (a0 : Act) (i : Nat) (o : Oper) (a : Operand → Value) (w : World) : Prop := (∀ e ∈ o.after.toList, Region.binds .any e = true → phi e.on (gvE ops a e.on) w) ∧ (∀ k, ext ops i k = true → a (.tmp k) = a0.eval (.tmp k))
def Zb8 (L : List Pl) (ops : Array Oper) (a0 : Act) (i : Nat) (o : Oper) (a : Operand → Value) (w : World) : Prop := (∀ e ∈ o.after.toList, Region.binds .any e = true → Za0 L e.on (gvE ops a) w) ∧ (∀ k, ext ops i k = true → a (.tmp k) = a0.eval (.tmp k))
theorem Za (hg : o.guard = none) (h : ∀ a w, (∀ x, a (.const x) = x) → (∀ f, a (.func f) = .func (.func f) #[] #[]) → Zi w0 w → Zbm phi ops a0 i o a w → upon P w (phi i) ((execOp a o).run P w)) : Vx P phi ops a0 w0 i o :=
  Jm hg fun a w hw hin => h a.eval w (fun _ => rfl) (fun _ => rfl) hw hin
theorem Zaj (j : Nat) (b : Bool) (hg : o.guard = some (j, b)) (hy : ∀ a w, Ins phi ops a0 i o a w → gv ops a j = .bool b) (h : ∀ a w, (∀ x, a (.const x) = x) → (∀ f, a (.func f) = .func (.func f) #[] #[]) → Zi w0 w → Zbm phi ops a0 i o a w → upon P w (phi i) ((execOp a o).run P w)) : Vx P phi ops a0 w0 i o :=
  Za3 j b hg hy fun a w hw hin => h a.eval w (fun _ => rfl) (fun _ => rfl) hw hin
theorem Zc {J : (Nat → Bool) → (Nat → Value) → World → Prop} (hg : o.guard = none) (h : ∀ a w, (∀ x, a (.const x) = x) → (∀ f, a (.func f) = .func (.func f) #[] #[]) → ∀ dn, Qo ops i dn → J dn (gvE ops a) w → Zb8 L ops a0 i o a w → Vb P (Y9 T i) w (fun v w' => J (upd dn i) (Xd (gvE ops a) i (dv o v)) w') (fun v w' => (Yb L i).2 v ((Yb L i).1.map (gvE ops a)) w') ((execOp a o).run P w)) : K6 P L T J ops a0 i o :=
  Ky hg fun a w dn hr hw hin => h a.eval w (fun _ => rfl) (fun _ => rfl) dn hr hw hin
theorem Zbg {j : Nat} (hj : (o.after.toList.any fun e => e.on == j && Region.binds .any e) = true) : ∃ e ∈ o.after.toList, e.on = j ∧ Region.binds .any e = true := by
  rw [List.any_eq_true] at hj;obtain ⟨e, he, h2⟩ := hj;simp only [Bool.and_eq_true, beq_iff_eq] at h2;exact ⟨e, he, h2⟩
theorem Zb (h : Zbm phi ops a0 i o a w) (j : Nat) (hj : (o.after.toList.any fun e => e.on == j && Region.binds .any e) = true) : phi j (gvE ops a j) w := by
  obtain ⟨e, he, rfl, h3⟩ := Zbg hj;exact h.1 e he h3
theorem Zk (h : Zbm phi ops a0 i o a w) (k : Nat) (hk : Zbu ops i k = true) : a (.tmp k) = a0.eval (.tmp k) := h.2 k (by rw [← J7]; exact hk)
theorem Zm (h : Zb8 L ops a0 i o a w) (j : Nat) (hj : (o.after.toList.any fun e => e.on == j && Region.binds .any e) = true) : (Yb L j).2 (gvE ops a j) ((Yb L j).1.map (gvE ops a)) w := by
  obtain ⟨e, he, rfl, h3⟩ := Zbg hj;exact h.1 e he h3
theorem Zx (h : Zb8 L ops a0 i o a w) (k : Nat) (hk : Zbu ops i k = true) : a (.tmp k) = a0.eval (.tmp k) := h.2 k (by rw [← J7]; exact hk)
abbrev px (x : Value) : Pl := pl (ex x)
theorem se : Q8 (px x) := Xb (Zd x)
theorem x5 {c : Prop} {s : Y0} : c ∨ ∀ v ds w w', s w w' → (px x).2 v ds w → (px x).2 v ds w' := .inr fun _ _ _ _ _ h => h
theorem n5 {d : Nat} {q : Prop} (h : some d = none) : q := by cases h
end Go.Proofs.Ytpdnapbchcdhlab.Reg
namespace Go.Proofs.Ytpdnapbchcdhlab.Reg
open Go Go.RowKit
variable {P : Program} {a0 : Act} {i : Nat} {o : Oper} {ops : Array Oper} {phi : Nat → Value → World → Prop} {w0 : World}
theorem Z9 (j : Nat) (b : Bool) (hg : o.guard = some (j, b)) (hj : (o.after.toList.any fun e => e.on == j && Region.binds .any e) = true) (hp : phi j = ex (.bool !b)) (hu : ∀ w, phi i undef w) : Vx P phi ops a0 w0 i o :=
  Zbt j b (!b) hg (by cases b <;> decide) (fun _ w hin => (congrFun (congrFun hp _) w).mp (Jq hin j (by rw [← Array.any_toList]; exact hj))) hu
theorem Zh (j : Nat) (b : Bool) (hg : o.guard = some (j, b)) (hj : (o.after.toList.any fun e => e.on == j && Region.binds .any e) = true) (hp : phi j = ex (.bool b)) (h : ∀ a w, (∀ x, a (.const x) = x) → (∀ f, a (.func f) = .func (.func f) #[] #[]) → Zi w0 w → Zbm phi ops a0 i o a w → upon P w (phi i) ((execOp a o).run P w)) : Vx P phi ops a0 w0 i o :=
  Zaj j b hg (fun _ w hin => (congrFun (congrFun hp _) w).mp (Jq hin j (by rw [← Array.any_toList]; exact hj))) h
theorem Yj (j : Nat) (b : Bool) (hg : o.guard = some (j, b)) (hj : (o.after.toList.any fun e => e.on == j && Region.binds .any e) = true) (hp : phi j = ex undef) (hu : ∀ w, phi i undef w) : Vx P phi ops a0 w0 i o :=
  Jl j b hg (fun _ w hin => (congrFun (congrFun hp _) w).mp (Jq hin j (by rw [← Array.any_toList]; exact hj))) hu
end Go.Proofs.Ytpdnapbchcdhlab.Reg
