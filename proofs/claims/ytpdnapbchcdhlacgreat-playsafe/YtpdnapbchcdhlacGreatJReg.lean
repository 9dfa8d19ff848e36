import Derived.Orders
import Derived.Below
set_option maxHeartbeats 8000000
namespace Go.Proofs.YtpdnapbchcdhlacGreat.Reg
set_option maxRecDepth 100000
open Go Go.RowKit
variable {P : Program} {R : Value → World → Prop} {a0 : Act} {ev : Operand → Value} {i n : Nat} {listed : Array Bool} {o : Oper} {ops : Array Oper} {phi : Nat → Value → World → Prop} {w : World} {x : Operand}
def Zn (w w' : World) : Prop := Below w.heap.size w w'
theorem Zn.refl (w : World) : Zn w w := Below.refl _ _
theorem Zn.trans {a b c : World} (h : Zn a b) (k : Zn b c) : Zn a c := Below.trans h (Below.mono k h.size)
theorem Zn.drew {a : World} (h : Zn a w) : Zn a w.drew := Below.drew h
def gv (ops : Array Oper) (a : Act) (j : Nat) : Value :=
 match (ops[j]?).bind (·.dst) with
 | some d => a.eval (.tmp d)
 | none => undef
def ext (ops : Array Oper) (i k : Nat) : Bool :=
 (List.range ops.size).all fun j => j == i || ((ops[j]?).bind (·.dst)) != some k || (((ops[j]?).map fun o => o.after.any fun e => e.on == i && Region.binds .any e).getD false)
def Kp (ops : Array Oper) (a : Act) (o : Oper) : Prop :=
 match o.guard with
 | none => True
 | some (j, b) => gv ops a j = .bool b
def upon (P : Program) (w : World) (R : Value → World → Prop) : Result Next → Prop
 | .ok (.value v) w' => Zn w w' ∧ R v w'
 | .ok .skip w' => Zn w w' ∧ R undef w'
 | .ok (.enter f args) w' => Zn w w' ∧ Calls P f args w' (fun e w'' => ∃ v, e = .returned v ∧ Zn w' w'' ∧ R v w'')
 | _ => False
def Ins (phi : Nat → Value → World → Prop) (ops : Array Oper) (a0 : Act) (i : Nat) (o : Oper) (a : Act) (w : World) : Prop :=
 (∀ e ∈ o.after.toList, Region.binds .any e = true → phi e.on (gv ops a e.on) w) ∧ (∀ k, ext ops i k = true → a.eval (.tmp k) = a0.eval (.tmp k))
def Zhk (P : Program) (phi : Nat → Value → World → Prop) (ops : Array Oper) (a0 : Act) (w0 : World) (i : Nat) (o : Oper) : Prop :=
 ∀ a w, Zn w0 w → Ins phi ops a0 i o a w → (Kp ops a o → upon P w (phi i) ((execOp a.eval o).run P w)) ∧ (¬ Kp ops a o → phi i undef w)
def Zjj (P : Program) (phi : Nat → Value → World → Prop) (ops : Array Oper) (a0 : Act) (w0 : World) : List Oper → Nat → Prop
 | [], _ => True
 | o :: l, i => Zhk P phi ops a0 w0 i o ∧ Zjj P phi ops a0 w0 l (i + 1)
def Yi (vs : Nat → Value) : List Oper → Nat → Act → Act
 | [], _, a => a
 | o :: l, i, a => Yi vs l (i + 1) (a.put o.dst (vs i))
def Zhc (ops : Array Oper) (n : Nat) : Bool :=
 (List.range ops.size).all fun i =>
  ((ops[i]?).map fun o => o.after.all (fun e => decide (e.on < i) || !Region.binds .any e) && (match o.dst with
   | some d => decide (d < n) && (List.range ops.size).all fun j => j == i || ((ops[j]?).bind (·.dst)) != some d
   | none => true)).getD false
theorem J4 (b : Bool) : undef ≠ .bool b := by unfold undef; simp
theorem Zfe {a : Act} : Region.wanted o (yielded ops a.tmps) = true ↔ Kp ops a o := by
 unfold Region.wanted Kp;cases hg : o.guard with
 | none => simp
 | some p =>
  obtain ⟨j, b⟩ := p;simp only [gv, yielded];cases hd : (ops[j]?).bind (·.dst) with
  | none => simp only [Option.bind_none]; have := J4 b; simp [this]
  | some d =>
   simp only [Option.bind_some, Act.eval];cases ht : a.tmps[d]? with
   | none => have := J4 b; simp [ht, this]
   | some v => simp [ht]; cases v <;> simp
theorem J6 (a : Act) (x : Option Tmp) (v : Value) : (a.put x v).tmps.size = a.tmps.size := by cases x <;> simp [Act.put]
theorem evs (a : Act) : (∀ x, a.eval (.const x) = x) ∧ ∀ f, a.eval (.func f) = .func (.func f) #[] #[] := ⟨fun _ => rfl, fun _ => rfl⟩
theorem Zcp (a : Act) (d : Nat) (v : Value) (h : d < a.tmps.size) : (a.put (some d) v).eval (.tmp d) = v := by simp [Act.put, Act.eval, h]
theorem Zbw (a : Act) (x : Option Tmp) (k : Nat) (v : Value) (h : x ≠ some k) : (a.put x v).eval (.tmp k) = a.eval (.tmp k) :=
 Act.eval_put (fun d hd e => by cases e; exact h hd)
theorem Zd1 (h : Zhc ops n = true) (hi : ops[i]? = some o) :
  (∀ e ∈ o.after.toList, Region.binds .any e = true → e.on < i) ∧ (∀ d, o.dst = some d → d < n ∧ ∀ j, j < ops.size → j ≠ i → (ops[j]?).bind (·.dst) ≠ some d) := by
 have hlt : i < ops.size := by
  rcases Nat.lt_or_ge i ops.size with h | h
  ·exact h
  ·simp [Array.getElem?_eq_none h] at hi
 unfold Zhc at h;rw [List.all_eq_true] at h;have h1 := h i (by simpa using hlt);simp only [hi, Option.map_some, Option.getD_some, Bool.and_eq_true] at h1;obtain ⟨h2, h3⟩ := h1;refine ⟨fun e he hbd => ?_, fun d hd => ?_⟩
 ·have := (Array.all_eq_true_iff_forall_mem.1 h2) e (by simpa using he);simpa [hbd] using this
 ·simp only [hd, Bool.and_eq_true, decide_eq_true_eq, List.all_eq_true] at h3;refine ⟨h3.1, fun j hj hji => ?_⟩;have := h3.2 j (by simpa using hj);simpa [hji] using this
theorem Q8 (l : Array Bool) (i j : Nat) (h : i < l.size) : (l.setIfInBounds i true).getD j false = if i = j then true else l.getD j false := by
 by_cases hij : i = j
 ·subst hij; simp [h]
 ·simp [hij, Array.getElem?_setIfInBounds_ne hij]
theorem Zfv (h : i ∈ Region.ready .any ops listed) :
  ∃ o, ops[i]? = some o ∧ listed.getD i true = false ∧ ∀ e ∈ o.after.toList, Region.binds .any e = true → listed.getD e.on false = true := by
 unfold Region.ready at h;rw [List.mem_filter] at h;obtain ⟨h1, h2⟩ := h;simp only [Bool.and_eq_true, Bool.not_eq_true'] at h2;obtain ⟨h2, h3⟩ := h2;cases ho : ops[i]? with
 | none => simp [ho] at h3
 | some o =>
  refine ⟨o, rfl, h2, fun e he hb => ?_⟩;simp only [ho, Option.map_some, Option.getD_some] at h3;have := (Array.all_eq_true_iff_forall_mem.1 h3) e (by simpa using he);simpa [hb] using this
theorem Zpy (hB : Zhc ops n = true) (hs : listed.size = ops.size) (h : Region.ready .any ops listed = []) :
  ∀ i, i < ops.size → listed.getD i false = true := by
 intro i
 induction i using Nat.strongRecOn with
 | ind i ih =>
  intro hi;have ho : ops[i]? = some ops[i] := by simp [hi]
  obtain ⟨hb1, _⟩ := Zd1 hB ho;rcases hl : listed.getD i false with _ | _
  ·exfalso;have : i ∈ Region.ready .any ops listed := by
    unfold Region.ready;rw [List.mem_filter];refine ⟨by simpa using hi, ?_⟩;simp only [ho, Option.map_some, Option.getD_some, Bool.and_eq_true];refine ⟨?_, ?_⟩
    ·have : i < listed.size := by omega
     simp [this] at hl ⊢; exact hl
    ·rw [Array.all_eq_true_iff_forall_mem];intro e he;cases hbd : Region.binds .any e with
     | false => simp
     | true =>
      have h1 := hb1 e (by simpa using he) hbd;simp [ih e.on h1 (by omega)]
   rw [h] at this; simp at this
  ·rfl
def left (l : List Bool) : Nat := (l.filter (fun b => !b)).length
theorem Zky : ∀ (l : List Bool) (i : Nat), l[i]? = some false → left (l.set i true) + 1 = left l
 | [], _, h => by simp at h
 | b :: l, 0, h => by simp at h; subst h; simp [left]
 | b :: l, i + 1, h => by
  have := Zky l i (by simpa using h);simp only [List.set_cons_succ, left] at *;cases b <;> simp <;> omega
theorem Zh4 : ∀ (l : List Bool), left l = 0 → ∀ i, i < l.length → l[i]? = some true
 | [], _, i, h => by simp at h
 | b :: l, h, 0, _ => by cases b <;> simp [left] at h ⊢
 | b :: l, h, i + 1, hi => by
  have h' : left l = 0 := by cases b <;> simp_all [left]
  simpa using Zh4 l h' i (by simpa using hi)
theorem Zes (vs : Nat → Value) : ∀ (l : List Oper) (i : Nat) (a : Act), (Yi vs l i a).tmps.size = a.tmps.size ∧ (Yi vs l i a).defers = a.defers
 | [], _, _ => ⟨rfl, rfl⟩
 | o :: l, i, a => by
  have := Zes vs l (i + 1) (a.put o.dst (vs i));refine ⟨this.1.trans (J6 _ _ _), this.2.trans ?_⟩;cases o.dst <;> rfl
theorem Zd3 (vs : Nat → Value) (k : Nat) : ∀ (l : List Oper) (i : Nat) (a : Act), (∀ (j : Nat) (o : Oper), l[j]? = some o → o.dst ≠ some k) → (Yi vs l i a).eval (.tmp k) = a.eval (.tmp k)
 | [], _, _, _ => rfl
 | o :: l, i, a, h => by
  show (Yi vs l (i + 1) (a.put o.dst (vs i))).eval (.tmp k) = _;rw [Zd3 vs k l (i + 1) _ (fun j p hj => h (j + 1) p (by simpa using hj)), Zbw _ _ _ _ (h 0 o (by simp))]
theorem Zhw (vs : Nat → Value) (k : Nat) : ∀ (l : List Oper) (i : Nat) (a : Act) (j : Nat) (o : Oper), l[j]? = some o → o.dst = some k → k < a.tmps.size →
  (∀ j' o', l[j']? = some o' → j' ≠ j → o'.dst ≠ some k) → (Yi vs l i a).eval (.tmp k) = vs (i + j)
 | [], _, _, _, _, h, _, _, _ => by simp at h
 | o' :: l, i, a, 0, o, h, hd, hk, hu => by
  simp at h; subst h;show (Yi vs l (i + 1) (a.put o'.dst (vs i))).eval (.tmp k) = _;rw [Zd3 vs k l (i + 1) _ (fun j p hj => hu (j + 1) p (by simpa using hj) (by omega)), hd];exact Zcp a k _ hk
 | o' :: l, i, a, j + 1, o, h, hd, hk, hu => by
  show (Yi vs l (i + 1) (a.put o'.dst (vs i))).eval (.tmp k) = _;rw [Zhw vs k l (i + 1) _ j o (by simpa using h) hd (by rw [J6]; exact hk) (fun j' p hj hne => hu (j' + 1) p (by simpa using hj) (by omega))]
  congr 1; omega
theorem Zwo {a b : Act} (h1 : a.tmps.size = b.tmps.size) (h2 : a.defers = b.defers) (h3 : ∀ k, k < a.tmps.size → a.eval (.tmp k) = b.eval (.tmp k)) : a = b := by
 obtain ⟨ta, da⟩ := a;obtain ⟨tb, db⟩ := b;simp at h1 h2; subst h2
 congr 1
 refine Array.ext h1 fun k hk1 hk2 => ?_;have := h3 k (by simpa using hk1);simpa [Act.eval, hk1, hk2] using this
theorem Ztz {k : Nat} (h : ext ops i k = true) {j : Nat} (hj : ops[j]? = some o) (hd : o.dst = some k) (hne : j ≠ i) :
  ∃ e ∈ o.after.toList, e.on = i ∧ Region.binds .any e = true := by
 have hlt : j < ops.size := by
  rcases Nat.lt_or_ge j ops.size with h | h
  ·exact h
  ·simp [Array.getElem?_eq_none h] at hj
 unfold ext at h;rw [List.all_eq_true] at h;have := h j (by simpa using hlt);simp only [hj, Option.bind_some, hd, Option.map_some, Option.getD_some, Bool.or_eq_true, beq_iff_eq, bne_self_eq_false, Bool.false_eq_true, or_false] at this;rcases this with h1 | h1
 ·exact absurd h1 hne
 ·rw [← Array.any_toList, List.any_eq_true] at h1;obtain ⟨e, he, h2⟩ := h1;simp only [Bool.and_eq_true, beq_iff_eq] at h2;exact ⟨e, by simpa using he, h2.1, h2.2⟩
theorem Zgg (n : Nat) : left (List.replicate n false) = n := by
 unfold left;rw [List.filter_eq_self.2 (fun b hb => by simp [List.eq_of_mem_replicate hb])];simp
def ex (x : Value) : Value → World → Prop := fun v _ => v = x
def Xv (p : Value → World → Prop) : Prop := ∀ v w w', Zn w w' → p v w → p v w'
theorem Zm (x : Value) : Xv (ex x) := fun _ _ _ _ h => h
def Zoz (L : List (Value → World → Prop)) (i : Nat) : Value → World → Prop := L.getD i (fun _ _ => True)
def Zue : List (Value → World → Prop) → Prop
 | [] => True
 | p :: L => Xv p ∧ Zue L
def Zjg (vs : Nat → Value) (w : World) : List (Value → World → Prop) → Nat → Prop
 | [], _ => True
 | p :: L, i => p (vs i) w ∧ Zjg vs w L (i + 1)
def Zxy (l : List Oper) : Bool := l.all fun o => o.dst.isSome
theorem Zna {P : Program} {phi : Nat → Value → World → Prop} {ops : Array Oper} {a0 : Act} {w0 : World} {i : Nat} (hg : o.guard = none)
  (h : ∀ a w, Zn w0 w → Ins phi ops a0 i o a w → upon P w (phi i) ((execOp a.eval o).run P w)) : Zhk P phi ops a0 w0 i o :=
 fun a w hw hin => ⟨fun _ => h a w hw hin, fun hn => absurd (by unfold Kp; rw [hg]; trivial) hn⟩
theorem Zte {P : Program} {phi : Nat → Value → World → Prop} {ops : Array Oper} {a0 : Act} {w0 : World} {i : Nat} (j : Nat) (b : Bool) (hg : o.guard = some (j, b))
  (hy : ∀ a w, Ins phi ops a0 i o a w → gv ops a j = .bool b)
  (h : ∀ a w, Zn w0 w → Ins phi ops a0 i o a w → upon P w (phi i) ((execOp a.eval o).run P w)) : Zhk P phi ops a0 w0 i o :=
 fun a w hw hin => ⟨fun _ => h a w hw hin, fun hn => absurd (by unfold Kp; rw [hg]; exact hy a w hin) hn⟩
theorem Zv1 {P : Program} {phi : Nat → Value → World → Prop} {ops : Array Oper} {a0 : Act} {w0 : World} {i : Nat} (j : Nat) (b c : Bool) (hg : o.guard = some (j, b)) (hbc : b ≠ c)
  (hy : ∀ a w, Ins phi ops a0 i o a w → gv ops a j = .bool c) (hu : ∀ w, phi i undef w) : Zhk P phi ops a0 w0 i o :=
 fun a w hw hin => ⟨fun hn => by
  unfold Kp at hn; rw [hg] at hn;have h1 := hy a w hin;have h2 : gv ops a j = .bool b := hn;rw [h1] at h2;exact absurd (by cases h2; rfl) hbc, fun _ => hu w⟩
theorem Zm9 {P : Program} {phi : Nat → Value → World → Prop} {ops : Array Oper} {a0 : Act} {w0 : World} {i : Nat} (j : Nat) (b : Bool) (hg : o.guard = some (j, b))
  (hy : ∀ a w, Ins phi ops a0 i o a w → gv ops a j = undef) (hu : ∀ w, phi i undef w) : Zhk P phi ops a0 w0 i o :=
 fun a w hw hin => ⟨fun hn => by
  unfold Kp at hn; rw [hg] at hn;have h1 := hy a w hin;have h2 : gv ops a j = .bool b := hn;rw [h1] at h2;exact absurd h2 (J4 b), fun _ => hu w⟩
theorem Znj {a : Act} (h : Ins phi ops a0 i o a w) (j : Nat)
  (hj : (o.after.any fun e => e.on == j && Region.binds .any e) = true) : phi j (gv ops a j) w := by
 rw [← Array.any_toList, List.any_eq_true] at hj;obtain ⟨e, he, h2⟩ := hj;simp only [Bool.and_eq_true, beq_iff_eq] at h2;obtain ⟨rfl, h3⟩ := h2;exact h.1 e he h3
theorem Zyy {a : Act} (h : Ins phi ops a0 i o a w) (k : Nat) (hk : ext ops i k = true) :
  a.eval (.tmp k) = a0.eval (.tmp k) := h.2 k hk
theorem Zy (ho : o.op = .move x) (h : R (ev x) w) : upon P w R ((execOp ev o).run P w) := by
 unfold execOp; rw [ho]; exact ⟨Zn.refl w, h⟩
theorem Yy (ho : o.op = .assign x) (h : R (ev x) w) : upon P w R ((execOp ev o).run P w) := by
 unfold execOp; rw [ho]; exact ⟨Zn.refl w, h⟩
theorem Xx {c y : Operand} {b : Bool} (ho : o.op = .pick c x y) (hc : ev c = .bool b) (h : R (if b then ev x else ev y) w) : upon P w R ((execOp ev o).run P w) := by
 unfold execOp; rw [ho]; simp only [hc]; cases b <;> exact ⟨Zn.refl w, h⟩
theorem Zq {v : Value} (h : (execOp ev o).run P w = .ok (.value v) w) (hv : R v w) : upon P w R ((execOp ev o).run P w) := by
 rw [h]; exact ⟨Zn.refl w, hv⟩
theorem Xa {R : Value → World → Prop} {f : FuncId} {args : Array Value} (h : (execOp ev o).run P w = .ok (.enter f args) w)
  (hc : Calls P f args w fun e w'' => ∃ v, e = .returned v ∧ Zn w w'' ∧ R v w'') : upon P w R ((execOp ev o).run P w) := by
 rw [h]; exact ⟨Zn.refl w, hc⟩
end Go.Proofs.YtpdnapbchcdhlacGreat.Reg
namespace Go.Proofs.YtpdnapbchcdhlacGreat.Plain
set_option maxRecDepth 100000
def next (s : Int) (c : UInt8) : Int := (s * 131 + (c.toNat : Int) + 1) % 65521
def Xf (l : List UInt8) : Int := l.foldl next 3
theorem Zpi : Xf [] = 3 := rfl
theorem Zfh (l : List UInt8) (c : UInt8) : Xf (l ++ [c]) = (Xf l * 131 + (c.toNat : Int) + 1) % 65521 := by
 simp [Xf, next, List.foldl_append]
theorem Zac (l : List UInt8) : 0 ≤ Xf l ∧ Xf l < 65521 := by
 have key : ∀ (l : List UInt8) (s : Int), 0 ≤ s → s < 65521 → 0 ≤ l.foldl next s ∧ l.foldl next s < 65521 := by
  intro l
  induction l with
  | nil => intro s h1 h2; exact ⟨h1, h2⟩
  | cons c l ih =>
   intro s h1 h2;refine ih _ ?_ ?_ <;> unfold next <;> omega
 exact key l 3 (by omega) (by omega)
theorem Zdy (l : List UInt8) (k : Nat) (h : k < l.length) : l.take (k + 1) = l.take k ++ [l[k]] := by
 rw [List.take_succ_eq_append_getElem h]
def hi (n : Int) : UInt8 := UInt8.ofNat ((n / 256) % 256).toNat
def lo (n : Int) : UInt8 := UInt8.ofNat (n % 256).toNat
theorem Zgo (n : Int) : ((hi n).toNat : Int) = (n / 256) % 256 := by unfold hi; rw [UInt8.toNat_ofNat']; omega
theorem Kk (n : Int) : ((lo n).toNat : Int) = n % 256 := by unfold lo; rw [UInt8.toNat_ofNat']; omega
def Xo (l : List UInt8) : List UInt8 := l ++ [hi (Xf l), lo (Xf l)]
theorem Zci (l : List UInt8) : (Xo l).length = l.length + 2 := by simp [Xo]
theorem Ztb (s t : Int) (c : UInt8) (hs : 0 ≤ s) (hs' : s < 65521) (ht : 0 ≤ t) (ht' : t < 65521) (h : next s c = next t c) : s = t := by
 unfold next at h; omega
theorem Zvx (s : Int) (c d : UInt8) (hcd : c ≠ d) : next s c ≠ next s d := by
 intro h;apply hcd;have hc : c.toNat < 256 := UInt8.toNat_lt _;have hd : d.toNat < 256 := UInt8.toNat_lt _;unfold next at h
 refine UInt8.toNat_inj.1 ?_;omega
theorem Kn (s : Int) (c : UInt8) : 0 ≤ next s c ∧ next s c < 65521 := by unfold next; omega
theorem Zk7 : ∀ (l : List UInt8) (s t : Int), 0 ≤ s → s < 65521 → 0 ≤ t → t < 65521 → l.foldl next s = l.foldl next t → s = t
 | [], _, _, _, _, _, _, h => h
 | c :: l, s, t, h1, h2, h3, h4, h => by
  have := Zk7 l _ _ (Kn s c).1 (Kn s c).2 (Kn t c).1 (Kn t c).2 h;exact Ztb s t c h1 h2 h3 h4 this
theorem Zk6 : ∀ (l : List UInt8) (s : Int) (k : Nat) (c : UInt8) (hk : k < l.length), 0 ≤ s → s < 65521 → l[k] ≠ c → (l.set k c).foldl next s ≠ l.foldl next s
 | [], _, _, _, hk, _, _, _ => by simp at hk
 | d :: l, s, 0, c, _, h1, h2, hne => by
  intro h;have h3 : next s c = next s d := Zk7 l _ _ (Kn s c).1 (Kn s c).2 (Kn s d).1 (Kn s d).2 h
  exact Zvx s d c (by simpa using hne) h3.symm
 | d :: l, s, k + 1, c, hk, h1, h2, hne => Zk6 l (next s d) k c (by simpa using hk) (Kn s d).1 (Kn s d).2 (by simpa using hne)
theorem Zuz (l : List UInt8) (k : Nat) (c : UInt8) (hk : k < l.length) (hne : l[k] ≠ c) : Xf (l.set k c) ≠ Xf l :=
 Zk6 l 3 k c hk (by omega) (by omega) hne
def Xi (l : List UInt8) : Bool := decide (2 ≤ l.length) && (((l.getD (l.length - 2) 0).toNat : Int) * 256 + ((l.getD (l.length - 1) 0).toNat : Int) == Xf (l.take (l.length - 2)))
theorem Jv (l : List UInt8) (x y : UInt8) : Xi (l ++ [x, y]) = ((x.toNat : Int) * 256 + (y.toNat : Int) == Xf l) := by
 have e : (l ++ [x, y]).length = l.length + 2 := by simp
 unfold Xi;rw [e, show l.length + 2 - 2 = l.length from by omega, show l.length + 2 - 1 = l.length + 1 from by omega, decide_eq_true (by omega : 2 ≤ l.length + 2), Bool.true_and];simp [List.getD_eq_getElem?_getD]
theorem Zct (x y : UInt8) (s : Int) (h0 : 0 ≤ s) (h1 : s < 65536) : ((x.toNat : Int) * 256 + (y.toNat : Int) = s) ↔ (hi s = x ∧ lo s = y) := by
 have hx : x.toNat < 256 := UInt8.toNat_lt _;have hy : y.toNat < 256 := UInt8.toNat_lt _;have h2 := Zgo s;have h3 := Kk s;constructor
 ·intro h;refine ⟨UInt8.toNat_inj.1 ?_, UInt8.toNat_inj.1 ?_⟩ <;> omega
 ·rintro ⟨rfl, rfl⟩;omega
theorem Zfq (l : List UInt8) : Xi (Xo l) = true := by
 have hs := Zac l;unfold Xo;rw [Jv, beq_iff_eq, Zct _ _ _ hs.1 (by omega)];exact ⟨rfl, rfl⟩
theorem Zjx (l : List UInt8) (k : Nat) (c : UInt8) (hk : k < (Xo l).length) (hne : (Xo l)[k] ≠ c) : Xi ((Xo l).set k c) = false := by
 have hs := Zac l;have he : (Xo l).length = l.length + 2 := Zci l;by_cases h1 : k < l.length
 ·have e : (Xo l).set k c = l.set k c ++ [hi (Xf l), lo (Xf l)] := by unfold Xo; rw [List.set_append_left _ _ h1]
  rw [e, Jv, beq_eq_false_iff_ne];intro h;have h2 : ((hi (Xf l)).toNat : Int) * 256 + ((lo (Xf l)).toNat : Int) = Xf l := (Zct _ _ _ hs.1 (by omega)).2 ⟨rfl, rfl⟩;refine Zuz l k c h1 ?_ (h.symm.trans h2);have : (Xo l)[k] = l[k] := by unfold Xo; exact List.getElem_append_left h1
  rw [← this]; exact hne
 ·by_cases h2 : k = l.length
  ·have e : (Xo l).set k c = l ++ [c, lo (Xf l)] := by unfold Xo; rw [List.set_append_right _ _ (by omega), h2]; simp
   rw [e, Jv, beq_eq_false_iff_ne];intro h;have := (Zct _ _ _ hs.1 (by omega)).1 h;apply hne;subst h2;simp [Xo, this.1]
  ·have h3 : k = l.length + 1 := by omega
   have e : (Xo l).set k c = l ++ [hi (Xf l), c] := by unfold Xo; rw [List.set_append_right _ _ (by omega), h3]; simp
   rw [e, Jv, beq_eq_false_iff_ne];intro h;have := (Zct _ _ _ hs.1 (by omega)).1 h;apply hne;subst h3;simp [Xo, this.2]
end Go.Proofs.YtpdnapbchcdhlacGreat.Plain
namespace Go.Proofs.YtpdnapbchcdhlacGreat.Reg
set_option maxRecDepth 100000
open Go Go.RowKit
variable {J : World → Prop} {P : Program} {R : Value → World → Prop} {a a0 : Act} {ev : Operand → Value} {i : Nat} {o : Oper} {ops : Array Oper} {v : Value} {w w' : World} {x : Operand}
abbrev Pl := List Nat × (Value → List Value → World → Prop)
def pl (q : Value → World → Prop) : Pl := ([], fun v _ w => q v w)
def pl1 (d : Nat) (q : Value → Value → World → Prop) : Pl := ([d], fun v ds w => q v (ds.getD 0 undef) w)
def X7 (L : List Pl) (i : Nat) : Pl := L.getD i ([], fun _ _ _ => True)
def Zs0 (L : List Pl) (i : Nat) (f : Nat → Value) (w : World) : Prop := (X7 L i).2 (f i) ((X7 L i).1.map f) w
def Ks (f : Nat → Value) (i : Nat) (v : Value) : Nat → Value := fun j => if j = i then v else f j
abbrev Vi := World → World → Prop
def Vw (T : List (Option Vi)) (j : Nat) : Vi := match T.getD j none with
 | none => Zn
 | some s => s
def Jc (ops : Array Oper) (i j : Nat) : Bool := ((ops[i]?).map fun o => o.after.any fun e => e.on == j && Region.binds .any e).getD false
def Ke (P : Program) (s : Vi) (J : World → Prop) (w : World) (R : Value → World → Prop) : Result Next → Prop
 | .ok (.value v) w' => s w w' ∧ J w' ∧ R v w'
 | .ok .skip w' => s w w' ∧ J w' ∧ R undef w'
 | .ok (.enter f args) w' => Calls P f args w' (fun e w'' => ∃ v, e = .returned v ∧ s w w'' ∧ J w'' ∧ R v w'')
 | _ => False
def Zjk (L : List Pl) (ops : Array Oper) (a0 : Act) (i : Nat) (o : Oper) (a : Act) (w : World) : Prop :=
 (∀ e ∈ o.after.toList, Region.binds .any e = true → Zs0 L e.on (gv ops a) w) ∧ (∀ k, ext ops i k = true → a.eval (.tmp k) = a0.eval (.tmp k))
def Zuk (P : Program) (L : List Pl) (T : List (Option Vi)) (J : World → Prop) (ops : Array Oper) (a0 : Act) (i : Nat) (o : Oper) : Prop :=
 ∀ a w, J w → Zjk L ops a0 i o a w → (Kp ops a o → Ke P (Vw T i) J w (fun v w' => (X7 L i).2 v ((X7 L i).1.map (gv ops a)) w') ((execOp a.eval o).run P w)) ∧ (¬ Kp ops a o → (X7 L i).2 undef ((X7 L i).1.map (gv ops a)) w)
def Zdq (P : Program) (L : List Pl) (T : List (Option Vi)) (J : World → Prop) (ops : Array Oper) (a0 : Act) : List Oper → Nat → Prop
 | [], _ => True
 | o :: l, i => Zuk P L T J ops a0 i o ∧ Zdq P L T J ops a0 l (i + 1)
def Zlg (L : List Pl) (ops : Array Oper) : Bool := (List.range ops.size).all fun i => (X7 L i).1.all fun d => Jc ops i d
theorem Zt2 {L : List Pl} (h : Zlg L ops = true) (hi : ops[i]? = some o) {d : Nat} (hd : d ∈ (X7 L i).1) : ∃ e ∈ o.after.toList, e.on = d ∧ Region.binds .any e = true := by
 have hlt : i < ops.size := by
  rcases Nat.lt_or_ge i ops.size with h | h
  ·exact h
  ·simp [Array.getElem?_eq_none h] at hi
 unfold Zlg at h;rw [List.all_eq_true] at h;have h1 := h i (by simpa using hlt);rw [List.all_eq_true] at h1;have h2 := h1 d hd;simp only [Jc, hi, Option.map_some, Option.getD_some] at h2;rw [← Array.any_toList, List.any_eq_true] at h2;obtain ⟨e, he, h3⟩ := h2;simp only [Bool.and_eq_true, beq_iff_eq] at h3;exact ⟨e, he, h3.1, h3.2⟩
def V1 (p : Pl) : Prop := ∀ v ds w w', Zn w w' → p.2 v ds w → p.2 v ds w'
def Zej : List Pl → Prop
 | [] => True
 | p :: L => V1 p ∧ Zej L
def Zav (vs : Nat → Value) (w : World) : List Pl → Nat → Prop
 | [], _ => True
 | p :: L, i => p.2 (vs i) (p.1.map vs) w ∧ Zav vs w L (i + 1)
def Zwp (s : Vi) (ops : Array Oper) (j : Nat) : List Pl → Nat → Prop
 | [], _ => True
 | p :: L, i => ((i == j || Jc ops i j) = true ∨ ∀ v ds w w', s w w' → p.2 v ds w → p.2 v ds w') ∧ Zwp s ops j L (i + 1)
def Zif (L : List Pl) (ops : Array Oper) : List (Option Vi) → Nat → Prop
 | [], _ => True
 | none :: T, j => Zif L ops T (j + 1)
 | some s :: T, j => ((∀ w, s w w) ∧ Zwp s ops j L 0) ∧ Zif L ops T (j + 1)
def Zcg : List Pl → List Oper → Prop
 | [], _ => True
 | _, [] => True
 | p :: L, o :: l => (o.dst = none → ∀ v ds w, p.2 v ds w → p.2 undef ds w) ∧ Zcg L l
theorem Yj {q : Value → World → Prop} (h : Xv q) : V1 (pl q) := fun v _ w w' hg hq => h v w w' hg hq
theorem Zho : ∀ (L : List Pl) (i : Nat), Zej L → V1 (X7 L i)
 | [], i, _ => fun _ _ _ _ _ _ => by simp [X7]
 | p :: L, 0, h => h.1
 | p :: L, i + 1, h => Zho L i h.2
theorem Zor {s : Vi} {j : Nat} : ∀ (L : List Pl) (k i : Nat), Zwp s ops j L k → k + i ≠ j → Jc ops (k + i) j = false → ∀ v ds w w', s w w' → (X7 L i).2 v ds w → (X7 L i).2 v ds w'
 | [], k, i, _, _, _ => fun _ _ _ _ _ _ => by simp [X7]
 | p :: L, k, 0, h, hne, hw => by
  rcases h.1 with h1 | h1
  ·simp only [Bool.or_eq_true, beq_iff_eq] at h1;rcases h1 with h1 | h1
   ·exact absurd h1 hne
   ·rw [Nat.add_zero] at hw; rw [hw] at h1; cases h1
  ·exact h1
 | p :: L, k, i + 1, h, hne, hw => by
  have := Zor L (k + 1) i h.2 (by omega) (by rw [show k + 1 + i = k + (i + 1) from by omega]; exact hw);exact this
theorem Zc7 {L : List Pl} : ∀ (T : List (Option Vi)) (k j : Nat) (s : Vi), Zif L ops T k → T.getD j none = some s → (∀ w, s w w) ∧ Zwp s ops (k + j) L 0
 | [], k, j, s, _, h => by simp at h
 | none :: T, k, 0, s, _, h => by simp at h
 | some s' :: T, k, 0, s, h, hs => by simp at hs; subst hs; exact h.1
 | none :: T, k, j + 1, s, h, hs => by
  have := Zc7 T (k + 1) j s h (by simpa using hs)
  rwa [show k + 1 + j = k + (j + 1) from by omega] at this
 | some s' :: T, k, j + 1, s, h, hs => by
  have := Zc7 T (k + 1) j s h.2 (by simpa using hs)
  rwa [show k + 1 + j = k + (j + 1) from by omega] at this
theorem Zf7 : ∀ (L : List Pl) (l : List Oper) (i : Nat) (o : Oper), Zcg L l → l[i]? = some o → o.dst = none → ∀ v ds w, (X7 L i).2 v ds w → (X7 L i).2 undef ds w
 | [], _, i, _, _, _, _ => fun _ _ _ _ => by simp [X7]
 | _ :: _, [], i, _, _, h, _ => by simp at h
 | p :: L, o' :: l, 0, o, h, ho, hd => by simp at ho; subst ho; exact h.1 hd
 | p :: L, o' :: l, i + 1, o, h, ho, hd => Zf7 L l i o h.2 (by simpa using ho) hd
theorem Zem (vs : Nat → Value) (w : World) : ∀ (L : List Pl) (k : Nat), (∀ i, i < L.length → (X7 L i).2 (vs (k + i)) ((X7 L i).1.map vs) w) → Zav vs w L k
 | [], _, _ => trivial
 | p :: L, k, h => ⟨h 0 (by simp), Zem vs w L (k + 1) (fun i hi => by
   have := h (i + 1) (by simpa using hi);rw [show k + (i + 1) = k + 1 + i from by omega] at this;exact this)⟩
theorem Zkt {P : Program} {L : List Pl} {T : List (Option Vi)} {J : World → Prop} {ops : Array Oper} {a0 : Act} {i : Nat} (hg : o.guard = none)
  (h : ∀ a w, J w → Zjk L ops a0 i o a w → Ke P (Vw T i) J w (fun v w' => (X7 L i).2 v ((X7 L i).1.map (gv ops a)) w') ((execOp a.eval o).run P w)) : Zuk P L T J ops a0 i o :=
 fun a w hw hin => ⟨fun _ => h a w hw hin, fun hn => absurd (by unfold Kp; rw [hg]; trivial) hn⟩
theorem Zyx {L : List Pl} (h : Zjk L ops a0 i o a w) (j : Nat)
  (hj : (o.after.any fun e => e.on == j && Region.binds .any e) = true) : (X7 L j).2 (gv ops a j) ((X7 L j).1.map (gv ops a)) w := by
 rw [← Array.any_toList, List.any_eq_true] at hj;obtain ⟨e, he, h2⟩ := hj;simp only [Bool.and_eq_true, beq_iff_eq] at h2;obtain ⟨rfl, h3⟩ := h2;exact h.1 e he h3
theorem Zyk {L : List Pl} (h : Zjk L ops a0 i o a w) (k : Nat) (hk : ext ops i k = true) :
  a.eval (.tmp k) = a0.eval (.tmp k) := h.2 k hk
theorem Z6 (ho : o.op = .move x) (hJ : J w) (h : R (ev x) w) : Ke P Zn J w R ((execOp ev o).run P w) := by
 unfold execOp; rw [ho]; exact ⟨Zn.refl w, hJ, h⟩
theorem Xc (ho : o.op = .assign x) (hJ : J w) (h : R (ev x) w) : Ke P Zn J w R ((execOp ev o).run P w) := by
 unfold execOp; rw [ho]; exact ⟨Zn.refl w, hJ, h⟩
theorem Zh (h : (execOp ev o).run P w = .ok (.value v) w) (hJ : J w) (hv : R v w) : Ke P Zn J w R ((execOp ev o).run P w) := by
 rw [h]; exact ⟨Zn.refl w, hJ, hv⟩
theorem Ql {s : Vi} (h : (execOp ev o).run P w = .ok (.value v) w') (hs : s w w') (hJ : J w') (hv : R v w') : Ke P s J w R ((execOp ev o).run P w) := by
 rw [h]; exact ⟨hs, hJ, hv⟩
theorem Yg {s : Vi} (h : (execOp ev o).run P w = .ok .skip w') (hs : s w w') (hJ : J w') (hv : R undef w') : Ke P s J w R ((execOp ev o).run P w) := by
 rw [h]; exact ⟨hs, hJ, hv⟩
theorem Yf {s : Vi} {J : World → Prop} {R : Value → World → Prop} {f : FuncId} {args : Array Value} (h : (execOp ev o).run P w = .ok (.enter f args) w)
  (hc : Calls P f args w fun e w'' => ∃ v, e = .returned v ∧ s w w'' ∧ J w'' ∧ R v w'') : Ke P s J w R ((execOp ev o).run P w) := by
 rw [h]; exact hc
end Go.Proofs.YtpdnapbchcdhlacGreat.Reg
namespace Go.Proofs.YtpdnapbchcdhlacGreat.Reg
set_option maxRecDepth 100000
open Go Go.RowKit
variable {dn : Nat → Bool} {i : Nat} {ops : Array Oper}
def upd (dn : Nat → Bool) (i : Nat) : Nat → Bool := fun j => if j = i then true else dn j
structure Zb0 (ops : Array Oper) (i : Nat) (dn : Nat → Bool) : Prop where
 un : dn i = false
 rd : ∀ j, Jc ops i j = true → dn j = true
 cl : ∀ j k, Jc ops j k = true → dn j = true → dn k = true
theorem Zb0.not1 (h : Zb0 ops i dn) (j : Nat) (hj : Jc ops j i = true) : dn j = false := by
 cases hd : dn j with
 | false => rfl
 | true => have := h.cl j i hj hd; rw [h.un] at this; cases this
theorem Zb0.notBy (h : Zb0 ops i dn) (j k : Nat) (hk : dn k = false) (hj : Jc ops j k = true) : dn j = false := by
 cases hd : dn j with
 | false => rfl
 | true => have := h.cl j k hj hd; rw [hk] at this; cases this
theorem Zl1 {listed : Array Bool} (h : i < listed.size) : (fun j => (listed.setIfInBounds i true).getD j false) = upd (fun j => listed.getD j false) i := by
 funext j
 show (listed.setIfInBounds i true).getD j false = _;rw [Q8 _ _ _ h];unfold upd;by_cases hij : i = j
 ·subst hij; simp
 ·rw [if_neg hij, if_neg (fun e => hij e.symm)]
def Zul (P : Program) (L : List Pl) (T : List (Option Vi)) (J : (Nat → Bool) → World → Prop) (ops : Array Oper) (a0 : Act) (i : Nat) (o : Oper) : Prop :=
 ∀ a w dn, Zb0 ops i dn → J dn w → Zjk L ops a0 i o a w → (Kp ops a o → Ke P (Vw T i) (J (upd dn i)) w (fun v w' => (X7 L i).2 v ((X7 L i).1.map (gv ops a)) w') ((execOp a.eval o).run P w)) ∧ (¬ Kp ops a o → J (upd dn i) w ∧ (X7 L i).2 undef ((X7 L i).1.map (gv ops a)) w)
def Zdr (P : Program) (L : List Pl) (T : List (Option Vi)) (J : (Nat → Bool) → World → Prop) (ops : Array Oper) (a0 : Act) : List Oper → Nat → Prop
 | [], _ => True
 | o :: l, i => Zul P L T J ops a0 i o ∧ Zdr P L T J ops a0 l (i + 1)
theorem Zku {P : Program} {L : List Pl} {T : List (Option Vi)} {J : (Nat → Bool) → World → Prop} {ops : Array Oper} {a0 : Act} {i : Nat} {o : Oper} (hg : o.guard = none)
  (h : ∀ a w dn, Zb0 ops i dn → J dn w → Zjk L ops a0 i o a w → Ke P (Vw T i) (J (upd dn i)) w (fun v w' => (X7 L i).2 v ((X7 L i).1.map (gv ops a)) w') ((execOp a.eval o).run P w)) : Zul P L T J ops a0 i o :=
 fun a w dn hr hw hin => ⟨fun _ => h a w dn hr hw hin, fun hn => absurd (by unfold Kp; rw [hg]; trivial) hn⟩
end Go.Proofs.YtpdnapbchcdhlacGreat.Reg
namespace Go.Proofs.YtpdnapbchcdhlacGreat.Reg
set_option maxRecDepth 100000
open Go Go.RowKit
variable {P : Program} {R : Value → World → Prop} {a0 : Act} {ev : Operand → Value} {o : Oper} {ops : Array Oper} {v : Value} {w w' w0 : World} {x : Operand}
def dv (o : Oper) (v : Value) : Value := match o.dst with
 | none => undef
 | some _ => v
abbrev Zel (P : Program) (s : Vi) (w : World) (J R : Value → World → Prop) : Result Next → Prop := Ke P s (fun _ => True) w (fun v w' => J v w' ∧ R v w')
def Zlt (P : Program) (L : List Pl) (T : List (Option Vi)) (J : (Nat → Bool) → (Nat → Value) → World → Prop) (ops : Array Oper) (a0 : Act) (i : Nat) (o : Oper) : Prop :=
 ∀ a w dn, Zb0 ops i dn → J dn (gv ops a) w → Zjk L ops a0 i o a w → (Kp ops a o → Zel P (Vw T i) w (fun v w' => J (upd dn i) (Ks (gv ops a) i (dv o v)) w') (fun v w' => (X7 L i).2 v ((X7 L i).1.map (gv ops a)) w') ((execOp a.eval o).run P w)) ∧ (¬ Kp ops a o → J (upd dn i) (Ks (gv ops a) i undef) w ∧ (X7 L i).2 undef ((X7 L i).1.map (gv ops a)) w)
def Zdp (P : Program) (L : List Pl) (T : List (Option Vi)) (J : (Nat → Bool) → (Nat → Value) → World → Prop) (ops : Array Oper) (a0 : Act) : List Oper → Nat → Prop
 | [], _ => True
 | o :: l, i => Zlt P L T J ops a0 i o ∧ Zdp P L T J ops a0 l (i + 1)
theorem Zeu {P : Program} {L : List Pl} {T : List (Option Vi)} {J : (Nat → Bool) → (Nat → Value) → World → Prop} {ops : Array Oper} {a0 : Act} :
  ∀ (l : List Oper) (i j : Nat) (o : Oper), Zdp P L T J ops a0 l i → l[j]? = some o → Zlt P L T J ops a0 (i + j) o
 | [], _, _, _, _, h => by simp at h
 | o' :: l, i, 0, o, h, hj => by simp at hj; subst hj; exact h.1
 | o' :: l, i, j + 1, o, h, hj => by
  have := Zeu l (i + 1) j o h.2 (by simpa using hj)
  rwa [show i + 1 + j = i + (j + 1) from by omega] at this
structure Zum (L : List Pl) (J : (Nat → Bool) → (Nat → Value) → World → Prop) (ops : Array Oper) (a0 : Act) (listed : Array Bool) (a : Act) (w : World) : Prop where
 lsize : listed.size = ops.size
 keep : J (fun j => listed.getD j false) (gv ops a) w
 tsize : a.tmps.size = a0.tmps.size
 defers : a.defers = a0.defers
 told : ∀ i o, ops[i]? = some o → listed.getD i false = true → Zs0 L i (gv ops a) w
 kept : ∀ k, (∀ i o, ops[i]? = some o → listed.getD i false = true → o.dst ≠ some k) → a.eval (.tmp k) = a0.eval (.tmp k)
 closed : ∀ i o, ops[i]? = some o → listed.getD i false = true → ∀ e ∈ o.after.toList, Region.binds .any e = true → listed.getD e.on false = true
theorem Zgk {L : List Pl} {T : List (Option Vi)} {J : (Nat → Bool) → (Nat → Value) → World → Prop} {ops : Array Oper} {a0 : Act} {listed : Array Bool} {a : Act} {w w' : World} {i : Nat} {o : Oper} {v : Value}
  (hst : ∀ i j v ds w w', i ≠ j → Jc ops i j = false → Vw T j w w' → (X7 L i).2 v ds w → (X7 L i).2 v ds w') (hD : Zlg L ops = true) (hB : Zhc ops a0.tmps.size = true) (hi : ops[i]? = some o) (I : Zum L J ops a0 listed a w)
  (hun : listed.getD i false = false)
  (hafter : ∀ e ∈ o.after.toList, Region.binds .any e = true → listed.getD e.on false = true) (hg : Vw T i w w') (hJ : J (upd (fun j => listed.getD j false) i) (Ks (gv ops a) i v) w') (hv : (X7 L i).2 v ((X7 L i).1.map (gv ops a)) w') (hnone : o.dst = none → v = undef) :
  Zum L J ops a0 (listed.setIfInBounds i true) (a.put o.dst v) w' := by
 have hlt : i < ops.size := by
  rcases Nat.lt_or_ge i ops.size with h | h
  ·exact h
  ·simp [Array.getElem?_eq_none h] at hi
 have hll : i < listed.size := by rw [I.lsize]; exact hlt
 obtain ⟨hb1, hb2⟩ := Zd1 hB hi;have hsame : ∀ j, j ≠ i → gv ops (a.put o.dst v) j = gv ops a j := by
  intro j hji;by_cases hjlt : j < ops.size
  ·unfold gv;cases hd : (ops[j]?).bind (·.dst) with
   | none => rfl
   | some d =>
    refine Zbw a o.dst d v fun e => ?_;exact (hb2 d e).2 j hjlt hji hd
  ·unfold gv; rw [Array.getElem?_eq_none (by omega)]; rfl
 have hown : gv ops (a.put o.dst v) i = v := by
  unfold gv;simp only [hi, Option.bind_some];cases hd : o.dst with
  | none => simp [hnone hd]
  | some d => exact Zcp a d v (by rw [I.tsize]; exact (hb2 d hd).1)
 have hset : gv ops (a.put o.dst v) = Ks (gv ops a) i v := by
  funext j
  unfold Ks;by_cases hji : j = i
  ·rw [if_pos hji, hji]; exact hown
  ·rw [if_neg hji]; exact hsame j hji
 refine ⟨by simp [I.lsize], by rw [Zl1 hll, hset]; exact hJ, by rw [J6]; exact I.tsize, ?_, ?_, ?_, ?_⟩
 ·rw [← I.defers]; cases o.dst <;> rfl
 ·intro j p hj hl;rw [Q8 _ _ _ hll] at hl;have hmap : ∀ k pk, ops[k]? = some pk → (k = i ∨ listed.getD k false = true) → (X7 L k).1.map (gv ops (a.put o.dst v)) = (X7 L k).1.map (gv ops a) := by
   intro k pk hk hor;refine List.map_congr_left (fun d hd => hsame d ?_);obtain ⟨e, he, hed, hbd⟩ := Zt2 hD hk hd;intro hdi;rcases hor with rfl | hkl
   ·have h5 := hafter e (by rw [hi] at hk; cases hk; exact he) hbd;rw [hed, hdi, hun] at h5; cases h5
   ·have h5 := I.closed k pk hk hkl e he hbd;rw [hed, hdi, hun] at h5; cases h5
  by_cases hij : i = j
  ·subst hij;show (X7 L i).2 _ _ w';rw [hown, hmap i p hj (.inl rfl)];exact hv
  ·rw [if_neg hij] at hl;show (X7 L j).2 _ _ w';rw [hsame j (fun e => hij e.symm), hmap j p hj (.inr hl)];refine hst j i _ _ w w' (fun e => hij e.symm) ?_ hg (I.told j p hj hl);cases hw : Jc ops j i with
   | false => rfl
   | true =>
    exfalso;simp only [Jc, hj, Option.map_some, Option.getD_some] at hw;rw [← Array.any_toList, List.any_eq_true] at hw;obtain ⟨e, he, h3⟩ := hw;simp only [Bool.and_eq_true, beq_iff_eq] at h3;have h5 := I.closed j p hj hl e he h3.2;rw [h3.1, hun] at h5; cases h5
 ·intro k hk;have h1 : o.dst ≠ some k := hk i o hi (by rw [Q8 _ _ _ hll]; simp);rw [Zbw a o.dst k v h1];refine I.kept k (fun j p hj hl => hk j p hj ?_);rw [Q8 _ _ _ hll]; split
  ·rfl
  ·exact hl
 ·intro j p hj hl e he hb;rw [Q8 _ _ _ hll];split
  ·rfl
  ·rw [Q8 _ _ _ hll] at hl;by_cases hij : i = j
   ·subst hij;have : p = o := by rw [hi] at hj; exact (Option.some.inj hj).symm
    subst this;exact hafter e he hb
   ·rw [if_neg hij] at hl;exact I.closed j p hj hl e he hb
theorem Zts {L : List Pl} {J : (Nat → Bool) → (Nat → Value) → World → Prop} {ops : Array Oper} {a0 : Act} {listed : Array Bool} {a : Act} {w : World}
  (hB : Zhc ops a0.tmps.size = true) (I : Zum L J ops a0 listed a w) :
  a = Yi (gv ops a) ops.toList 0 a0 := by
 have hp := Zes (gv ops a) ops.toList 0 a0;refine Zwo (I.tsize.trans hp.1.symm) (I.defers.trans hp.2.symm) fun k hk => ?_;by_cases hex : ∃ j : Nat, ∃ o : Oper, ops[j]? = some o ∧ o.dst = some k
 ·obtain ⟨j, o, hj, hd⟩ := hex;obtain ⟨_, hb2⟩ := Zd1 hB hj;rw [Zhw (gv ops a) k ops.toList 0 a0 j o (by simpa using hj) hd (by rw [← I.tsize]; exact hk) ?_]
  ·simp only [Nat.zero_add, gv, hj, Option.bind_some, hd]
  ·intro j' o' hj' hne e;have hj'' : ops[j']? = some o' := by simpa using hj'
   have hlt : j' < ops.size := by
    rcases Nat.lt_or_ge j' ops.size with h | h
    ·exact h
    ·simp [Array.getElem?_eq_none h] at hj''
   exact (hb2 k hd).2 j' hlt hne (by simp [hj'', e])
 ·rw [Zd3 (gv ops a) k ops.toList 0 a0 (fun j o hj e => hex ⟨j, o, by simpa using hj, e⟩)];exact I.kept k (fun j o hj _ e => hex ⟨j, o, hj, e⟩)
theorem Zlz {P : Program} {L : List Pl} {T : List (Option Vi)} {J : (Nat → Bool) → (Nat → Value) → World → Prop} {ops : Array Oper} {a0 : Act} {Q : Exit → Act → World → Prop}
  (hB : Zhc ops a0.tmps.size = true) (hD : Zlg L ops = true)
  (hst : ∀ i j v ds w w', i ≠ j → Jc ops i j = false → Vw T j w w' → (X7 L i).2 v ds w → (X7 L i).2 v ds w') (hidle : ∀ j w, Vw T j w w)
  (hop : ∀ i o, ops[i]? = some o → Zlt P L T J ops a0 i o)
  (hnone : ∀ i o, ops[i]? = some o → o.dst = none → ∀ v ds w, (X7 L i).2 v ds w → (X7 L i).2 undef ds w)
  (hQ : ∀ vs w dn, (∀ i, i < ops.size → dn i = true) → J dn vs w → (∀ i, i < ops.size → Zs0 L i vs w) → Q .normal (Yi vs ops.toList 0 a0) w) :
  ∀ (fuel : Nat) (listed : Array Bool) (a : Act) (w : World), left listed.toList = fuel → Zum L J ops a0 listed a w → wpAny P .any ops Q fuel listed a w := by
 have hend : ∀ (listed : Array Bool) (a : Act) (w : World), Zum L J ops a0 listed a w → Region.ready .any ops listed = [] → Q .normal a w := by
  intro listed a w I hr;have hall := Zpy hB I.lsize hr;have he := Zts hB I;rw [he];refine hQ _ w _ hall I.keep fun i hi => ?_;exact I.told i ops[i] (by simp [hi]) (hall i hi)
 intro fuel
 induction fuel with
 | zero =>
  intro listed a w hl I;have hr : Region.ready .any ops listed = [] := by
   cases hrr : Region.ready .any ops listed with
   | nil => rfl
   | cons i l =>
    exfalso;obtain ⟨o, ho, h1, _⟩ := Zfv (ops := ops) (listed := listed) (i := i) (by rw [hrr]; simp);have hlt : i < ops.size := by
     rcases Nat.lt_or_ge i ops.size with h | h
     ·exact h
     ·simp [Array.getElem?_eq_none h] at ho
    have := Zh4 listed.toList hl i (by simpa [I.lsize] using hlt);simp at this;simp [this] at h1
  exact ⟨hr, hend listed a w I hr⟩
 | succ fuel ih =>
  intro listed a w hl I;refine ⟨hend listed a w I, fun i hi => ?_⟩;obtain ⟨o, ho, h1, h2⟩ := Zfv hi;have hlt : i < ops.size := by
   rcases Nat.lt_or_ge i ops.size with h | h
   ·exact h
   ·simp [Array.getElem?_eq_none h] at ho
  have hli : listed[i]? = some false := by
   have h3 : i < listed.size := by rw [I.lsize]; exact hlt
   simp [h3] at h1 ⊢; exact h1
  have hun : listed.getD i false = false := by
   have h3 : i < listed.size := by rw [I.lsize]; exact hlt
   simp [h3] at hli ⊢; exact hli
  have hleft : left (listed.setIfInBounds i true).toList = fuel := by
   have := Zky listed.toList i (by simpa using hli);simp only [Array.toList_setIfInBounds]; omega
  have hins : Zjk L ops a0 i o a w := by
   refine ⟨fun e he hb => ?_, fun k hk => ?_⟩
   ·have h3 := h2 e he hb;have h4 : e.on < ops.size := by
     rcases Nat.lt_or_ge e.on ops.size with h | h
     ·exact h
     ·have h5 : listed.size ≤ e.on := by rw [I.lsize]; exact h
      simp [Array.getD_eq_getD_getElem?, Array.getElem?_eq_none h5] at h3
    exact I.told e.on ops[e.on] (by simp [h4]) h3
   ·refine I.kept k fun j p hj hl2 hd => ?_;have hji : j ≠ i := fun e => by subst e; rw [hun] at hl2; cases hl2
    obtain ⟨e, he, he1, he2⟩ := Ztz hk hj hd hji;have h5 := I.closed j p hj hl2 e he he2;rw [he1, hun] at h5; cases h5
  have hrd : Zb0 ops i (fun j => listed.getD j false) := by
   refine ⟨hun, fun j hj => ?_, fun j k hjk hj => ?_⟩
   ·simp only [Jc, ho, Option.map_some, Option.getD_some] at hj;rw [← Array.any_toList, List.any_eq_true] at hj;obtain ⟨e, he, h3⟩ := hj;simp only [Bool.and_eq_true, beq_iff_eq] at h3;rw [← h3.1]; exact h2 e he h3.2
   ·cases hoj : ops[j]? with
    | none => simp [Jc, hoj] at hjk
    | some p =>
     simp only [Jc, hoj, Option.map_some, Option.getD_some] at hjk;rw [← Array.any_toList, List.any_eq_true] at hjk;obtain ⟨e, he, h3⟩ := hjk;simp only [Bool.and_eq_true, beq_iff_eq] at h3;rw [← h3.1]; exact I.closed j p hoj hj e he h3.2
  obtain ⟨n1, n2⟩ := hop i o ho a w _ hrd I.keep hins;unfold wpOp;simp only [ho];by_cases hw : Region.wanted o (yielded ops a.tmps) = true
  ·simp only [hw, if_true];refine .inl ?_;have hu := n1 (Zfe.1 hw);unfold Oper.wp;generalize (execOp a.eval o).run P w = r at *;have fin : ∀ v w', Vw T i w w' → J (upd (fun j => listed.getD j false) i) (Ks (gv ops a) i (dv o v)) w' → (X7 L i).2 v ((X7 L i).1.map (gv ops a)) w' → wpAny P .any ops Q fuel (listed.setIfInBounds i true) (a.put o.dst v) w' := by
    intro v w' hg hJ hv;cases hd : o.dst with
    | none =>
     have hv' := hnone i o ho hd v _ w' hv;rw [show dv o v = undef from by simp [dv, hd]] at hJ;have := Zgk (v := undef) hst hD hB ho I hun h2 hg hJ hv' (fun _ => rfl);rw [hd] at this;exact ih _ _ _ hleft this
    | some d =>
     rw [show dv o v = v from by simp [dv, hd]] at hJ;have := Zgk (v := v) hst hD hB ho I hun h2 hg hJ hv (fun e => by rw [hd] at e; cases e);rw [hd] at this;exact ih _ _ _ hleft this
   cases r with
   | ok n w' =>
    cases n <;> simp only [Ke] at hu <;> simp only [Oper.upon]
    case value v => exact fin v w' hu.1 hu.2.2.1 hu.2.2.2
    case skip => exact fin undef w' hu.1 hu.2.2.1 hu.2.2.2
    case enter f args =>
     refine hu.mono fun e w'' he => ?_;obtain ⟨v, rfl, hg, -, hJ, hv⟩ := he;exact fin v w'' hg hJ hv
   | halt x w' => simp only [Ke] at hu
  ·simp only [hw];have hu := n2 (fun h => hw (Zfe.2 h));have := Zgk (v := undef) hst hD hB ho I hun h2 (hidle i w) hu.1 hu.2 (fun _ => rfl);exact ih _ _ _ hleft this
theorem Vp {P : Program} {id : Nat} {l : List Oper} {a0 : Act} {w0 : World} {Q : Exit → Act → World → Prop} (L : List Pl) (T : List (Option Vi)) (J : (Nat → Bool) → (Nat → Value) → World → Prop)
  (hm : P.follows .mixedOrders = true) (hB : (Zhc l.toArray a0.tmps.size && Zlg L l.toArray && (L.length == l.length)) = true) (hst : Zej L) (hsp : Zif L l.toArray T 0) (hnn : Zcg L l)
  (hJ : ∀ f, J (fun _ => false) f w0.drew) (hop : Zdp P L T J l.toArray a0 l 0)
  (hQ : ∀ vs w dn, (∀ i, i < l.length → dn i = true) → J dn vs w → Zav vs w L 0 → Q .normal (Yi vs l 0 a0) w) : (Code.region id l.toArray true).wp P Q a0 w0 := by
 simp only [Bool.and_eq_true, beq_iff_eq] at hB;obtain ⟨⟨h1, h2⟩, h3⟩ := hB;refine wp_region_any hm (Zlz (L := L) (T := T) (J := J) h1 h2 (fun i j v ds w w' hne hwt hs hp => ?_) (fun j w => ?_) (fun i o hi => ?_) (fun i o hi hd => Zf7 L l i o hnn (by simpa using hi) hd) (fun vs w dn hdn hj ht => ?_) _ _ _ _ ?_ ?_)
 ·unfold Vw at hs;cases ht : T.getD j none with
  | none => rw [ht] at hs; exact Zho L i hst v ds w w' hs hp
  | some s =>
   rw [ht] at hs;have h4 := (Zc7 T 0 j s hsp ht).2;rw [Nat.zero_add] at h4;have h5 := Zor L 0 i h4 (by rw [Nat.zero_add]; exact hne) (by rw [Nat.zero_add]; exact hwt);exact h5 v ds w w' hs hp
 ·unfold Vw;cases ht : T.getD j none with
  | none => exact Zn.refl w
  | some s => exact (Zc7 T 0 j s hsp ht).1 w
 ·have := Zeu l 0 i o hop (by simpa using hi);simpa using this
 ·have h6 := hQ vs w dn (fun i hi => hdn i (by simpa using hi)) hj (Zem vs w L 0 (fun i hi => by
   rw [Nat.zero_add];exact ht i (by rw [h3] at hi; simpa using hi)))
  simpa using h6
 ·simp only [Array.toList_replicate];exact Zgg _
 ·refine ⟨by simp, by rw [show (fun j => (Array.replicate l.toArray.size false).getD j false) = fun _ => false from funext fun j => by by_cases h : j < l.length <;> simp [h]]; exact hJ _, rfl, rfl, fun i o hi hl => ?_, fun _ _ => rfl, fun i o hi hl => ?_⟩
  ·exfalso;by_cases h : i < l.length <;> simp [h] at hl
  ·exfalso;by_cases h : i < l.length <;> simp [h] at hl
theorem Zuy {s : Vi} {J : World → Prop} : ∀ {r : Result Next}, Ke P s J w R r → Ke P s (fun _ => True) w (fun v w' => J w' ∧ R v w') r
 | .ok (.value _) _, h => ⟨h.1, trivial, h.2⟩
 | .ok .skip _, h => ⟨h.1, trivial, h.2⟩
 | .ok (.enter _ _) _, h => Calls.mono h fun _ _ ⟨v, h1, h2, h3, h4⟩ => ⟨v, h1, h2, trivial, h3, h4⟩
 | .halt _ _, h => h
theorem Zgc {L : List Pl} {T : List (Option Vi)} {J : (Nat → Bool) → World → Prop} : ∀ (l : List Oper) (i : Nat), Zdr P L T J ops a0 l i → Zdp P L T (fun dn _ w => J dn w) ops a0 l i
 | [], _, _ => trivial
 | _ :: l, i, h => ⟨fun a w dn hr hw hin => ⟨fun hh => Zuy ((h.1 a w dn hr hw hin).1 hh), (h.1 a w dn hr hw hin).2⟩, Zgc l (i + 1) h.2⟩
theorem Yx {P : Program} {id : Nat} {l : List Oper} {a0 : Act} {w0 : World} {Q : Exit → Act → World → Prop} (L : List Pl) (T : List (Option Vi)) (J : (Nat → Bool) → World → Prop)
  (hm : P.follows .mixedOrders = true) (hB : (Zhc l.toArray a0.tmps.size && Zlg L l.toArray && (L.length == l.length)) = true) (hst : Zej L) (hsp : Zif L l.toArray T 0) (hnn : Zcg L l)
  (hJ : J (fun _ => false) w0.drew) (hop : Zdr P L T J l.toArray a0 l 0)
  (hQ : ∀ vs w dn, (∀ i, i < l.length → dn i = true) → J dn w → Zav vs w L 0 → Q .normal (Yi vs l 0 a0) w) : (Code.region id l.toArray true).wp P Q a0 w0 :=
 Vp L T (fun dn _ w => J dn w) hm hB hst hsp hnn (fun _ => hJ) (Zgc l 0 hop) hQ
theorem Zgb {L : List Pl} {T : List (Option Vi)} {J : World → Prop} : ∀ (l : List Oper) (i : Nat), Zdq P L T J ops a0 l i → Zdr P L T (fun _ w => J w) ops a0 l i
 | [], _, _ => trivial
 | _ :: l, i, h => ⟨fun a w _ _ hw hin => ⟨(h.1 a w hw hin).1, fun hn => ⟨hw, (h.1 a w hw hin).2 hn⟩⟩, Zgb l (i + 1) h.2⟩
theorem Qj {P : Program} {id : Nat} {l : List Oper} {a0 : Act} {w0 : World} {Q : Exit → Act → World → Prop} (L : List Pl) (T : List (Option Vi)) (J : World → Prop)
  (hm : P.follows .mixedOrders = true) (hB : (Zhc l.toArray a0.tmps.size && Zlg L l.toArray && (L.length == l.length)) = true) (hst : Zej L) (hsp : Zif L l.toArray T 0) (hnn : Zcg L l)
  (hJ : J w0.drew) (hop : Zdq P L T J l.toArray a0 l 0)
  (hQ : ∀ vs w, J w → Zav vs w L 0 → Q .normal (Yi vs l 0 a0) w) : (Code.region id l.toArray true).wp P Q a0 w0 :=
 Yx L T (fun _ w => J w) hm hB hst hsp hnn hJ (Zgb l 0 hop) fun vs w _ _ hj ht => hQ vs w hj ht
theorem Zoy : ∀ (L : List (Value → World → Prop)) (i : Nat), X7 (L.map pl) i = pl (Zoz L i)
 | [], _ => by simp [X7, Zoz, pl]
 | _ :: _, 0 => rfl
 | _ :: L, i + 1 => Zoy L i
theorem Zov {vs : Nat → Value} : ∀ (L : List (Value → World → Prop)) (i : Nat), Zav vs w (L.map pl) i → Zjg vs w L i
 | [], _, _ => trivial
 | _ :: L, i, h => ⟨h.1, Zov L (i + 1) h.2⟩
theorem Zow : ∀ (L : List (Value → World → Prop)), Zue L → Zej (L.map pl)
 | [], _ => trivial
 | _ :: L, h => ⟨Yj h.1, Zow L h.2⟩
theorem Zox : ∀ (L : List (Value → World → Prop)) (l : List Oper), Zxy l = true → Zcg (L.map pl) l
 | [], _, _ => trivial
 | _ :: _, [], _ => trivial
 | _ :: L, o :: l, h => by
  unfold Zxy at h;simp only [List.all_cons, Bool.and_eq_true] at h;exact ⟨fun hn => (by rw [hn] at h; exact absurd h.1 (by simp)), Zox L l h.2⟩
theorem Zwy (hw : Zn w0 w) : ∀ {r : Result Next}, upon P w R r → Ke P Zn (Zn w0) w R r
 | .ok (.value _) _, h => ⟨h.1, hw.trans h.1, h.2⟩
 | .ok .skip _, h => ⟨h.1, hw.trans h.1, h.2⟩
 | .ok (.enter _ _) _, h => h.2.mono fun _ _ ⟨v, h1, h2, h3⟩ => ⟨v, h1, h.1.trans h2, hw.trans (h.1.trans h2), h3⟩
 | .halt _ _, h => h
theorem Zh2 {L : List (Value → World → Prop)} : ∀ (l : List Oper) (i : Nat), Zjj P (Zoz L) ops a0 w0 l i → Zdq P (L.map pl) [] (Zn w0) ops a0 l i
 | [], _, _ => trivial
 | _ :: l, i, h => ⟨fun a w hw hin => by
  have h1 := h.1 a w hw ⟨fun e he hb => by
   have h2 := hin.1 e he hb;unfold Zs0 at h2;rw [Zoy] at h2;exact h2, hin.2⟩
  rw [Zoy];exact ⟨fun hh => Zwy hw (h1.1 hh), h1.2⟩, Zh2 l (i + 1) h.2⟩
theorem Yh {P : Program} {id : Nat} {l : List Oper} {a0 : Act} {w0 : World} {Q : Exit → Act → World → Prop} (L : List (Value → World → Prop))
  (hm : P.follows .mixedOrders = true) (hB : (Zhc l.toArray a0.tmps.size && Zxy l && (L.length == l.length)) = true) (hst : Zue L)
  (hop : Zjj P (Zoz L) l.toArray a0 w0 l 0)
  (hQ : ∀ vs w, Zn w0 w → Zjg vs w L 0 → Q .normal (Yi vs l 0 a0) w) : (Code.region id l.toArray true).wp P Q a0 w0 := by
 simp only [Bool.and_eq_true, beq_iff_eq] at hB;refine Qj (L.map pl) [] (Zn w0) hm ?_ (Zow L hst) trivial (Zox L l hB.1.2) (Zn.refl _).drew (Zh2 l 0 hop) fun vs w hg ht => hQ vs w hg (Zov L 0 ht)
 simp only [Bool.and_eq_true, beq_iff_eq, List.length_map];exact ⟨⟨hB.1.1, by unfold Zlg; simp [Zoy, pl]⟩, hB.2⟩
theorem Zks {P : Program} {L : List Pl} {T : List (Option Vi)} {J : (Nat → Bool) → (Nat → Value) → World → Prop} {ops : Array Oper} {a0 : Act} {i : Nat} (hg : o.guard = none)
  (h : ∀ a w dn, Zb0 ops i dn → J dn (gv ops a) w → Zjk L ops a0 i o a w → Zel P (Vw T i) w (fun v w' => J (upd dn i) (Ks (gv ops a) i (dv o v)) w') (fun v w' => (X7 L i).2 v ((X7 L i).1.map (gv ops a)) w') ((execOp a.eval o).run P w)) : Zlt P L T J ops a0 i o :=
 fun a w dn hr hw hin => ⟨fun _ => h a w dn hr hw hin, fun hn => absurd (by unfold Kp; rw [hg]; trivial) hn⟩
theorem Xn {J : Value → World → Prop} (ho : o.op = .move x) (hJ : J (ev x) w) (h : R (ev x) w) : Zel P Zn w J R ((execOp ev o).run P w) := Z6 ho trivial ⟨hJ, h⟩
theorem Xm {J : Value → World → Prop} (ho : o.op = .assign x) (hJ : J (ev x) w) (h : R (ev x) w) : Zel P Zn w J R ((execOp ev o).run P w) := Xc ho trivial ⟨hJ, h⟩
theorem Qt {J : Value → World → Prop} (h : (execOp ev o).run P w = .ok (.value v) w) (hJ : J v w) (hv : R v w) : Zel P Zn w J R ((execOp ev o).run P w) := Zh h trivial ⟨hJ, hv⟩
theorem Qu {s : Vi} {J : Value → World → Prop} (h : (execOp ev o).run P w = .ok (.value v) w') (hs : s w w') (hJ : J v w') (hv : R v w') : Zel P s w J R ((execOp ev o).run P w) := Ql h hs trivial ⟨hJ, hv⟩
theorem Zl0 {s : Vi} {J : Value → World → Prop} (h : (execOp ev o).run P w = .ok .skip w') (hs : s w w') (hJ : J undef w') (hv : R undef w') : Zel P s w J R ((execOp ev o).run P w) := Yg h hs trivial ⟨hJ, hv⟩
end Go.Proofs.YtpdnapbchcdhlacGreat.Reg
namespace Go.Proofs.YtpdnapbchcdhlacGreat.Plain
set_option maxRecDepth 100000
structure Rec where
 kind : Int
 key : Int
 ver : Int
 data : List UInt8
def Rec.none : Rec := ⟨0, 0, 0, []⟩
def Q6 (a b : Rec) : Bool := a.kind == b.kind && a.key == b.key && a.ver == b.ver && a.data == b.data
theorem Zae (a b : Rec) : Q6 a b = true ↔ a = b := by
 obtain ⟨a1, a2, a3, a4⟩ := a;obtain ⟨b1, b2, b3, b4⟩ := b;simp [Q6, and_assoc]
theorem Zmh (a : Rec) : Q6 a a = true := (Zae a a).2 rfl
def Xh (r : Rec) : Bool := if r.kind = 1 then decide (r.key = 0 ∧ r.ver = 0) else decide (1 ≤ r.key ∧ r.key ≤ 255 ∧ 1 ≤ r.ver ∧ r.ver ≤ 60000)
def Xe (k : Int) : Int := if k = 2 then 8 else 0
def Z9 (r : Rec) : Int :=
 if r.kind < 1 ∨ 3 < r.kind then 1 else if Xh r = false then 3 else if Xe r.kind < (r.data.length : Int) then 4 else 0
theorem Zcs (r : Rec) : Z9 r = 0 ↔ (1 ≤ r.kind ∧ r.kind ≤ 3 ∧ Xh r = true ∧ (r.data.length : Int) ≤ Xe r.kind) := by
 unfold Z9;by_cases h1 : r.kind < 1 ∨ 3 < r.kind
 ·rw [if_pos h1]; constructor
  ·intro h; omega
  ·rintro ⟨h2, h3, _⟩; omega
 ·rw [if_neg h1];by_cases h2 : Xh r = false
  ·rw [if_pos h2]; constructor
   ·intro h; omega
   ·rintro ⟨_, _, h3, _⟩; rw [h2] at h3; cases h3
  ·rw [if_neg h2];have h2' : Xh r = true := by simpa using h2
   by_cases h3 : Xe r.kind < (r.data.length : Int)
   ·rw [if_pos h3]; constructor
    ·intro h; omega
    ·rintro ⟨_, _, _, h4⟩; omega
   ·rw [if_neg h3]; constructor
    ·intro _; exact ⟨by omega, by omega, h2', by omega⟩
    ·intro _; rfl
theorem Vr {r : Rec} (h : Z9 r = 0) : 1 ≤ r.kind ∧ r.kind ≤ 3 ∧ 0 ≤ r.key ∧ r.key ≤ 255 ∧ 0 ≤ r.ver ∧ r.ver ≤ 60000 ∧ r.data.length ≤ 8 := by
 obtain ⟨h1, h2, h3, h4⟩ := (Zcs r).1 h;unfold Xh at h3;unfold Xe at h4;by_cases hk : r.kind = 1
 ·rw [if_pos hk] at h3; simp at h3;split at h4 <;> omega
 ·rw [if_neg hk] at h3; simp at h3;split at h4 <;> omega
def Zat (r : Rec) (at_ : Int) : List UInt8 := [lo r.kind, lo at_, lo r.key, hi r.ver, lo r.ver, lo (r.data.length : Int)] ++ (r.data ++ List.replicate (8 - r.data.length) 0)
def blk (r : Rec) (at_ : Int) : List UInt8 := Xo (Zat r at_)
theorem Qq (r : Rec) (at_ : Int) (h : r.data.length ≤ 8) : (Zat r at_).length = 14 := by simp [Zat]; omega
theorem Qm (r : Rec) (at_ : Int) (h : r.data.length ≤ 8) : (blk r at_).length = 16 := by unfold blk; rw [Zci, Qq r at_ h]
def at' (b : List UInt8) (i : Nat) : UInt8 := b.getD i 0
def Yz (b : List UInt8) : Rec := ⟨((at' b 0).toNat : Int), ((at' b 2).toNat : Int), ((at' b 3).toNat : Int) * 256 + ((at' b 4).toNat : Int), (b.drop 6).take (at' b 5).toNat⟩
def Ve (b : List UInt8) : List UInt8 := (b.drop (6 + (at' b 5).toNat)).take (8 - (at' b 5).toNat)
def Y7 (l : List UInt8) : Bool := l.all (· == 0)
def spoilt (b : List UInt8) (at_ : Int) : Int :=
 if b.length ≠ 16 then 2 else if Xi b = false then 7 else if ((at' b 1).toNat : Int) ≠ at_ then 8 else if 8 < (at' b 5).toNat then 4 else if Y7 (Ve b) = false then 2 else 0
def X3 (b : List UInt8) (at_ : Int) : Int := if spoilt b at_ = 0 then Z9 (Yz b) else spoilt b at_
def Y3 (b : List UInt8) (at_ : Int) : Rec := if X3 b at_ = 0 then Yz b else Rec.none
end Go.Proofs.YtpdnapbchcdhlacGreat.Plain
namespace Go.Proofs.YtpdnapbchcdhlacGreat.Reg
open Go Go.RowKit
variable {x : Value}
def gvE (ops : Array Oper) (a : Operand → Value) (j : Nat) : Value :=
  match (ops[j]?).bind (·.dst) with
  | some d => a (.tmp d)
  | none => undef
def Zwd (ops : Array Oper) (i k : Nat) : Bool :=
  (List.range ops.size).all fun j => j == i || ((ops[j]?).bind (·.dst)) != some k || (((ops[j]?).map fun o => o.after.toList.any fun e => e.on == i && Region.binds .any e).getD false)
theorem Zo5 (ops : Array Oper) (i k : Nat) : Zwd ops i k = ext ops i k := by
  unfold Zwd ext;simp only [Array.any_toList]
variable {P : Program} {phi : Nat → Value → World → Prop} {L : List Pl} {T : List (Option Vi)} {ops : Array Oper} {a0 : Act} {w0 w : World} {i : Nat} {o : Oper} {a : Operand → Value}
def Zuo (phi : Nat → Value → World → Prop) (ops : Array Oper) (a0 : Act) (i : Nat) (o : Oper) (a : Operand → Value) (w : World) : Prop := (∀ e ∈ o.after.toList, Region.binds .any e = true → phi e.on (gvE ops a e.on) w) ∧ (∀ k, ext ops i k = true → a (.tmp k) = a0.eval (.tmp k))
def Zun (L : List Pl) (ops : Array Oper) (a0 : Act) (i : Nat) (o : Oper) (a : Operand → Value) (w : World) : Prop := (∀ e ∈ o.after.toList, Region.binds .any e = true → Zs0 L e.on (gvE ops a) w) ∧ (∀ k, ext ops i k = true → a (.tmp k) = a0.eval (.tmp k))
theorem Zf (hg : o.guard = none) (h : ∀ a w, (∀ x, a (.const x) = x) → (∀ f, a (.func f) = .func (.func f) #[] #[]) → Zn w0 w → Zuo phi ops a0 i o a w → upon P w (phi i) ((execOp a o).run P w)) : Zhk P phi ops a0 w0 i o :=
  Zna hg fun a w hw hin => h a.eval w (fun _ => rfl) (fun _ => rfl) hw hin
theorem Zqe (j : Nat) (b : Bool) (hg : o.guard = some (j, b)) (hy : ∀ a w, Ins phi ops a0 i o a w → gv ops a j = .bool b) (h : ∀ a w, (∀ x, a (.const x) = x) → (∀ f, a (.func f) = .func (.func f) #[] #[]) → Zn w0 w → Zuo phi ops a0 i o a w → upon P w (phi i) ((execOp a o).run P w)) : Zhk P phi ops a0 w0 i o :=
  Zte j b hg hy fun a w hw hin => h a.eval w (fun _ => rfl) (fun _ => rfl) hw hin
theorem Zk {J : World → Prop} (hg : o.guard = none) (h : ∀ a w, (∀ x, a (.const x) = x) → (∀ f, a (.func f) = .func (.func f) #[] #[]) → J w → Zun L ops a0 i o a w → Ke P (Vw T i) J w (fun v w' => (X7 L i).2 v ((X7 L i).1.map (gvE ops a)) w') ((execOp a o).run P w)) : Zuk P L T J ops a0 i o :=
  Zkt hg fun a w hw hin => h a.eval w (fun _ => rfl) (fun _ => rfl) hw hin
theorem Zd {J : (Nat → Bool) → World → Prop} (hg : o.guard = none) (h : ∀ a w, (∀ x, a (.const x) = x) → (∀ f, a (.func f) = .func (.func f) #[] #[]) → ∀ dn, Zb0 ops i dn → J dn w → Zun L ops a0 i o a w → Ke P (Vw T i) (J (upd dn i)) w (fun v w' => (X7 L i).2 v ((X7 L i).1.map (gvE ops a)) w') ((execOp a o).run P w)) : Zul P L T J ops a0 i o :=
  Zku hg fun a w dn hr hw hin => h a.eval w (fun _ => rfl) (fun _ => rfl) dn hr hw hin
theorem Zt {J : (Nat → Bool) → (Nat → Value) → World → Prop} (hg : o.guard = none) (h : ∀ a w, (∀ x, a (.const x) = x) → (∀ f, a (.func f) = .func (.func f) #[] #[]) → ∀ dn, Zb0 ops i dn → J dn (gvE ops a) w → Zun L ops a0 i o a w → Zel P (Vw T i) w (fun v w' => J (upd dn i) (Ks (gvE ops a) i (dv o v)) w') (fun v w' => (X7 L i).2 v ((X7 L i).1.map (gvE ops a)) w') ((execOp a o).run P w)) : Zlt P L T J ops a0 i o :=
  Zks hg fun a w dn hr hw hin => h a.eval w (fun _ => rfl) (fun _ => rfl) dn hr hw hin
theorem Zt8 {j : Nat} (hj : (o.after.toList.any fun e => e.on == j && Region.binds .any e) = true) : ∃ e ∈ o.after.toList, e.on = j ∧ Region.binds .any e = true := by
  rw [List.any_eq_true] at hj;obtain ⟨e, he, h2⟩ := hj;simp only [Bool.and_eq_true, beq_iff_eq] at h2;exact ⟨e, he, h2⟩
theorem Zj (h : Zuo phi ops a0 i o a w) (j : Nat) (hj : (o.after.toList.any fun e => e.on == j && Region.binds .any e) = true) : phi j (gvE ops a j) w := by
  obtain ⟨e, he, rfl, h3⟩ := Zt8 hj;exact h.1 e he h3
theorem Z2 (h : Zuo phi ops a0 i o a w) (k : Nat) (hk : Zwd ops i k = true) : a (.tmp k) = a0.eval (.tmp k) := h.2 k (by rw [← Zo5]; exact hk)
theorem Ze (h : Zun L ops a0 i o a w) (j : Nat) (hj : (o.after.toList.any fun e => e.on == j && Region.binds .any e) = true) : (X7 L j).2 (gvE ops a j) ((X7 L j).1.map (gvE ops a)) w := by
  obtain ⟨e, he, rfl, h3⟩ := Zt8 hj;exact h.1 e he h3
theorem Zl (h : Zun L ops a0 i o a w) (k : Nat) (hk : Zwd ops i k = true) : a (.tmp k) = a0.eval (.tmp k) := h.2 k (by rw [← Zo5]; exact hk)
abbrev px (x : Value) : Pl := pl (ex x)
theorem se : V1 (px x) := Yj (Zm x)
theorem x5 {c : Prop} {s : Vi} : c ∨ ∀ v ds w w', s w w' → (px x).2 v ds w → (px x).2 v ds w' := .inr fun _ _ _ _ _ h => h
theorem n5 {d : Nat} {q : Prop} (h : some d = none) : q := by cases h
end Go.Proofs.YtpdnapbchcdhlacGreat.Reg
namespace Go.Proofs.YtpdnapbchcdhlacGreat.Reg
open Go Go.RowKit
variable {P : Program} {a0 : Act} {i : Nat} {o : Oper} {ops : Array Oper} {phi : Nat → Value → World → Prop} {w0 : World}
theorem Zz (j : Nat) (b : Bool) (hg : o.guard = some (j, b)) (hj : (o.after.toList.any fun e => e.on == j && Region.binds .any e) = true) (hp : phi j = ex (.bool !b)) (hu : ∀ w, phi i undef w) : Zhk P phi ops a0 w0 i o :=
  Zv1 j b (!b) hg (by cases b <;> decide) (fun _ w hin => (congrFun (congrFun hp _) w).mp (Znj hin j (by rw [← Array.any_toList]; exact hj))) hu
theorem Zu (j : Nat) (b : Bool) (hg : o.guard = some (j, b)) (hj : (o.after.toList.any fun e => e.on == j && Region.binds .any e) = true) (hp : phi j = ex (.bool b)) (h : ∀ a w, (∀ x, a (.const x) = x) → (∀ f, a (.func f) = .func (.func f) #[] #[]) → Zn w0 w → Zuo phi ops a0 i o a w → upon P w (phi i) ((execOp a o).run P w)) : Zhk P phi ops a0 w0 i o :=
  Zqe j b hg (fun _ w hin => (congrFun (congrFun hp _) w).mp (Znj hin j (by rw [← Array.any_toList]; exact hj))) h
theorem Vc (j : Nat) (b : Bool) (hg : o.guard = some (j, b)) (hj : (o.after.toList.any fun e => e.on == j && Region.binds .any e) = true) (hp : phi j = ex undef) (hu : ∀ w, phi i undef w) : Zhk P phi ops a0 w0 i o :=
  Zm9 j b hg (fun _ w hin => (congrFun (congrFun hp _) w).mp (Znj hin j (by rw [← Array.any_toList]; exact hj))) hu
end Go.Proofs.YtpdnapbchcdhlacGreat.Reg
