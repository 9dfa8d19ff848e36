import Derived.Orders
import Derived.Below
set_option maxHeartbeats 8000000
namespace Go.Proofs.YtpdnapbchcdhlacGreat.Reg
set_option maxRecDepth 100000
open Go Go.RowKit
variable {P : Program} {R : Value → World → Prop} {a0 : Act} {ev : Operand → Value} {i n : Nat} {listed : Array Bool} {o : Oper} {ops : Array Oper} {phi : Nat → Value → World → Prop} {w : World} {x : Operand}
def Zp (w w' : World) : Prop := Below w.heap.size w w'
theorem Zp.refl (w : World) : Zp w w := Below.refl _ _
theorem Zp.trans {a b c : World} (h : Zp a b) (k : Zp b c) : Zp a c := Below.trans h (Below.mono k h.size)
theorem Zp.drew {a : World} (h : Zp a w) : Zp a w.drew := Below.drew h
def gv (ops : Array Oper) (a : Act) (j : Nat) : Value :=
 match (ops[j]?).bind (·.dst) with
 | some d => a.eval (.tmp d)
 | none => undef
def ext (ops : Array Oper) (i k : Nat) : Bool :=
 (List.range ops.size).all fun j => j == i || ((ops[j]?).bind (·.dst)) != some k || (((ops[j]?).map fun o => o.after.any fun e => e.on == i && Region.binds .any e).getD false)
def Kt (ops : Array Oper) (a : Act) (o : Oper) : Prop :=
 match o.guard with
 | none => True
 | some (j, b) => gv ops a j = .bool b
def upon (P : Program) (w : World) (R : Value → World → Prop) : Result Next → Prop
 | .ok (.value v) w' => Zp w w' ∧ R v w'
 | .ok .skip w' => Zp w w' ∧ R undef w'
 | .ok (.enter f args) w' => Zp w w' ∧ Calls P f args w' (fun e w'' => ∃ v, e = .returned v ∧ Zp w' w'' ∧ R v w'')
 | _ => False
def Ins (phi : Nat → Value → World → Prop) (ops : Array Oper) (a0 : Act) (i : Nat) (o : Oper) (a : Act) (w : World) : Prop :=
 (∀ e ∈ o.after.toList, Region.binds .any e = true → phi e.on (gv ops a e.on) w) ∧ (∀ k, ext ops i k = true → a.eval (.tmp k) = a0.eval (.tmp k))
def Zh0 (P : Program) (phi : Nat → Value → World → Prop) (ops : Array Oper) (a0 : Act) (w0 : World) (i : Nat) (o : Oper) : Prop :=
 ∀ a w, Zp w0 w → Ins phi ops a0 i o a w → (Kt ops a o → upon P w (phi i) ((execOp a.eval o).run P w)) ∧ (¬ Kt ops a o → phi i undef w)
def Zj5 (P : Program) (phi : Nat → Value → World → Prop) (ops : Array Oper) (a0 : Act) (w0 : World) : List Oper → Nat → Prop
 | [], _ => True
 | o :: l, i => Zh0 P phi ops a0 w0 i o ∧ Zj5 P phi ops a0 w0 l (i + 1)
def Yf (vs : Nat → Value) : List Oper → Nat → Act → Act
 | [], _, a => a
 | o :: l, i, a => Yf vs l (i + 1) (a.put o.dst (vs i))
def Zhr (ops : Array Oper) (n : Nat) : Bool :=
 (List.range ops.size).all fun i =>
  ((ops[i]?).map fun o => o.after.all (fun e => decide (e.on < i) || !Region.binds .any e) && (match o.dst with
   | some d => decide (d < n) && (List.range ops.size).all fun j => j == i || ((ops[j]?).bind (·.dst)) != some d
   | none => true)).getD false
theorem J9 (b : Bool) : undef ≠ .bool b := by unfold undef; simp
theorem Zfq {a : Act} : Region.wanted o (yielded ops a.tmps) = true ↔ Kt ops a o := by
 unfold Region.wanted Kt;cases hg : o.guard with
 | none => simp
 | some p =>
  obtain ⟨j, b⟩ := p;simp only [gv, yielded];cases hd : (ops[j]?).bind (·.dst) with
  | none => simp only [Option.bind_none]; have := J9 b; simp [this]
  | some d =>
   simp only [Option.bind_some, Act.eval];cases ht : a.tmps[d]? with
   | none => have := J9 b; simp [ht, this]
   | some v => simp [ht]; cases v <;> simp
theorem Zab (a : Act) (x : Option Tmp) (v : Value) : (a.put x v).tmps.size = a.tmps.size := by cases x <;> simp [Act.put]
theorem evs (a : Act) : (∀ x, a.eval (.const x) = x) ∧ ∀ f, a.eval (.func f) = .func (.func f) #[] #[] := ⟨fun _ => rfl, fun _ => rfl⟩
theorem Zcv (a : Act) (d : Nat) (v : Value) (h : d < a.tmps.size) : (a.put (some d) v).eval (.tmp d) = v := by simp [Act.put, Act.eval, h]
theorem Zb1 (a : Act) (x : Option Tmp) (k : Nat) (v : Value) (h : x ≠ some k) : (a.put x v).eval (.tmp k) = a.eval (.tmp k) :=
 Act.eval_put (fun d hd e => by cases e; exact h hd)
theorem Zed (h : Zhr ops n = true) (hi : ops[i]? = some o) :
  (∀ e ∈ o.after.toList, Region.binds .any e = true → e.on < i) ∧ (∀ d, o.dst = some d → d < n ∧ ∀ j, j < ops.size → j ≠ i → (ops[j]?).bind (·.dst) ≠ some d) := by
 have hlt : i < ops.size := by
  rcases Nat.lt_or_ge i ops.size with h | h
  ·exact h
  ·simp [Array.getElem?_eq_none h] at hi
 unfold Zhr at h;rw [List.all_eq_true] at h;have h1 := h i (by simpa using hlt);simp only [hi, Option.map_some, Option.getD_some, Bool.and_eq_true] at h1;obtain ⟨h2, h3⟩ := h1;refine ⟨fun e he hbd => ?_, fun d hd => ?_⟩
 ·have := (Array.all_eq_true_iff_forall_mem.1 h2) e (by simpa using he);simpa [hbd] using this
 ·simp only [hd, Bool.and_eq_true, decide_eq_true_eq, List.all_eq_true] at h3;refine ⟨h3.1, fun j hj hji => ?_⟩;have := h3.2 j (by simpa using hj);simpa [hji] using this
theorem Va (l : Array Bool) (i j : Nat) (h : i < l.size) : (l.setIfInBounds i true).getD j false = if i = j then true else l.getD j false := by
 by_cases hij : i = j
 ·subst hij; simp [h]
 ·simp [hij, Array.getElem?_setIfInBounds_ne hij]
theorem Zga (h : i ∈ Region.ready .any ops listed) :
  ∃ o, ops[i]? = some o ∧ listed.getD i true = false ∧ ∀ e ∈ o.after.toList, Region.binds .any e = true → listed.getD e.on false = true := by
 unfold Region.ready at h;rw [List.mem_filter] at h;obtain ⟨h1, h2⟩ := h;simp only [Bool.and_eq_true, Bool.not_eq_true'] at h2;obtain ⟨h2, h3⟩ := h2;cases ho : ops[i]? with
 | none => simp [ho] at h3
 | some o =>
  refine ⟨o, rfl, h2, fun e he hb => ?_⟩;simp only [ho, Option.map_some, Option.getD_some] at h3;have := (Array.all_eq_true_iff_forall_mem.1 h3) e (by simpa using he);simpa [hb] using this
theorem Zqf (hB : Zhr ops n = true) (hs : listed.size = ops.size) (h : Region.ready .any ops listed = []) :
  ∀ i, i < ops.size → listed.getD i false = true := by
 intro i
 induction i using Nat.strongRecOn with
 | ind i ih =>
  intro hi;have ho : ops[i]? = some ops[i] := by simp [hi]
  obtain ⟨hb1, _⟩ := Zed hB ho;rcases hl : listed.getD i false with _ | _
  ·exfalso;have : i ∈ Region.ready .any ops listed := by
    unfold Region.ready;rw [List.mem_filter];refine ⟨by simpa using hi, ?_⟩;simp only [ho, Option.map_some, Option.getD_some, Bool.and_eq_true];refine ⟨?_, ?_⟩
    ·have : i < listed.size := by omega
     simp [this] at hl ⊢; exact hl
    ·rw [Array.all_eq_true_iff_forall_mem];intro e he;cases hbd : Region.binds .any e with
     | false => simp
     | true =>
      have h1 := hb1 e (by simpa using he) hbd;simp [ih e.on h1 (by omega)]
   rw [h] at this; simp at this
  ·rfl
def left (l : List Bool) : Nat := (l.filter (fun b => !b)).length
theorem Zlk : ∀ (l : List Bool) (i : Nat), l[i]? = some false → left (l.set i true) + 1 = left l
 | [], _, h => by simp at h
 | b :: l, 0, h => by simp at h; subst h; simp [left]
 | b :: l, i + 1, h => by
  have := Zlk l i (by simpa using h);simp only [List.set_cons_succ, left] at *;cases b <;> simp <;> omega
theorem Zil : ∀ (l : List Bool), left l = 0 → ∀ i, i < l.length → l[i]? = some true
 | [], _, i, h => by simp at h
 | b :: l, h, 0, _ => by cases b <;> simp [left] at h ⊢
 | b :: l, h, i + 1, hi => by
  have h' : left l = 0 := by cases b <;> simp_all [left]
  simpa using Zil l h' i (by simpa using hi)
theorem Ze3 (vs : Nat → Value) : ∀ (l : List Oper) (i : Nat) (a : Act), (Yf vs l i a).tmps.size = a.tmps.size ∧ (Yf vs l i a).defers = a.defers
 | [], _, _ => ⟨rfl, rfl⟩
 | o :: l, i, a => by
  have := Ze3 vs l (i + 1) (a.put o.dst (vs i));refine ⟨this.1.trans (Zab _ _ _), this.2.trans ?_⟩;cases o.dst <;> rfl
theorem Zef (vs : Nat → Value) (k : Nat) : ∀ (l : List Oper) (i : Nat) (a : Act), (∀ (j : Nat) (o : Oper), l[j]? = some o → o.dst ≠ some k) → (Yf vs l i a).eval (.tmp k) = a.eval (.tmp k)
 | [], _, _, _ => rfl
 | o :: l, i, a, h => by
  show (Yf vs l (i + 1) (a.put o.dst (vs i))).eval (.tmp k) = _;rw [Zef vs k l (i + 1) _ (fun j p hj => h (j + 1) p (by simpa using hj)), Zb1 _ _ _ _ (h 0 o (by simp))]
theorem Zic (vs : Nat → Value) (k : Nat) : ∀ (l : List Oper) (i : Nat) (a : Act) (j : Nat) (o : Oper), l[j]? = some o → o.dst = some k → k < a.tmps.size →
  (∀ j' o', l[j']? = some o' → j' ≠ j → o'.dst ≠ some k) → (Yf vs l i a).eval (.tmp k) = vs (i + j)
 | [], _, _, _, _, h, _, _, _ => by simp at h
 | o' :: l, i, a, 0, o, h, hd, hk, hu => by
  simp at h; subst h;show (Yf vs l (i + 1) (a.put o'.dst (vs i))).eval (.tmp k) = _;rw [Zef vs k l (i + 1) _ (fun j p hj => hu (j + 1) p (by simpa using hj) (by omega)), hd];exact Zcv a k _ hk
 | o' :: l, i, a, j + 1, o, h, hd, hk, hu => by
  show (Yf vs l (i + 1) (a.put o'.dst (vs i))).eval (.tmp k) = _;rw [Zic vs k l (i + 1) _ j o (by simpa using h) hd (by rw [Zab]; exact hk) (fun j' p hj hne => hu (j' + 1) p (by simpa using hj) (by omega))]
  congr 1; omega
theorem Zw6 {a b : Act} (h1 : a.tmps.size = b.tmps.size) (h2 : a.defers = b.defers) (h3 : ∀ k, k < a.tmps.size → a.eval (.tmp k) = b.eval (.tmp k)) : a = b := by
 obtain ⟨ta, da⟩ := a;obtain ⟨tb, db⟩ := b;simp at h1 h2; subst h2
 congr 1
 refine Array.ext h1 fun k hk1 hk2 => ?_;have := h3 k (by simpa using hk1);simpa [Act.eval, hk1, hk2] using this
theorem Zuj {k : Nat} (h : ext ops i k = true) {j : Nat} (hj : ops[j]? = some o) (hd : o.dst = some k) (hne : j ≠ i) :
  ∃ e ∈ o.after.toList, e.on = i ∧ Region.binds .any e = true := by
 have hlt : j < ops.size := by
  rcases Nat.lt_or_ge j ops.size with h | h
  ·exact h
  ·simp [Array.getElem?_eq_none h] at hj
 unfold ext at h;rw [List.all_eq_true] at h;have := h j (by simpa using hlt);simp only [hj, Option.bind_some, hd, Option.map_some, Option.getD_some, Bool.or_eq_true, beq_iff_eq, bne_self_eq_false, Bool.false_eq_true, or_false] at this;rcases this with h1 | h1
 ·exact absurd h1 hne
 ·rw [← Array.any_toList, List.any_eq_true] at h1;obtain ⟨e, he, h2⟩ := h1;simp only [Bool.and_eq_true, beq_iff_eq] at h2;exact ⟨e, by simpa using he, h2.1, h2.2⟩
theorem Zgu (n : Nat) : left (List.replicate n false) = n := by
 unfold left;rw [List.filter_eq_self.2 (fun b hb => by simp [List.eq_of_mem_replicate hb])];simp
def ex (x : Value) : Value → World → Prop := fun v _ => v = x
def Xw (p : Value → World → Prop) : Prop := ∀ v w w', Zp w w' → p v w → p v w'
theorem Zh (x : Value) : Xw (ex x) := fun _ _ _ _ h => h
def Zph (L : List (Value → World → Prop)) (i : Nat) : Value → World → Prop := L.getD i (fun _ _ => True)
def Zuy : List (Value → World → Prop) → Prop
 | [] => True
 | p :: L => Xw p ∧ Zuy L
def Zj1 (vs : Nat → Value) (w : World) : List (Value → World → Prop) → Nat → Prop
 | [], _ => True
 | p :: L, i => p (vs i) w ∧ Zj1 vs w L (i + 1)
def Zyf (l : List Oper) : Bool := l.all fun o => o.dst.isSome
theorem Zns {P : Program} {phi : Nat → Value → World → Prop} {ops : Array Oper} {a0 : Act} {w0 : World} {i : Nat} (hg : o.guard = none)
  (h : ∀ a w, Zp w0 w → Ins phi ops a0 i o a w → upon P w (phi i) ((execOp a.eval o).run P w)) : Zh0 P phi ops a0 w0 i o :=
 fun a w hw hin => ⟨fun _ => h a w hw hin, fun hn => absurd (by unfold Kt; rw [hg]; trivial) hn⟩
theorem Ztz {P : Program} {phi : Nat → Value → World → Prop} {ops : Array Oper} {a0 : Act} {w0 : World} {i : Nat} (j : Nat) (b : Bool) (hg : o.guard = some (j, b))
  (hy : ∀ a w, Ins phi ops a0 i o a w → gv ops a j = .bool b)
  (h : ∀ a w, Zp w0 w → Ins phi ops a0 i o a w → upon P w (phi i) ((execOp a.eval o).run P w)) : Zh0 P phi ops a0 w0 i o :=
 fun a w hw hin => ⟨fun _ => h a w hw hin, fun hn => absurd (by unfold Kt; rw [hg]; exact hy a w hin) hn⟩
theorem Zwl {P : Program} {phi : Nat → Value → World → Prop} {ops : Array Oper} {a0 : Act} {w0 : World} {i : Nat} (j : Nat) (b c : Bool) (hg : o.guard = some (j, b)) (hbc : b ≠ c)
  (hy : ∀ a w, Ins phi ops a0 i o a w → gv ops a j = .bool c) (hu : ∀ w, phi i undef w) : Zh0 P phi ops a0 w0 i o :=
 fun a w hw hin => ⟨fun hn => by
  unfold Kt at hn; rw [hg] at hn;have h1 := hy a w hin;have h2 : gv ops a j = .bool b := hn;rw [h1] at h2;exact absurd (by cases h2; rfl) hbc, fun _ => hu w⟩
theorem Znr {P : Program} {phi : Nat → Value → World → Prop} {ops : Array Oper} {a0 : Act} {w0 : World} {i : Nat} (j : Nat) (b : Bool) (hg : o.guard = some (j, b))
  (hy : ∀ a w, Ins phi ops a0 i o a w → gv ops a j = undef) (hu : ∀ w, phi i undef w) : Zh0 P phi ops a0 w0 i o :=
 fun a w hw hin => ⟨fun hn => by
  unfold Kt at hn; rw [hg] at hn;have h1 := hy a w hin;have h2 : gv ops a j = .bool b := hn;rw [h1] at h2;exact absurd h2 (J9 b), fun _ => hu w⟩
theorem Zn1 {a : Act} (h : Ins phi ops a0 i o a w) (j : Nat)
  (hj : (o.after.any fun e => e.on == j && Region.binds .any e) = true) : phi j (gv ops a j) w := by
 rw [← Array.any_toList, List.any_eq_true] at hj;obtain ⟨e, he, h2⟩ := hj;simp only [Bool.and_eq_true, beq_iff_eq] at h2;obtain ⟨rfl, h3⟩ := h2;exact h.1 e he h3
theorem Zzh {a : Act} (h : Ins phi ops a0 i o a w) (k : Nat) (hk : ext ops i k = true) :
  a.eval (.tmp k) = a0.eval (.tmp k) := h.2 k hk
theorem Zs (ho : o.op = .move x) (h : R (ev x) w) : upon P w R ((execOp ev o).run P w) := by
 unfold execOp; rw [ho]; exact ⟨Zp.refl w, h⟩
theorem Yw (ho : o.op = .assign x) (h : R (ev x) w) : upon P w R ((execOp ev o).run P w) := by
 unfold execOp; rw [ho]; exact ⟨Zp.refl w, h⟩
theorem Y3 {c y : Operand} {b : Bool} (ho : o.op = .pick c x y) (hc : ev c = .bool b) (h : R (if b then ev x else ev y) w) : upon P w R ((execOp ev o).run P w) := by
 unfold execOp; rw [ho]; simp only [hc]; cases b <;> exact ⟨Zp.refl w, h⟩
theorem Zi {v : Value} (h : (execOp ev o).run P w = .ok (.value v) w) (hv : R v w) : upon P w R ((execOp ev o).run P w) := by
 rw [h]; exact ⟨Zp.refl w, hv⟩
theorem Yy {R : Value → World → Prop} {f : FuncId} {args : Array Value} (h : (execOp ev o).run P w = .ok (.enter f args) w)
  (hc : Calls P f args w fun e w'' => ∃ v, e = .returned v ∧ Zp w w'' ∧ R v w'') : upon P w R ((execOp ev o).run P w) := by
 rw [h]; exact ⟨Zp.refl w, hc⟩
end Go.Proofs.YtpdnapbchcdhlacGreat.Reg
namespace Go.Proofs.YtpdnapbchcdhlacGreat.Plain
set_option maxRecDepth 100000
def next (s : Int) (c : UInt8) : Int := (s * 131 + (c.toNat : Int) + 1) % 65521
def Xh (l : List UInt8) : Int := l.foldl next 3
theorem Zp3 : Xh [] = 3 := rfl
theorem Zft (l : List UInt8) (c : UInt8) : Xh (l ++ [c]) = (Xh l * 131 + (c.toNat : Int) + 1) % 65521 := by
 simp [Xh, next, List.foldl_append]
theorem Zah (l : List UInt8) : 0 ≤ Xh l ∧ Xh l < 65521 := by
 have key : ∀ (l : List UInt8) (s : Int), 0 ≤ s → s < 65521 → 0 ≤ l.foldl next s ∧ l.foldl next s < 65521 := by
  intro l
  induction l with
  | nil => intro s h1 h2; exact ⟨h1, h2⟩
  | cons c l ih =>
   intro s h1 h2;refine ih _ ?_ ?_ <;> unfold next <;> omega
 exact key l 3 (by omega) (by omega)
theorem Zd6 (l : List UInt8) (k : Nat) (h : k < l.length) : l.take (k + 1) = l.take k ++ [l[k]] := by
 rw [List.take_succ_eq_append_getElem h]
def hi (n : Int) : UInt8 := UInt8.ofNat ((n / 256) % 256).toNat
def lo (n : Int) : UInt8 := UInt8.ofNat (n % 256).toNat
theorem Zg3 (n : Int) : ((hi n).toNat : Int) = (n / 256) % 256 := by unfold hi; rw [UInt8.toNat_ofNat']; omega
theorem Kn (n : Int) : ((lo n).toNat : Int) = n % 256 := by unfold lo; rw [UInt8.toNat_ofNat']; omega
def Xr (l : List UInt8) : List UInt8 := l ++ [hi (Xh l), lo (Xh l)]
theorem Zco (l : List UInt8) : (Xr l).length = l.length + 2 := by simp [Xr]
theorem Ztw (s t : Int) (c : UInt8) (hs : 0 ≤ s) (hs' : s < 65521) (ht : 0 ≤ t) (ht' : t < 65521) (h : next s c = next t c) : s = t := by
 unfold next at h; omega
theorem Zwh (s : Int) (c d : UInt8) (hcd : c ≠ d) : next s c ≠ next s d := by
 intro h;apply hcd;have hc : c.toNat < 256 := UInt8.toNat_lt _;have hd : d.toNat < 256 := UInt8.toNat_lt _;unfold next at h
 refine UInt8.toNat_inj.1 ?_;omega
theorem Kr (s : Int) (c : UInt8) : 0 ≤ next s c ∧ next s c < 65521 := by unfold next; omega
theorem Zlt : ∀ (l : List UInt8) (s t : Int), 0 ≤ s → s < 65521 → 0 ≤ t → t < 65521 → l.foldl next s = l.foldl next t → s = t
 | [], _, _, _, _, _, _, h => h
 | c :: l, s, t, h1, h2, h3, h4, h => by
  have := Zlt l _ _ (Kr s c).1 (Kr s c).2 (Kr t c).1 (Kr t c).2 h;exact Ztw s t c h1 h2 h3 h4 this
theorem Zls : ∀ (l : List UInt8) (s : Int) (k : Nat) (c : UInt8) (hk : k < l.length), 0 ≤ s → s < 65521 → l[k] ≠ c → (l.set k c).foldl next s ≠ l.foldl next s
 | [], _, _, _, hk, _, _, _ => by simp at hk
 | d :: l, s, 0, c, _, h1, h2, hne => by
  intro h;have h3 : next s c = next s d := Zlt l _ _ (Kr s c).1 (Kr s c).2 (Kr s d).1 (Kr s d).2 h
  exact Zwh s d c (by simpa using hne) h3.symm
 | d :: l, s, k + 1, c, hk, h1, h2, hne => Zls l (next s d) k c (by simpa using hk) (Kr s d).1 (Kr s d).2 (by simpa using hne)
theorem Zvi (l : List UInt8) (k : Nat) (c : UInt8) (hk : k < l.length) (hne : l[k] ≠ c) : Xh (l.set k c) ≠ Xh l :=
 Zls l 3 k c hk (by omega) (by omega) hne
def Xj (l : List UInt8) : Bool := decide (2 ≤ l.length) && (((l.getD (l.length - 2) 0).toNat : Int) * 256 + ((l.getD (l.length - 1) 0).toNat : Int) == Xh (l.take (l.length - 2)))
theorem J0 (l : List UInt8) (x y : UInt8) : Xj (l ++ [x, y]) = ((x.toNat : Int) * 256 + (y.toNat : Int) == Xh l) := by
 have e : (l ++ [x, y]).length = l.length + 2 := by simp
 unfold Xj;rw [e, show l.length + 2 - 2 = l.length from by omega, show l.length + 2 - 1 = l.length + 1 from by omega, decide_eq_true (by omega : 2 ≤ l.length + 2), Bool.true_and];simp [List.getD_eq_getElem?_getD]
theorem Zcz (x y : UInt8) (s : Int) (h0 : 0 ≤ s) (h1 : s < 65536) : ((x.toNat : Int) * 256 + (y.toNat : Int) = s) ↔ (hi s = x ∧ lo s = y) := by
 have hx : x.toNat < 256 := UInt8.toNat_lt _;have hy : y.toNat < 256 := UInt8.toNat_lt _;have h2 := Zg3 s;have h3 := Kn s;constructor
 ·intro h;refine ⟨UInt8.toNat_inj.1 ?_, UInt8.toNat_inj.1 ?_⟩ <;> omega
 ·rintro ⟨rfl, rfl⟩;omega
theorem Zf2 (l : List UInt8) : Xj (Xr l) = true := by
 have hs := Zah l;unfold Xr;rw [J0, beq_iff_eq, Zcz _ _ _ hs.1 (by omega)];exact ⟨rfl, rfl⟩
theorem Zkk (l : List UInt8) (k : Nat) (c : UInt8) (hk : k < (Xr l).length) (hne : (Xr l)[k] ≠ c) : Xj ((Xr l).set k c) = false := by
 have hs := Zah l;have he : (Xr l).length = l.length + 2 := Zco l;by_cases h1 : k < l.length
 ·have e : (Xr l).set k c = l.set k c ++ [hi (Xh l), lo (Xh l)] := by unfold Xr; rw [List.set_append_left _ _ h1]
  rw [e, J0, beq_eq_false_iff_ne];intro h;have h2 : ((hi (Xh l)).toNat : Int) * 256 + ((lo (Xh l)).toNat : Int) = Xh l := (Zcz _ _ _ hs.1 (by omega)).2 ⟨rfl, rfl⟩;refine Zvi l k c h1 ?_ (h.symm.trans h2);have : (Xr l)[k] = l[k] := by unfold Xr; exact List.getElem_append_left h1
  rw [← this]; exact hne
 ·by_cases h2 : k = l.length
  ·have e : (Xr l).set k c = l ++ [c, lo (Xh l)] := by unfold Xr; rw [List.set_append_right _ _ (by omega), h2]; simp
   rw [e, J0, beq_eq_false_iff_ne];intro h;have := (Zcz _ _ _ hs.1 (by omega)).1 h;apply hne;subst h2;simp [Xr, this.1]
  ·have h3 : k = l.length + 1 := by omega
   have e : (Xr l).set k c = l ++ [hi (Xh l), c] := by unfold Xr; rw [List.set_append_right _ _ (by omega), h3]; simp
   rw [e, J0, beq_eq_false_iff_ne];intro h;have := (Zcz _ _ _ hs.1 (by omega)).1 h;apply hne;subst h3;simp [Xr, this.2]
end Go.Proofs.YtpdnapbchcdhlacGreat.Plain
namespace Go.Proofs.YtpdnapbchcdhlacGreat.Reg
set_option maxRecDepth 100000
open Go Go.RowKit
variable {J : World → Prop} {P : Program} {R : Value → World → Prop} {a a0 : Act} {ev : Operand → Value} {i : Nat} {o : Oper} {ops : Array Oper} {v : Value} {w w' : World} {x : Operand}
abbrev Pl := List Nat × (Value → List Value → World → Prop)
def pl (q : Value → World → Prop) : Pl := ([], fun v _ w => q v w)
def pl1 (d : Nat) (q : Value → Value → World → Prop) : Pl := ([d], fun v ds w => q v (ds.getD 0 undef) w)
def X9 (L : List Pl) (i : Nat) : Pl := L.getD i ([], fun _ _ _ => True)
def Ztl (L : List Pl) (i : Nat) (f : Nat → Value) (w : World) : Prop := (X9 L i).2 (f i) ((X9 L i).1.map f) w
def Kw (f : Nat → Value) (i : Nat) (v : Value) : Nat → Value := fun j => if j = i then v else f j
abbrev Vh := World → World → Prop
def Vv (T : List (Option Vh)) (j : Nat) : Vh := match T.getD j none with
 | none => Zp
 | some s => s
def Jg (ops : Array Oper) (i j : Nat) : Bool := ((ops[i]?).map fun o => o.after.any fun e => e.on == j && Region.binds .any e).getD false
def Ki (P : Program) (s : Vh) (J : World → Prop) (w : World) (R : Value → World → Prop) : Result Next → Prop
 | .ok (.value v) w' => s w w' ∧ J w' ∧ R v w'
 | .ok .skip w' => s w w' ∧ J w' ∧ R undef w'
 | .ok (.enter f args) w' => Calls P f args w' (fun e w'' => ∃ v, e = .returned v ∧ s w w'' ∧ J w'' ∧ R v w'')
 | _ => False
def Zj6 (L : List Pl) (ops : Array Oper) (a0 : Act) (i : Nat) (o : Oper) (a : Act) (w : World) : Prop :=
 (∀ e ∈ o.after.toList, Region.binds .any e = true → Ztl L e.on (gv ops a) w) ∧ (∀ k, ext ops i k = true → a.eval (.tmp k) = a0.eval (.tmp k))
def Zu3 (P : Program) (L : List Pl) (T : List (Option Vh)) (J : World → Prop) (ops : Array Oper) (a0 : Act) (i : Nat) (o : Oper) : Prop :=
 ∀ a w, J w → Zj6 L ops a0 i o a w → (Kt ops a o → Ki P (Vv T i) J w (fun v w' => (X9 L i).2 v ((X9 L i).1.map (gv ops a)) w') ((execOp a.eval o).run P w)) ∧ (¬ Kt ops a o → (X9 L i).2 undef ((X9 L i).1.map (gv ops a)) w)
def Zdy (P : Program) (L : List Pl) (T : List (Option Vh)) (J : World → Prop) (ops : Array Oper) (a0 : Act) : List Oper → Nat → Prop
 | [], _ => True
 | o :: l, i => Zu3 P L T J ops a0 i o ∧ Zdy P L T J ops a0 l (i + 1)
def Zl2 (L : List Pl) (ops : Array Oper) : Bool := (List.range ops.size).all fun i => (X9 L i).1.all fun d => Jg ops i d
theorem Zul {L : List Pl} (h : Zl2 L ops = true) (hi : ops[i]? = some o) {d : Nat} (hd : d ∈ (X9 L i).1) : ∃ e ∈ o.after.toList, e.on = d ∧ Region.binds .any e = true := by
 have hlt : i < ops.size := by
  rcases Nat.lt_or_ge i ops.size with h | h
  ·exact h
  ·simp [Array.getElem?_eq_none h] at hi
 unfold Zl2 at h;rw [List.all_eq_true] at h;have h1 := h i (by simpa using hlt);rw [List.all_eq_true] at h1;have h2 := h1 d hd;simp only [Jg, hi, Option.map_some, Option.getD_some] at h2;rw [← Array.any_toList, List.any_eq_true] at h2;obtain ⟨e, he, h3⟩ := h2;simp only [Bool.and_eq_true, beq_iff_eq] at h3;exact ⟨e, he, h3.1, h3.2⟩
def V2 (p : Pl) : Prop := ∀ v ds w w', Zp w w' → p.2 v ds w → p.2 v ds w'
def Zeu : List Pl → Prop
 | [] => True
 | p :: L => V2 p ∧ Zeu L
def Za0 (vs : Nat → Value) (w : World) : List Pl → Nat → Prop
 | [], _ => True
 | p :: L, i => p.2 (vs i) (p.1.map vs) w ∧ Za0 vs w L (i + 1)
def Zw7 (s : Vh) (ops : Array Oper) (j : Nat) : List Pl → Nat → Prop
 | [], _ => True
 | p :: L, i => ((i == j || Jg ops i j) = true ∨ ∀ v ds w w', s w w' → p.2 v ds w → p.2 v ds w') ∧ Zw7 s ops j L (i + 1)
def Ziy (L : List Pl) (ops : Array Oper) : List (Option Vh) → Nat → Prop
 | [], _ => True
 | none :: T, j => Ziy L ops T (j + 1)
 | some s :: T, j => ((∀ w, s w w) ∧ Zw7 s ops j L 0) ∧ Ziy L ops T (j + 1)
def Zcm : List Pl → List Oper → Prop
 | [], _ => True
 | _, [] => True
 | p :: L, o :: l => (o.dst = none → ∀ v ds w, p.2 v ds w → p.2 undef ds w) ∧ Zcm L l
theorem Yl {q : Value → World → Prop} (h : Xw q) : V2 (pl q) := fun v _ w w' hg hq => h v w w' hg hq
theorem Zh4 : ∀ (L : List Pl) (i : Nat), Zeu L → V2 (X9 L i)
 | [], i, _ => fun _ _ _ _ _ _ => by simp [X9]
 | p :: L, 0, h => h.1
 | p :: L, i + 1, h => Zh4 L i h.2
theorem Zo8 {s : Vh} {j : Nat} : ∀ (L : List Pl) (k i : Nat), Zw7 s ops j L k → k + i ≠ j → Jg ops (k + i) j = false → ∀ v ds w w', s w w' → (X9 L i).2 v ds w → (X9 L i).2 v ds w'
 | [], k, i, _, _, _ => fun _ _ _ _ _ _ => by simp [X9]
 | p :: L, k, 0, h, hne, hw => by
  rcases h.1 with h1 | h1
  ·simp only [Bool.or_eq_true, beq_iff_eq] at h1;rcases h1 with h1 | h1
   ·exact absurd h1 hne
   ·rw [Nat.add_zero] at hw; rw [hw] at h1; cases h1
  ·exact h1
 | p :: L, k, i + 1, h, hne, hw => by
  have := Zo8 L (k + 1) i h.2 (by omega) (by rw [show k + 1 + i = k + (i + 1) from by omega]; exact hw);exact this
theorem Zde {L : List Pl} : ∀ (T : List (Option Vh)) (k j : Nat) (s : Vh), Ziy L ops T k → T.getD j none = some s → (∀ w, s w w) ∧ Zw7 s ops (k + j) L 0
 | [], k, j, s, _, h => by simp at h
 | none :: T, k, 0, s, _, h => by simp at h
 | some s' :: T, k, 0, s, h, hs => by simp at hs; subst hs; exact h.1
 | none :: T, k, j + 1, s, h, hs => by
  have := Zde T (k + 1) j s h (by simpa using hs)
  rwa [show k + 1 + j = k + (j + 1) from by omega] at this
 | some s' :: T, k, j + 1, s, h, hs => by
  have := Zde T (k + 1) j s h.2 (by simpa using hs)
  rwa [show k + 1 + j = k + (j + 1) from by omega] at this
theorem Zgk : ∀ (L : List Pl) (l : List Oper) (i : Nat) (o : Oper), Zcm L l → l[i]? = some o → o.dst = none → ∀ v ds w, (X9 L i).2 v ds w → (X9 L i).2 undef ds w
 | [], _, i, _, _, _, _ => fun _ _ _ _ => by simp [X9]
 | _ :: _, [], i, _, _, h, _ => by simp at h
 | p :: L, o' :: l, 0, o, h, ho, hd => by simp at ho; subst ho; exact h.1 hd
 | p :: L, o' :: l, i + 1, o, h, ho, hd => Zgk L l i o h.2 (by simpa using ho) hd
theorem Zex (vs : Nat → Value) (w : World) : ∀ (L : List Pl) (k : Nat), (∀ i, i < L.length → (X9 L i).2 (vs (k + i)) ((X9 L i).1.map vs) w) → Za0 vs w L k
 | [], _, _ => trivial
 | p :: L, k, h => ⟨h 0 (by simp), Zex vs w L (k + 1) (fun i hi => by
   have := h (i + 1) (by simpa using hi);rw [show k + (i + 1) = k + 1 + i from by omega] at this;exact this)⟩
theorem Zle {P : Program} {L : List Pl} {T : List (Option Vh)} {J : World → Prop} {ops : Array Oper} {a0 : Act} {i : Nat} (hg : o.guard = none)
  (h : ∀ a w, J w → Zj6 L ops a0 i o a w → Ki P (Vv T i) J w (fun v w' => (X9 L i).2 v ((X9 L i).1.map (gv ops a)) w') ((execOp a.eval o).run P w)) : Zu3 P L T J ops a0 i o :=
 fun a w hw hin => ⟨fun _ => h a w hw hin, fun hn => absurd (by unfold Kt; rw [hg]; trivial) hn⟩
theorem Zzg {L : List Pl} (h : Zj6 L ops a0 i o a w) (j : Nat)
  (hj : (o.after.any fun e => e.on == j && Region.binds .any e) = true) : (X9 L j).2 (gv ops a j) ((X9 L j).1.map (gv ops a)) w := by
 rw [← Array.any_toList, List.any_eq_true] at hj;obtain ⟨e, he, h2⟩ := hj;simp only [Bool.and_eq_true, beq_iff_eq] at h2;obtain ⟨rfl, h3⟩ := h2;exact h.1 e he h3
theorem Zy3 {L : List Pl} (h : Zj6 L ops a0 i o a w) (k : Nat) (hk : ext ops i k = true) :
  a.eval (.tmp k) = a0.eval (.tmp k) := h.2 k hk
theorem Z8 (ho : o.op = .move x) (hJ : J w) (h : R (ev x) w) : Ki P Zp J w R ((execOp ev o).run P w) := by
 unfold execOp; rw [ho]; exact ⟨Zp.refl w, hJ, h⟩
theorem Xe (ho : o.op = .assign x) (hJ : J w) (h : R (ev x) w) : Ki P Zp J w R ((execOp ev o).run P w) := by
 unfold execOp; rw [ho]; exact ⟨Zp.refl w, hJ, h⟩
theorem Zk (h : (execOp ev o).run P w = .ok (.value v) w) (hJ : J w) (hv : R v w) : Ki P Zp J w R ((execOp ev o).run P w) := by
 rw [h]; exact ⟨Zp.refl w, hJ, hv⟩
theorem Qm {s : Vh} (h : (execOp ev o).run P w = .ok (.value v) w') (hs : s w w') (hJ : J w') (hv : R v w') : Ki P s J w R ((execOp ev o).run P w) := by
 rw [h]; exact ⟨hs, hJ, hv⟩
theorem Yj {s : Vh} (h : (execOp ev o).run P w = .ok .skip w') (hs : s w w') (hJ : J w') (hv : R undef w') : Ki P s J w R ((execOp ev o).run P w) := by
 rw [h]; exact ⟨hs, hJ, hv⟩
theorem Yh {s : Vh} {J : World → Prop} {R : Value → World → Prop} {f : FuncId} {args : Array Value} (h : (execOp ev o).run P w = .ok (.enter f args) w)
  (hc : Calls P f args w fun e w'' => ∃ v, e = .returned v ∧ s w w'' ∧ J w'' ∧ R v w'') : Ki P s J w R ((execOp ev o).run P w) := by
 rw [h]; exact hc
end Go.Proofs.YtpdnapbchcdhlacGreat.Reg
namespace Go.Proofs.YtpdnapbchcdhlacGreat.Reg
set_option maxRecDepth 100000
open Go Go.RowKit
variable {dn : Nat → Bool} {i : Nat} {ops : Array Oper}
def upd (dn : Nat → Bool) (i : Nat) : Nat → Bool := fun j => if j = i then true else dn j
structure Zb5 (ops : Array Oper) (i : Nat) (dn : Nat → Bool) : Prop where
 un : dn i = false
 rd : ∀ j, Jg ops i j = true → dn j = true
 cl : ∀ j k, Jg ops j k = true → dn j = true → dn k = true
theorem Zb5.not1 (h : Zb5 ops i dn) (j : Nat) (hj : Jg ops j i = true) : dn j = false := by
 cases hd : dn j with
 | false => rfl
 | true => have := h.cl j i hj hd; rw [h.un] at this; cases this
theorem Zb5.notBy (h : Zb5 ops i dn) (j k : Nat) (hk : dn k = false) (hj : Jg ops j k = true) : dn j = false := by
 cases hd : dn j with
 | false => rfl
 | true => have := h.cl j k hj hd; rw [hk] at this; cases this
theorem Zmm {listed : Array Bool} (h : i < listed.size) : (fun j => (listed.setIfInBounds i true).getD j false) = upd (fun j => listed.getD j false) i := by
 funext j
 show (listed.setIfInBounds i true).getD j false = _;rw [Va _ _ _ h];unfold upd;by_cases hij : i = j
 ·subst hij; simp
 ·rw [if_neg hij, if_neg (fun e => hij e.symm)]
def Zu4 (P : Program) (L : List Pl) (T : List (Option Vh)) (J : (Nat → Bool) → World → Prop) (ops : Array Oper) (a0 : Act) (i : Nat) (o : Oper) : Prop :=
 ∀ a w dn, Zb5 ops i dn → J dn w → Zj6 L ops a0 i o a w → (Kt ops a o → Ki P (Vv T i) (J (upd dn i)) w (fun v w' => (X9 L i).2 v ((X9 L i).1.map (gv ops a)) w') ((execOp a.eval o).run P w)) ∧ (¬ Kt ops a o → J (upd dn i) w ∧ (X9 L i).2 undef ((X9 L i).1.map (gv ops a)) w)
def Zdz (P : Program) (L : List Pl) (T : List (Option Vh)) (J : (Nat → Bool) → World → Prop) (ops : Array Oper) (a0 : Act) : List Oper → Nat → Prop
 | [], _ => True
 | o :: l, i => Zu4 P L T J ops a0 i o ∧ Zdz P L T J ops a0 l (i + 1)
theorem Zlf {P : Program} {L : List Pl} {T : List (Option Vh)} {J : (Nat → Bool) → World → Prop} {ops : Array Oper} {a0 : Act} {i : Nat} {o : Oper} (hg : o.guard = none)
  (h : ∀ a w dn, Zb5 ops i dn → J dn w → Zj6 L ops a0 i o a w → Ki P (Vv T i) (J (upd dn i)) w (fun v w' => (X9 L i).2 v ((X9 L i).1.map (gv ops a)) w') ((execOp a.eval o).run P w)) : Zu4 P L T J ops a0 i o :=
 fun a w dn hr hw hin => ⟨fun _ => h a w dn hr hw hin, fun hn => absurd (by unfold Kt; rw [hg]; trivial) hn⟩
end Go.Proofs.YtpdnapbchcdhlacGreat.Reg
namespace Go.Proofs.YtpdnapbchcdhlacGreat.Reg
set_option maxRecDepth 100000
open Go Go.RowKit
variable {P : Program} {R : Value → World → Prop} {a0 : Act} {ev : Operand → Value} {o : Oper} {ops : Array Oper} {v : Value} {w w' w0 : World} {x : Operand}
def dv (o : Oper) (v : Value) : Value := match o.dst with
 | none => undef
 | some _ => v
abbrev Zew (P : Program) (s : Vh) (w : World) (J R : Value → World → Prop) : Result Next → Prop := Ki P s (fun _ => True) w (fun v w' => J v w' ∧ R v w')
def Zme (P : Program) (L : List Pl) (T : List (Option Vh)) (J : (Nat → Bool) → (Nat → Value) → World → Prop) (ops : Array Oper) (a0 : Act) (i : Nat) (o : Oper) : Prop :=
 ∀ a w dn, Zb5 ops i dn → J dn (gv ops a) w → Zj6 L ops a0 i o a w → (Kt ops a o → Zew P (Vv T i) w (fun v w' => J (upd dn i) (Kw (gv ops a) i (dv o v)) w') (fun v w' => (X9 L i).2 v ((X9 L i).1.map (gv ops a)) w') ((execOp a.eval o).run P w)) ∧ (¬ Kt ops a o → J (upd dn i) (Kw (gv ops a) i undef) w ∧ (X9 L i).2 undef ((X9 L i).1.map (gv ops a)) w)
def Zdx (P : Program) (L : List Pl) (T : List (Option Vh)) (J : (Nat → Bool) → (Nat → Value) → World → Prop) (ops : Array Oper) (a0 : Act) : List Oper → Nat → Prop
 | [], _ => True
 | o :: l, i => Zme P L T J ops a0 i o ∧ Zdx P L T J ops a0 l (i + 1)
theorem Ze6 {P : Program} {L : List Pl} {T : List (Option Vh)} {J : (Nat → Bool) → (Nat → Value) → World → Prop} {ops : Array Oper} {a0 : Act} :
  ∀ (l : List Oper) (i j : Nat) (o : Oper), Zdx P L T J ops a0 l i → l[j]? = some o → Zme P L T J ops a0 (i + j) o
 | [], _, _, _, _, h => by simp at h
 | o' :: l, i, 0, o, h, hj => by simp at hj; subst hj; exact h.1
 | o' :: l, i, j + 1, o, h, hj => by
  have := Ze6 l (i + 1) j o h.2 (by simpa using hj)
  rwa [show i + 1 + j = i + (j + 1) from by omega] at this
structure Zu5 (L : List Pl) (J : (Nat → Bool) → (Nat → Value) → World → Prop) (ops : Array Oper) (a0 : Act) (listed : Array Bool) (a : Act) (w : World) : Prop where
 lsize : listed.size = ops.size
 keep : J (fun j => listed.getD j false) (gv ops a) w
 tsize : a.tmps.size = a0.tmps.size
 defers : a.defers = a0.defers
 told : ∀ i o, ops[i]? = some o → listed.getD i false = true → Ztl L i (gv ops a) w
 kept : ∀ k, (∀ i o, ops[i]? = some o → listed.getD i false = true → o.dst ≠ some k) → a.eval (.tmp k) = a0.eval (.tmp k)
 closed : ∀ i o, ops[i]? = some o → listed.getD i false = true → ∀ e ∈ o.after.toList, Region.binds .any e = true → listed.getD e.on false = true
theorem Zgy {L : List Pl} {T : List (Option Vh)} {J : (Nat → Bool) → (Nat → Value) → World → Prop} {ops : Array Oper} {a0 : Act} {listed : Array Bool} {a : Act} {w w' : World} {i : Nat} {o : Oper} {v : Value}
  (hst : ∀ i j v ds w w', i ≠ j → Jg ops i j = false → Vv T j w w' → (X9 L i).2 v ds w → (X9 L i).2 v ds w') (hD : Zl2 L ops = true) (hB : Zhr ops a0.tmps.size = true) (hi : ops[i]? = some o) (I : Zu5 L J ops a0 listed a w)
  (hun : listed.getD i false = false)
  (hafter : ∀ e ∈ o.after.toList, Region.binds .any e = true → listed.getD e.on false = true) (hg : Vv T i w w') (hJ : J (upd (fun j => listed.getD j false) i) (Kw (gv ops a) i v) w') (hv : (X9 L i).2 v ((X9 L i).1.map (gv ops a)) w') (hnone : o.dst = none → v = undef) :
  Zu5 L J ops a0 (listed.setIfInBounds i true) (a.put o.dst v) w' := by
 have hlt : i < ops.size := by
  rcases Nat.lt_or_ge i ops.size with h | h
  ·exact h
  ·simp [Array.getElem?_eq_none h] at hi
 have hll : i < listed.size := by rw [I.lsize]; exact hlt
 obtain ⟨hb1, hb2⟩ := Zed hB hi;have hsame : ∀ j, j ≠ i → gv ops (a.put o.dst v) j = gv ops a j := by
  intro j hji;by_cases hjlt : j < ops.size
  ·unfold gv;cases hd : (ops[j]?).bind (·.dst) with
   | none => rfl
   | some d =>
    refine Zb1 a o.dst d v fun e => ?_;exact (hb2 d e).2 j hjlt hji hd
  ·unfold gv; rw [Array.getElem?_eq_none (by omega)]; rfl
 have hown : gv ops (a.put o.dst v) i = v := by
  unfold gv;simp only [hi, Option.bind_some];cases hd : o.dst with
  | none => simp [hnone hd]
  | some d => exact Zcv a d v (by rw [I.tsize]; exact (hb2 d hd).1)
 have hset : gv ops (a.put o.dst v) = Kw (gv ops a) i v := by
  funext j
  unfold Kw;by_cases hji : j = i
  ·rw [if_pos hji, hji]; exact hown
  ·rw [if_neg hji]; exact hsame j hji
 refine ⟨by simp [I.lsize], by rw [Zmm hll, hset]; exact hJ, by rw [Zab]; exact I.tsize, ?_, ?_, ?_, ?_⟩
 ·rw [← I.defers]; cases o.dst <;> rfl
 ·intro j p hj hl;rw [Va _ _ _ hll] at hl;have hmap : ∀ k pk, ops[k]? = some pk → (k = i ∨ listed.getD k false = true) → (X9 L k).1.map (gv ops (a.put o.dst v)) = (X9 L k).1.map (gv ops a) := by
   intro k pk hk hor;refine List.map_congr_left (fun d hd => hsame d ?_);obtain ⟨e, he, hed, hbd⟩ := Zul hD hk hd;intro hdi;rcases hor with rfl | hkl
   ·have h5 := hafter e (by rw [hi] at hk; cases hk; exact he) hbd;rw [hed, hdi, hun] at h5; cases h5
   ·have h5 := I.closed k pk hk hkl e he hbd;rw [hed, hdi, hun] at h5; cases h5
  by_cases hij : i = j
  ·subst hij;show (X9 L i).2 _ _ w';rw [hown, hmap i p hj (.inl rfl)];exact hv
  ·rw [if_neg hij] at hl;show (X9 L j).2 _ _ w';rw [hsame j (fun e => hij e.symm), hmap j p hj (.inr hl)];refine hst j i _ _ w w' (fun e => hij e.symm) ?_ hg (I.told j p hj hl);cases hw : Jg ops j i with
   | false => rfl
   | true =>
    exfalso;simp only [Jg, hj, Option.map_some, Option.getD_some] at hw;rw [← Array.any_toList, List.any_eq_true] at hw;obtain ⟨e, he, h3⟩ := hw;simp only [Bool.and_eq_true, beq_iff_eq] at h3;have h5 := I.closed j p hj hl e he h3.2;rw [h3.1, hun] at h5; cases h5
 ·intro k hk;have h1 : o.dst ≠ some k := hk i o hi (by rw [Va _ _ _ hll]; simp);rw [Zb1 a o.dst k v h1];refine I.kept k (fun j p hj hl => hk j p hj ?_);rw [Va _ _ _ hll]; split
  ·rfl
  ·exact hl
 ·intro j p hj hl e he hb;rw [Va _ _ _ hll];split
  ·rfl
  ·rw [Va _ _ _ hll] at hl;by_cases hij : i = j
   ·subst hij;have : p = o := by rw [hi] at hj; exact (Option.some.inj hj).symm
    subst this;exact hafter e he hb
   ·rw [if_neg hij] at hl;exact I.closed j p hj hl e he hb
theorem Zuc {L : List Pl} {J : (Nat → Bool) → (Nat → Value) → World → Prop} {ops : Array Oper} {a0 : Act} {listed : Array Bool} {a : Act} {w : World}
  (hB : Zhr ops a0.tmps.size = true) (I : Zu5 L J ops a0 listed a w) :
  a = Yf (gv ops a) ops.toList 0 a0 := by
 have hp := Ze3 (gv ops a) ops.toList 0 a0;refine Zw6 (I.tsize.trans hp.1.symm) (I.defers.trans hp.2.symm) fun k hk => ?_;by_cases hex : ∃ j : Nat, ∃ o : Oper, ops[j]? = some o ∧ o.dst = some k
 ·obtain ⟨j, o, hj, hd⟩ := hex;obtain ⟨_, hb2⟩ := Zed hB hj;rw [Zic (gv ops a) k ops.toList 0 a0 j o (by simpa using hj) hd (by rw [← I.tsize]; exact hk) ?_]
  ·simp only [Nat.zero_add, gv, hj, Option.bind_some, hd]
  ·intro j' o' hj' hne e;have hj'' : ops[j']? = some o' := by simpa using hj'
   have hlt : j' < ops.size := by
    rcases Nat.lt_or_ge j' ops.size with h | h
    ·exact h
    ·simp [Array.getElem?_eq_none h] at hj''
   exact (hb2 k hd).2 j' hlt hne (by simp [hj'', e])
 ·rw [Zef (gv ops a) k ops.toList 0 a0 (fun j o hj e => hex ⟨j, o, by simpa using hj, e⟩)];exact I.kept k (fun j o hj _ e => hex ⟨j, o, hj, e⟩)
theorem Zmk {P : Program} {L : List Pl} {T : List (Option Vh)} {J : (Nat → Bool) → (Nat → Value) → World → Prop} {ops : Array Oper} {a0 : Act} {Q : Exit → Act → World → Prop}
  (hB : Zhr ops a0.tmps.size = true) (hD : Zl2 L ops = true)
  (hst : ∀ i j v ds w w', i ≠ j → Jg ops i j = false → Vv T j w w' → (X9 L i).2 v ds w → (X9 L i).2 v ds w') (hidle : ∀ j w, Vv T j w w)
  (hop : ∀ i o, ops[i]? = some o → Zme P L T J ops a0 i o)
  (hnone : ∀ i o, ops[i]? = some o → o.dst = none → ∀ v ds w, (X9 L i).2 v ds w → (X9 L i).2 undef ds w)
  (hQ : ∀ vs w dn, (∀ i, i < ops.size → dn i = true) → J dn vs w → (∀ i, i < ops.size → Ztl L i vs w) → Q .normal (Yf vs ops.toList 0 a0) w) :
  ∀ (fuel : Nat) (listed : Array Bool) (a : Act) (w : World), left listed.toList = fuel → Zu5 L J ops a0 listed a w → wpAny P .any ops Q fuel listed a w := by
 have hend : ∀ (listed : Array Bool) (a : Act) (w : World), Zu5 L J ops a0 listed a w → Region.ready .any ops listed = [] → Q .normal a w := by
  intro listed a w I hr;have hall := Zqf hB I.lsize hr;have he := Zuc hB I;rw [he];refine hQ _ w _ hall I.keep fun i hi => ?_;exact I.told i ops[i] (by simp [hi]) (hall i hi)
 intro fuel
 induction fuel with
 | zero =>
  intro listed a w hl I;have hr : Region.ready .any ops listed = [] := by
   cases hrr : Region.ready .any ops listed with
   | nil => rfl
   | cons i l =>
    exfalso;obtain ⟨o, ho, h1, _⟩ := Zga (ops := ops) (listed := listed) (i := i) (by rw [hrr]; simp);have hlt : i < ops.size := by
     rcases Nat.lt_or_ge i ops.size with h | h
     ·exact h
     ·simp [Array.getElem?_eq_none h] at ho
    have := Zil listed.toList hl i (by simpa [I.lsize] using hlt);simp at this;simp [this] at h1
  exact ⟨hr, hend listed a w I hr⟩
 | succ fuel ih =>
  intro listed a w hl I;refine ⟨hend listed a w I, fun i hi => ?_⟩;obtain ⟨o, ho, h1, h2⟩ := Zga hi;have hlt : i < ops.size := by
   rcases Nat.lt_or_ge i ops.size with h | h
   ·exact h
   ·simp [Array.getElem?_eq_none h] at ho
  have hli : listed[i]? = some false := by
   have h3 : i < listed.size := by rw [I.lsize]; exact hlt
   simp [h3] at h1 ⊢; exact h1
  have hun : listed.getD i false = false := by
   have h3 : i < listed.size := by rw [I.lsize]; exact hlt
   simp [h3] at hli ⊢; exact hli
  have hleft : left (listed.setIfInBounds i true).toList = fuel := by
   have := Zlk listed.toList i (by simpa using hli);simp only [Array.toList_setIfInBounds]; omega
  have hins : Zj6 L ops a0 i o a w := by
   refine ⟨fun e he hb => ?_, fun k hk => ?_⟩
   ·have h3 := h2 e he hb;have h4 : e.on < ops.size := by
     rcases Nat.lt_or_ge e.on ops.size with h | h
     ·exact h
     ·have h5 : listed.size ≤ e.on := by rw [I.lsize]; exact h
      simp [Array.getD_eq_getD_getElem?, Array.getElem?_eq_none h5] at h3
    exact I.told e.on ops[e.on] (by simp [h4]) h3
   ·refine I.kept k fun j p hj hl2 hd => ?_;have hji : j ≠ i := fun e => by subst e; rw [hun] at hl2; cases hl2
    obtain ⟨e, he, he1, he2⟩ := Zuj hk hj hd hji;have h5 := I.closed j p hj hl2 e he he2;rw [he1, hun] at h5; cases h5
  have hrd : Zb5 ops i (fun j => listed.getD j false) := by
   refine ⟨hun, fun j hj => ?_, fun j k hjk hj => ?_⟩
   ·simp only [Jg, ho, Option.map_some, Option.getD_some] at hj;rw [← Array.any_toList, List.any_eq_true] at hj;obtain ⟨e, he, h3⟩ := hj;simp only [Bool.and_eq_true, beq_iff_eq] at h3;rw [← h3.1]; exact h2 e he h3.2
   ·cases hoj : ops[j]? with
    | none => simp [Jg, hoj] at hjk
    | some p =>
     simp only [Jg, hoj, Option.map_some, Option.getD_some] at hjk;rw [← Array.any_toList, List.any_eq_true] at hjk;obtain ⟨e, he, h3⟩ := hjk;simp only [Bool.and_eq_true, beq_iff_eq] at h3;rw [← h3.1]; exact I.closed j p hoj hj e he h3.2
  obtain ⟨n1, n2⟩ := hop i o ho a w _ hrd I.keep hins;unfold wpOp;simp only [ho];by_cases hw : Region.wanted o (yielded ops a.tmps) = true
  ·simp only [hw, if_true];refine .inl ?_;have hu := n1 (Zfq.1 hw);unfold Oper.wp;generalize (execOp a.eval o).run P w = r at *;have fin : ∀ v w', Vv T i w w' → J (upd (fun j => listed.getD j false) i) (Kw (gv ops a) i (dv o v)) w' → (X9 L i).2 v ((X9 L i).1.map (gv ops a)) w' → wpAny P .any ops Q fuel (listed.setIfInBounds i true) (a.put o.dst v) w' := by
    intro v w' hg hJ hv;cases hd : o.dst with
    | none =>
     have hv' := hnone i o ho hd v _ w' hv;rw [show dv o v = undef from by simp [dv, hd]] at hJ;have := Zgy (v := undef) hst hD hB ho I hun h2 hg hJ hv' (fun _ => rfl);rw [hd] at this;exact ih _ _ _ hleft this
    | some d =>
     rw [show dv o v = v from by simp [dv, hd]] at hJ;have := Zgy (v := v) hst hD hB ho I hun h2 hg hJ hv (fun e => by rw [hd] at e; cases e);rw [hd] at this;exact ih _ _ _ hleft this
   cases r with
   | ok n w' =>
    cases n <;> simp only [Ki] at hu <;> simp only [Oper.upon]
    case value v => exact fin v w' hu.1 hu.2.2.1 hu.2.2.2
    case skip => exact fin undef w' hu.1 hu.2.2.1 hu.2.2.2
    case enter f args =>
     refine hu.mono fun e w'' he => ?_;obtain ⟨v, rfl, hg, -, hJ, hv⟩ := he;exact fin v w'' hg hJ hv
   | halt x w' => simp only [Ki] at hu
  ·simp only [hw];have hu := n2 (fun h => hw (Zfq.2 h));have := Zgy (v := undef) hst hD hB ho I hun h2 (hidle i w) hu.1 hu.2 (fun _ => rfl);exact ih _ _ _ hleft this
theorem Vp {P : Program} {id : Nat} {l : List Oper} {a0 : Act} {w0 : World} {Q : Exit → Act → World → Prop} (L : List Pl) (T : List (Option Vh)) (J : (Nat → Bool) → (Nat → Value) → World → Prop)
  (hm : P.follows .mixedOrders = true) (hB : (Zhr l.toArray a0.tmps.size && Zl2 L l.toArray && (L.length == l.length)) = true) (hst : Zeu L) (hsp : Ziy L l.toArray T 0) (hnn : Zcm L l)
  (hJ : ∀ f, J (fun _ => false) f w0.drew) (hop : Zdx P L T J l.toArray a0 l 0)
  (hQ : ∀ vs w dn, (∀ i, i < l.length → dn i = true) → J dn vs w → Za0 vs w L 0 → Q .normal (Yf vs l 0 a0) w) : (Code.region id l.toArray true).wp P Q a0 w0 := by
 simp only [Bool.and_eq_true, beq_iff_eq] at hB;obtain ⟨⟨h1, h2⟩, h3⟩ := hB;refine wp_region_any hm (Zmk (L := L) (T := T) (J := J) h1 h2 (fun i j v ds w w' hne hwt hs hp => ?_) (fun j w => ?_) (fun i o hi => ?_) (fun i o hi hd => Zgk L l i o hnn (by simpa using hi) hd) (fun vs w dn hdn hj ht => ?_) _ _ _ _ ?_ ?_)
 ·unfold Vv at hs;cases ht : T.getD j none with
  | none => rw [ht] at hs; exact Zh4 L i hst v ds w w' hs hp
  | some s =>
   rw [ht] at hs;have h4 := (Zde T 0 j s hsp ht).2;rw [Nat.zero_add] at h4;have h5 := Zo8 L 0 i h4 (by rw [Nat.zero_add]; exact hne) (by rw [Nat.zero_add]; exact hwt);exact h5 v ds w w' hs hp
 ·unfold Vv;cases ht : T.getD j none with
  | none => exact Zp.refl w
  | some s => exact (Zde T 0 j s hsp ht).1 w
 ·have := Ze6 l 0 i o hop (by simpa using hi);simpa using this
 ·have h6 := hQ vs w dn (fun i hi => hdn i (by simpa using hi)) hj (Zex vs w L 0 (fun i hi => by
   rw [Nat.zero_add];exact ht i (by rw [h3] at hi; simpa using hi)))
  simpa using h6
 ·simp only [Array.toList_replicate];exact Zgu _
 ·refine ⟨by simp, by rw [show (fun j => (Array.replicate l.toArray.size false).getD j false) = fun _ => false from funext fun j => by by_cases h : j < l.length <;> simp [h]]; exact hJ _, rfl, rfl, fun i o hi hl => ?_, fun _ _ => rfl, fun i o hi hl => ?_⟩
  ·exfalso;by_cases h : i < l.length <;> simp [h] at hl
  ·exfalso;by_cases h : i < l.length <;> simp [h] at hl
theorem Zvh {s : Vh} {J : World → Prop} : ∀ {r : Result Next}, Ki P s J w R r → Ki P s (fun _ => True) w (fun v w' => J w' ∧ R v w') r
 | .ok (.value _) _, h => ⟨h.1, trivial, h.2⟩
 | .ok .skip _, h => ⟨h.1, trivial, h.2⟩
 | .ok (.enter _ _) _, h => Calls.mono h fun _ _ ⟨v, h1, h2, h3, h4⟩ => ⟨v, h1, h2, trivial, h3, h4⟩
 | .halt _ _, h => h
theorem Zgp {L : List Pl} {T : List (Option Vh)} {J : (Nat → Bool) → World → Prop} : ∀ (l : List Oper) (i : Nat), Zdz P L T J ops a0 l i → Zdx P L T (fun dn _ w => J dn w) ops a0 l i
 | [], _, _ => trivial
 | _ :: l, i, h => ⟨fun a w dn hr hw hin => ⟨fun hh => Zvh ((h.1 a w dn hr hw hin).1 hh), (h.1 a w dn hr hw hin).2⟩, Zgp l (i + 1) h.2⟩
theorem Yz {P : Program} {id : Nat} {l : List Oper} {a0 : Act} {w0 : World} {Q : Exit → Act → World → Prop} (L : List Pl) (T : List (Option Vh)) (J : (Nat → Bool) → World → Prop)
  (hm : P.follows .mixedOrders = true) (hB : (Zhr l.toArray a0.tmps.size && Zl2 L l.toArray && (L.length == l.length)) = true) (hst : Zeu L) (hsp : Ziy L l.toArray T 0) (hnn : Zcm L l)
  (hJ : J (fun _ => false) w0.drew) (hop : Zdz P L T J l.toArray a0 l 0)
  (hQ : ∀ vs w dn, (∀ i, i < l.length → dn i = true) → J dn w → Za0 vs w L 0 → Q .normal (Yf vs l 0 a0) w) : (Code.region id l.toArray true).wp P Q a0 w0 :=
 Vp L T (fun dn _ w => J dn w) hm hB hst hsp hnn (fun _ => hJ) (Zgp l 0 hop) hQ
theorem Zgo {L : List Pl} {T : List (Option Vh)} {J : World → Prop} : ∀ (l : List Oper) (i : Nat), Zdy P L T J ops a0 l i → Zdz P L T (fun _ w => J w) ops a0 l i
 | [], _, _ => trivial
 | _ :: l, i, h => ⟨fun a w _ _ hw hin => ⟨(h.1 a w hw hin).1, fun hn => ⟨hw, (h.1 a w hw hin).2 hn⟩⟩, Zgo l (i + 1) h.2⟩
theorem Qk {P : Program} {id : Nat} {l : List Oper} {a0 : Act} {w0 : World} {Q : Exit → Act → World → Prop} (L : List Pl) (T : List (Option Vh)) (J : World → Prop)
  (hm : P.follows .mixedOrders = true) (hB : (Zhr l.toArray a0.tmps.size && Zl2 L l.toArray && (L.length == l.length)) = true) (hst : Zeu L) (hsp : Ziy L l.toArray T 0) (hnn : Zcm L l)
  (hJ : J w0.drew) (hop : Zdy P L T J l.toArray a0 l 0)
  (hQ : ∀ vs w, J w → Za0 vs w L 0 → Q .normal (Yf vs l 0 a0) w) : (Code.region id l.toArray true).wp P Q a0 w0 :=
 Yz L T (fun _ w => J w) hm hB hst hsp hnn hJ (Zgo l 0 hop) fun vs w _ _ hj ht => hQ vs w hj ht
theorem Zpg : ∀ (L : List (Value → World → Prop)) (i : Nat), X9 (L.map pl) i = pl (Zph L i)
 | [], _ => by simp [X9, Zph, pl]
 | _ :: _, 0 => rfl
 | _ :: L, i + 1 => Zpg L i
theorem Zpd {vs : Nat → Value} : ∀ (L : List (Value → World → Prop)) (i : Nat), Za0 vs w (L.map pl) i → Zj1 vs w L i
 | [], _, _ => trivial
 | _ :: L, i, h => ⟨h.1, Zpd L (i + 1) h.2⟩
theorem Zpe : ∀ (L : List (Value → World → Prop)), Zuy L → Zeu (L.map pl)
 | [], _ => trivial
 | _ :: L, h => ⟨Yl h.1, Zpe L h.2⟩
theorem Zpf : ∀ (L : List (Value → World → Prop)) (l : List Oper), Zyf l = true → Zcm (L.map pl) l
 | [], _, _ => trivial
 | _ :: _, [], _ => trivial
 | _ :: L, o :: l, h => by
  unfold Zyf at h;simp only [List.all_cons, Bool.and_eq_true] at h;exact ⟨fun hn => (by rw [hn] at h; exact absurd h.1 (by simp)), Zpf L l h.2⟩
theorem Zxg (hw : Zp w0 w) : ∀ {r : Result Next}, upon P w R r → Ki P Zp (Zp w0) w R r
 | .ok (.value _) _, h => ⟨h.1, hw.trans h.1, h.2⟩
 | .ok .skip _, h => ⟨h.1, hw.trans h.1, h.2⟩
 | .ok (.enter _ _) _, h => h.2.mono fun _ _ ⟨v, h1, h2, h3⟩ => ⟨v, h1, h.1.trans h2, hw.trans (h.1.trans h2), h3⟩
 | .halt _ _, h => h
theorem Zii {L : List (Value → World → Prop)} : ∀ (l : List Oper) (i : Nat), Zj5 P (Zph L) ops a0 w0 l i → Zdy P (L.map pl) [] (Zp w0) ops a0 l i
 | [], _, _ => trivial
 | _ :: l, i, h => ⟨fun a w hw hin => by
  have h1 := h.1 a w hw ⟨fun e he hb => by
   have h2 := hin.1 e he hb;unfold Ztl at h2;rw [Zpg] at h2;exact h2, hin.2⟩
  rw [Zpg];exact ⟨fun hh => Zxg hw (h1.1 hh), h1.2⟩, Zii l (i + 1) h.2⟩
theorem Ya {P : Program} {id : Nat} {l : List Oper} {a0 : Act} {w0 : World} {Q : Exit → Act → World → Prop} (L : List (Value → World → Prop))
  (hm : P.follows .mixedOrders = true) (hB : (Zhr l.toArray a0.tmps.size && Zyf l && (L.length == l.length)) = true) (hst : Zuy L)
  (hop : Zj5 P (Zph L) l.toArray a0 w0 l 0)
  (hQ : ∀ vs w, Zp w0 w → Zj1 vs w L 0 → Q .normal (Yf vs l 0 a0) w) : (Code.region id l.toArray true).wp P Q a0 w0 := by
 simp only [Bool.and_eq_true, beq_iff_eq] at hB;refine Qk (L.map pl) [] (Zp w0) hm ?_ (Zpe L hst) trivial (Zpf L l hB.1.2) (Zp.refl _).drew (Zii l 0 hop) fun vs w hg ht => hQ vs w hg (Zpd L 0 ht)
 simp only [Bool.and_eq_true, beq_iff_eq, List.length_map];exact ⟨⟨hB.1.1, by unfold Zl2; simp [Zpg, pl]⟩, hB.2⟩
theorem Zld {P : Program} {L : List Pl} {T : List (Option Vh)} {J : (Nat → Bool) → (Nat → Value) → World → Prop} {ops : Array Oper} {a0 : Act} {i : Nat} (hg : o.guard = none)
  (h : ∀ a w dn, Zb5 ops i dn → J dn (gv ops a) w → Zj6 L ops a0 i o a w → Zew P (Vv T i) w (fun v w' => J (upd dn i) (Kw (gv ops a) i (dv o v)) w') (fun v w' => (X9 L i).2 v ((X9 L i).1.map (gv ops a)) w') ((execOp a.eval o).run P w)) : Zme P L T J ops a0 i o :=
 fun a w dn hr hw hin => ⟨fun _ => h a w dn hr hw hin, fun hn => absurd (by unfold Kt; rw [hg]; trivial) hn⟩
theorem Xq {J : Value → World → Prop} (ho : o.op = .move x) (hJ : J (ev x) w) (h : R (ev x) w) : Zew P Zp w J R ((execOp ev o).run P w) := Z8 ho trivial ⟨hJ, h⟩
theorem Xn {J : Value → World → Prop} (ho : o.op = .assign x) (hJ : J (ev x) w) (h : R (ev x) w) : Zew P Zp w J R ((execOp ev o).run P w) := Xe ho trivial ⟨hJ, h⟩
theorem Qt {J : Value → World → Prop} (h : (execOp ev o).run P w = .ok (.value v) w) (hJ : J v w) (hv : R v w) : Zew P Zp w J R ((execOp ev o).run P w) := Zk h trivial ⟨hJ, hv⟩
theorem Qu {s : Vh} {J : Value → World → Prop} (h : (execOp ev o).run P w = .ok (.value v) w') (hs : s w w') (hJ : J v w') (hv : R v w') : Zew P s w J R ((execOp ev o).run P w) := Qm h hs trivial ⟨hJ, hv⟩
theorem Zml {s : Vh} {J : Value → World → Prop} (h : (execOp ev o).run P w = .ok .skip w') (hs : s w w') (hJ : J undef w') (hv : R undef w') : Zew P s w J R ((execOp ev o).run P w) := Yj h hs trivial ⟨hJ, hv⟩
end Go.Proofs.YtpdnapbchcdhlacGreat.Reg
namespace Go.Proofs.YtpdnapbchcdhlacGreat.Plain
set_option maxRecDepth 100000
structure Rec where
 kind : Int
 key : Int
 ver : Int
 data : List UInt8
def Rec.none : Rec := ⟨0, 0, 0, []⟩
def Qw (a b : Rec) : Bool := a.kind == b.kind && a.key == b.key && a.ver == b.ver && a.data == b.data
theorem V6 (a b : Rec) : Qw a b = true ↔ a = b := by
 obtain ⟨a1, a2, a3, a4⟩ := a;obtain ⟨b1, b2, b3, b4⟩ := b;simp [Qw, and_assoc]
theorem Zm0 (a : Rec) : Qw a a = true := (V6 a a).2 rfl
def Xi (r : Rec) : Bool := if r.kind = 1 then decide (r.key = 0 ∧ r.ver = 0) else decide (1 ≤ r.key ∧ r.key ≤ 255 ∧ 1 ≤ r.ver ∧ r.ver ≤ 60000)
def Xg (k : Int) : Int := if k = 2 then 8 else 0
def Yd (r : Rec) : Int :=
 if r.kind < 1 ∨ 3 < r.kind then 1 else if Xi r = false then 3 else if Xg r.kind < (r.data.length : Int) then 4 else 0
theorem Zcy (r : Rec) : Yd r = 0 ↔ (1 ≤ r.kind ∧ r.kind ≤ 3 ∧ Xi r = true ∧ (r.data.length : Int) ≤ Xg r.kind) := by
 unfold Yd;by_cases h1 : r.kind < 1 ∨ 3 < r.kind
 ·rw [if_pos h1]; constructor
  ·intro h; omega
  ·rintro ⟨h2, h3, _⟩; omega
 ·rw [if_neg h1];by_cases h2 : Xi r = false
  ·rw [if_pos h2]; constructor
   ·intro h; omega
   ·rintro ⟨_, _, h3, _⟩; rw [h2] at h3; cases h3
  ·rw [if_neg h2];have h2' : Xi r = true := by simpa using h2
   by_cases h3 : Xg r.kind < (r.data.length : Int)
   ·rw [if_pos h3]; constructor
    ·intro h; omega
    ·rintro ⟨_, _, _, h4⟩; omega
   ·rw [if_neg h3]; constructor
    ·intro _; exact ⟨by omega, by omega, h2', by omega⟩
    ·intro _; rfl
theorem Vr {r : Rec} (h : Yd r = 0) : 1 ≤ r.kind ∧ r.kind ≤ 3 ∧ 0 ≤ r.key ∧ r.key ≤ 255 ∧ 0 ≤ r.ver ∧ r.ver ≤ 60000 ∧ r.data.length ≤ 8 := by
 obtain ⟨h1, h2, h3, h4⟩ := (Zcy r).1 h;unfold Xi at h3;unfold Xg at h4;by_cases hk : r.kind = 1
 ·rw [if_pos hk] at h3; simp at h3;split at h4 <;> omega
 ·rw [if_neg hk] at h3; simp at h3;split at h4 <;> omega
def Zay (r : Rec) (at_ : Int) : List UInt8 := [lo r.kind, lo at_, lo r.key, hi r.ver, lo r.ver, lo (r.data.length : Int)] ++ (r.data ++ List.replicate (8 - r.data.length) 0)
def blk (r : Rec) (at_ : Int) : List UInt8 := Xr (Zay r at_)
theorem Qq (r : Rec) (at_ : Int) (h : r.data.length ≤ 8) : (Zay r at_).length = 14 := by simp [Zay]; omega
theorem Qn (r : Rec) (at_ : Int) (h : r.data.length ≤ 8) : (blk r at_).length = 16 := by unfold blk; rw [Zco, Qq r at_ h]
def at' (b : List UInt8) (i : Nat) : UInt8 := b.getD i 0
def Y0 (b : List UInt8) : Rec := ⟨((at' b 0).toNat : Int), ((at' b 2).toNat : Int), ((at' b 3).toNat : Int) * 256 + ((at' b 4).toNat : Int), (b.drop 6).take (at' b 5).toNat⟩
def Vf (b : List UInt8) : List UInt8 := (b.drop (6 + (at' b 5).toNat)).take (8 - (at' b 5).toNat)
def Y9 (l : List UInt8) : Bool := l.all (· == 0)
def spoilt (b : List UInt8) (at_ : Int) : Int :=
 if b.length ≠ 16 then 2 else if Xj b = false then 7 else if ((at' b 1).toNat : Int) ≠ at_ then 8 else if 8 < (at' b 5).toNat then 4 else if Y9 (Vf b) = false then 2 else 0
def X4 (b : List UInt8) (at_ : Int) : Int := if spoilt b at_ = 0 then Yd (Y0 b) else spoilt b at_
def Y6 (b : List UInt8) (at_ : Int) : Rec := if X4 b at_ = 0 then Y0 b else Rec.none
end Go.Proofs.YtpdnapbchcdhlacGreat.Plain
namespace Go.Proofs.YtpdnapbchcdhlacGreat.Reg
open Go Go.RowKit
variable {x : Value}
def gvE (ops : Array Oper) (a : Operand → Value) (j : Nat) : Value :=
  match (ops[j]?).bind (·.dst) with
  | some d => a (.tmp d)
  | none => undef
def Zwz (ops : Array Oper) (i k : Nat) : Bool :=
  (List.range ops.size).all fun j => j == i || ((ops[j]?).bind (·.dst)) != some k || (((ops[j]?).map fun o => o.after.toList.any fun e => e.on == i && Region.binds .any e).getD false)
theorem Zpo (ops : Array Oper) (i k : Nat) : Zwz ops i k = ext ops i k := by
  unfold Zwz ext;simp only [Array.any_toList]
variable {P : Program} {phi : Nat → Value → World → Prop} {L : List Pl} {T : List (Option Vh)} {ops : Array Oper} {a0 : Act} {w0 w : World} {i : Nat} {o : Oper} {a : Operand → Value}
def Zu7 (phi : Nat → Value → World → Prop) (ops : Array Oper) (a0 : Act) (i : Nat) (o : Oper) (a : Operand → Value) (w : World) : Prop := (∀ e ∈ o.after.toList, Region.binds .any e = true → phi e.on (gvE ops a e.on) w) ∧ (∀ k, ext ops i k = true → a (.tmp k) = a0.eval (.tmp k))
def Zu6 (L : List Pl) (ops : Array Oper) (a0 : Act) (i : Nat) (o : Oper) (a : Operand → Value) (w : World) : Prop := (∀ e ∈ o.after.toList, Region.binds .any e = true → Ztl L e.on (gvE ops a) w) ∧ (∀ k, ext ops i k = true → a (.tmp k) = a0.eval (.tmp k))
theorem Zb (hg : o.guard = none) (h : ∀ a w, (∀ x, a (.const x) = x) → (∀ f, a (.func f) = .func (.func f) #[] #[]) → Zp w0 w → Zu7 phi ops a0 i o a w → upon P w (phi i) ((execOp a o).run P w)) : Zh0 P phi ops a0 w0 i o :=
  Zns hg fun a w hw hin => h a.eval w (fun _ => rfl) (fun _ => rfl) hw hin
theorem Zqv (j : Nat) (b : Bool) (hg : o.guard = some (j, b)) (hy : ∀ a w, Ins phi ops a0 i o a w → gv ops a j = .bool b) (h : ∀ a w, (∀ x, a (.const x) = x) → (∀ f, a (.func f) = .func (.func f) #[] #[]) → Zp w0 w → Zu7 phi ops a0 i o a w → upon P w (phi i) ((execOp a o).run P w)) : Zh0 P phi ops a0 w0 i o :=
  Ztz j b hg hy fun a w hw hin => h a.eval w (fun _ => rfl) (fun _ => rfl) hw hin
theorem Zm {J : World → Prop} (hg : o.guard = none) (h : ∀ a w, (∀ x, a (.const x) = x) → (∀ f, a (.func f) = .func (.func f) #[] #[]) → J w → Zu6 L ops a0 i o a w → Ki P (Vv T i) J w (fun v w' => (X9 L i).2 v ((X9 L i).1.map (gvE ops a)) w') ((execOp a o).run P w)) : Zu3 P L T J ops a0 i o :=
  Zle hg fun a w hw hin => h a.eval w (fun _ => rfl) (fun _ => rfl) hw hin
theorem Ze {J : (Nat → Bool) → World → Prop} (hg : o.guard = none) (h : ∀ a w, (∀ x, a (.const x) = x) → (∀ f, a (.func f) = .func (.func f) #[] #[]) → ∀ dn, Zb5 ops i dn → J dn w → Zu6 L ops a0 i o a w → Ki P (Vv T i) (J (upd dn i)) w (fun v w' => (X9 L i).2 v ((X9 L i).1.map (gvE ops a)) w') ((execOp a o).run P w)) : Zu4 P L T J ops a0 i o :=
  Zlf hg fun a w dn hr hw hin => h a.eval w (fun _ => rfl) (fun _ => rfl) dn hr hw hin
theorem Zx {J : (Nat → Bool) → (Nat → Value) → World → Prop} (hg : o.guard = none) (h : ∀ a w, (∀ x, a (.const x) = x) → (∀ f, a (.func f) = .func (.func f) #[] #[]) → ∀ dn, Zb5 ops i dn → J dn (gvE ops a) w → Zu6 L ops a0 i o a w → Zew P (Vv T i) w (fun v w' => J (upd dn i) (Kw (gvE ops a) i (dv o v)) w') (fun v w' => (X9 L i).2 v ((X9 L i).1.map (gvE ops a)) w') ((execOp a o).run P w)) : Zme P L T J ops a0 i o :=
  Zld hg fun a w dn hr hw hin => h a.eval w (fun _ => rfl) (fun _ => rfl) dn hr hw hin
theorem Zus {j : Nat} (hj : (o.after.toList.any fun e => e.on == j && Region.binds .any e) = true) : ∃ e ∈ o.after.toList, e.on = j ∧ Region.binds .any e = true := by
  rw [List.any_eq_true] at hj;obtain ⟨e, he, h2⟩ := hj;simp only [Bool.and_eq_true, beq_iff_eq] at h2;exact ⟨e, he, h2⟩
theorem Zf (h : Zu7 phi ops a0 i o a w) (j : Nat) (hj : (o.after.toList.any fun e => e.on == j && Region.binds .any e) = true) : phi j (gvE ops a j) w := by
  obtain ⟨e, he, rfl, h3⟩ := Zus hj;exact h.1 e he h3
theorem Zv (h : Zu7 phi ops a0 i o a w) (k : Nat) (hk : Zwz ops i k = true) : a (.tmp k) = a0.eval (.tmp k) := h.2 k (by rw [← Zpo]; exact hk)
theorem Zg (h : Zu6 L ops a0 i o a w) (j : Nat) (hj : (o.after.toList.any fun e => e.on == j && Region.binds .any e) = true) : (X9 L j).2 (gvE ops a j) ((X9 L j).1.map (gvE ops a)) w := by
  obtain ⟨e, he, rfl, h3⟩ := Zus hj;exact h.1 e he h3
theorem Zn (h : Zu6 L ops a0 i o a w) (k : Nat) (hk : Zwz ops i k = true) : a (.tmp k) = a0.eval (.tmp k) := h.2 k (by rw [← Zpo]; exact hk)
abbrev px (x : Value) : Pl := pl (ex x)
theorem se : V2 (px x) := Yl (Zh x)
theorem x5 {c : Prop} {s : Vh} : c ∨ ∀ v ds w w', s w w' → (px x).2 v ds w → (px x).2 v ds w' := .inr fun _ _ _ _ _ h => h
theorem n5 {d : Nat} {q : Prop} (h : some d = none) : q := by cases h
end Go.Proofs.YtpdnapbchcdhlacGreat.Reg
namespace Go.Proofs.YtpdnapbchcdhlacGreat.Reg
open Go Go.RowKit
variable {P : Program} {a0 : Act} {i : Nat} {o : Oper} {ops : Array Oper} {phi : Nat → Value → World → Prop} {w0 : World}
theorem Zy (j : Nat) (b : Bool) (hg : o.guard = some (j, b)) (hj : (o.after.toList.any fun e => e.on == j && Region.binds .any e) = true) (hp : phi j = ex (.bool !b)) (hu : ∀ w, phi i undef w) : Zh0 P phi ops a0 w0 i o :=
  Zwl j b (!b) hg (by cases b <;> decide) (fun _ w hin => (congrFun (congrFun hp _) w).mp (Zn1 hin j (by rw [← Array.any_toList]; exact hj))) hu
theorem Zo (j : Nat) (b : Bool) (hg : o.guard = some (j, b)) (hj : (o.after.toList.any fun e => e.on == j && Region.binds .any e) = true) (hp : phi j = ex (.bool b)) (h : ∀ a w, (∀ x, a (.const x) = x) → (∀ f, a (.func f) = .func (.func f) #[] #[]) → Zp w0 w → Zu7 phi ops a0 i o a w → upon P w (phi i) ((execOp a o).run P w)) : Zh0 P phi ops a0 w0 i o :=
  Zqv j b hg (fun _ w hin => (congrFun (congrFun hp _) w).mp (Zn1 hin j (by rw [← Array.any_toList]; exact hj))) h
theorem Vd (j : Nat) (b : Bool) (hg : o.guard = some (j, b)) (hj : (o.after.toList.any fun e => e.on == j && Region.binds .any e) = true) (hp : phi j = ex undef) (hu : ∀ w, phi i undef w) : Zh0 P phi ops a0 w0 i o :=
  Znr j b hg (fun _ w hin => (congrFun (congrFun hp _) w).mp (Zn1 hin j (by rw [← Array.any_toList]; exact hj))) hu
end Go.Proofs.YtpdnapbchcdhlacGreat.Reg
