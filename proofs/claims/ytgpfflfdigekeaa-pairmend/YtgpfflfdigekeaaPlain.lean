/-
  Plain facts on sums of bytes and on two bytes of a number: no program, no memory.
  No condition.
-/
namespace Go.Proofs.Ytgpfflfdigekeaa.Plain
set_option maxRecDepth 100000

/-- One byte more. -/
def next (s : Int) (c : UInt8) : Int := (s * 131 + (c.toNat : Int) + 1) % 65521
/-- The sum of bytes. -/
def sumOf (l : List UInt8) : Int := l.foldl next 3

theorem sumOf_nil : sumOf [] = 3 := rfl
theorem sumOf_snoc (l : List UInt8) (c : UInt8) : sumOf (l ++ [c]) = (sumOf l * 131 + (c.toNat : Int) + 1) % 65521 := by
  simp [sumOf, next, List.foldl_append]
theorem sumOf_bd (l : List UInt8) : 0 ≤ sumOf l ∧ sumOf l < 65521 := by
  have key : ∀ (l : List UInt8) (s : Int), 0 ≤ s → s < 65521 → 0 ≤ l.foldl next s ∧ l.foldl next s < 65521 := by
    intro l
    induction l with
    | nil => intro s h1 h2; exact ⟨h1, h2⟩
    | cons c l ih =>
      intro s h1 h2
      refine ih _ ?_ ?_ <;> unfold next <;> omega
  exact key l 3 (by omega) (by omega)
theorem take_snoc (l : List UInt8) (k : Nat) (h : k < l.length) : l.take (k + 1) = l.take k ++ [l[k]] := by
  rw [List.take_succ_eq_append_getElem h]

/-- The two bytes of a number. -/
def hi (n : Int) : UInt8 := UInt8.ofNat ((n / 256) % 256).toNat
def lo (n : Int) : UInt8 := UInt8.ofNat (n % 256).toNat
theorem hi_val (n : Int) : ((hi n).toNat : Int) = (n / 256) % 256 := by unfold hi; rw [UInt8.toNat_ofNat']; omega
theorem lo_val (n : Int) : ((lo n).toNat : Int) = n % 256 := by unfold lo; rw [UInt8.toNat_ofNat']; omega
/-- Bytes with their sum behind. -/
def sealed (l : List UInt8) : List UInt8 := l ++ [hi (sumOf l), lo (sumOf l)]
theorem sealed_length (l : List UInt8) : (sealed l).length = l.length + 2 := by simp [sealed]


theorem next_inj (s t : Int) (c : UInt8) (hs : 0 ≤ s) (hs' : s < 65521) (ht : 0 ≤ t) (ht' : t < 65521) (h : next s c = next t c) : s = t := by
  unfold next at h; omega
theorem next_ne (s : Int) (c d : UInt8) (hcd : c ≠ d) : next s c ≠ next s d := by
  intro h
  apply hcd
  have hc : c.toNat < 256 := UInt8.toNat_lt _
  have hd : d.toNat < 256 := UInt8.toNat_lt _
  unfold next at h
  refine UInt8.toNat_inj.1 ?_
  omega
theorem next_bd (s : Int) (c : UInt8) : 0 ≤ next s c ∧ next s c < 65521 := by unfold next; omega
theorem fold_inj : ∀ (l : List UInt8) (s t : Int), 0 ≤ s → s < 65521 → 0 ≤ t → t < 65521 → l.foldl next s = l.foldl next t → s = t
  | [], _, _, _, _, _, _, h => h
  | c :: l, s, t, h1, h2, h3, h4, h => by
    have := fold_inj l _ _ (next_bd s c).1 (next_bd s c).2 (next_bd t c).1 (next_bd t c).2 h
    exact next_inj s t c h1 h2 h3 h4 this
/-- One byte turned turns the sum. -/
theorem fold_set : ∀ (l : List UInt8) (s : Int) (k : Nat) (c : UInt8) (hk : k < l.length), 0 ≤ s → s < 65521 → l[k] ≠ c → (l.set k c).foldl next s ≠ l.foldl next s
  | [], _, _, _, hk, _, _, _ => by simp at hk
  | d :: l, s, 0, c, _, h1, h2, hne => by
    intro h
    have h3 : next s c = next s d := fold_inj l _ _ (next_bd s c).1 (next_bd s c).2 (next_bd s d).1 (next_bd s d).2 h
    exact next_ne s d c (by simpa using hne) h3.symm
  | d :: l, s, k + 1, c, hk, h1, h2, hne => fold_set l (next s d) k c (by simpa using hk) (next_bd s d).1 (next_bd s d).2 (by simpa using hne)
theorem sum_set (l : List UInt8) (k : Nat) (c : UInt8) (hk : k < l.length) (hne : l[k] ≠ c) : sumOf (l.set k c) ≠ sumOf l :=
  fold_set l 3 k c hk (by omega) (by omega) hne

/-- Are the last two bytes those of the sum of the ones ahead? -/
def sealedB (l : List UInt8) : Bool := decide (2 ≤ l.length) && (((l.getD (l.length - 2) 0).toNat : Int) * 256 + ((l.getD (l.length - 1) 0).toNat : Int) == sumOf (l.take (l.length - 2)))

theorem sealedB_app (l : List UInt8) (x y : UInt8) : sealedB (l ++ [x, y]) = ((x.toNat : Int) * 256 + (y.toNat : Int) == sumOf l) := by
  have e : (l ++ [x, y]).length = l.length + 2 := by simp
  unfold sealedB
  rw [e, show l.length + 2 - 2 = l.length from by omega, show l.length + 2 - 1 = l.length + 1 from by omega, decide_eq_true (by omega : 2 ≤ l.length + 2), Bool.true_and]
  simp [List.getD_eq_getElem?_getD]

theorem two_eq (x y : UInt8) (s : Int) (h0 : 0 ≤ s) (h1 : s < 65536) : ((x.toNat : Int) * 256 + (y.toNat : Int) = s) ↔ (hi s = x ∧ lo s = y) := by
  have hx : x.toNat < 256 := UInt8.toNat_lt _
  have hy : y.toNat < 256 := UInt8.toNat_lt _
  have h2 := hi_val s
  have h3 := lo_val s
  constructor
  · intro h
    refine ⟨UInt8.toNat_inj.1 ?_, UInt8.toNat_inj.1 ?_⟩ <;> omega
  · rintro ⟨rfl, rfl⟩
    omega

theorem sealedB_sealed (l : List UInt8) : sealedB (sealed l) = true := by
  have hs := sumOf_bd l
  unfold sealed
  rw [sealedB_app, beq_iff_eq, two_eq _ _ _ hs.1 (by omega)]
  exact ⟨rfl, rfl⟩

/-- ONE BYTE TURNED IS FOUND. -/
theorem sealedB_set (l : List UInt8) (k : Nat) (c : UInt8) (hk : k < (sealed l).length) (hne : (sealed l)[k] ≠ c) : sealedB ((sealed l).set k c) = false := by
  have hs := sumOf_bd l
  have he : (sealed l).length = l.length + 2 := sealed_length l
  by_cases h1 : k < l.length
  · have e : (sealed l).set k c = l.set k c ++ [hi (sumOf l), lo (sumOf l)] := by unfold sealed; rw [List.set_append_left _ _ h1]
    rw [e, sealedB_app, beq_eq_false_iff_ne]
    intro h
    have h2 : ((hi (sumOf l)).toNat : Int) * 256 + ((lo (sumOf l)).toNat : Int) = sumOf l := (two_eq _ _ _ hs.1 (by omega)).2 ⟨rfl, rfl⟩
    refine sum_set l k c h1 ?_ (h.symm.trans h2)
    have : (sealed l)[k] = l[k] := by unfold sealed; exact List.getElem_append_left h1
    rw [← this]; exact hne
  · by_cases h2 : k = l.length
    · have e : (sealed l).set k c = l ++ [c, lo (sumOf l)] := by unfold sealed; rw [List.set_append_right _ _ (by omega), h2]; simp
      rw [e, sealedB_app, beq_eq_false_iff_ne]
      intro h
      have := (two_eq _ _ _ hs.1 (by omega)).1 h
      apply hne
      subst h2
      simp [sealed, this.1]
    · have h3 : k = l.length + 1 := by omega
      have e : (sealed l).set k c = l ++ [hi (sumOf l), c] := by unfold sealed; rw [List.set_append_right _ _ (by omega), h3]; simp
      rw [e, sealedB_app, beq_eq_false_iff_ne]
      intro h
      have := (two_eq _ _ _ hs.1 (by omega)).1 h
      apply hne
      subst h3
      simp [sealed, this.2]

end Go.Proofs.Ytgpfflfdigekeaa.Plain
