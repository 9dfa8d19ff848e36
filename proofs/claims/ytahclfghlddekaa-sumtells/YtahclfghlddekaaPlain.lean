/-
  Plain facts on sums of bytes and on two bytes of a number: no program, no memory.
  No condition.
-/
namespace Go.Proofs.Ytahclfghlddekaa.Plain

/-- One byte more. -/
def next (s : Int) (c : UInt8) : Int := (s * 131 + (c.toNat : Int) + 1) % 65521
/-- The sum of bytes. -/
def sumOf (l : List UInt8) : Int := l.foldl next 3

theorem sumOf_nil : sumOf [] = 3 := rfl
theorem sumOf_snoc (l : List UInt8) (c : UInt8) : sumOf (l ++ [c]) = (sumOf l * 131 + (c.toNat : Int) + 1) % 65521 := by
  simp [sumOf, next, List.foldl_append]
theorem sumOf_bd (l : List UInt8) : 0 ≤ sumOf l ∧ sumOf l < 65521 := by
  have key : ∀ (l : List UInt8) (s : Int), 0 ≤ s → s < 65521 → 0 ≤ l.foldl next s ∧ l.foldl next s < 65521 := by
    intro l
    induction l with
    | nil => intro s h1 h2; exact ⟨h1, h2⟩
    | cons c l ih =>
      intro s h1 h2
      refine ih _ ?_ ?_ <;> unfold next <;> omega
  exact key l 3 (by omega) (by omega)
theorem take_snoc (l : List UInt8) (k : Nat) (h : k < l.length) : l.take (k + 1) = l.take k ++ [l[k]] := by
  rw [List.take_succ_eq_append_getElem h]

/-- The two bytes of a number. -/
def hi (n : Int) : UInt8 := UInt8.ofNat ((n / 256) % 256).toNat
def lo (n : Int) : UInt8 := UInt8.ofNat (n % 256).toNat
theorem hi_val (n : Int) : ((hi n).toNat : Int) = (n / 256) % 256 := by unfold hi; rw [UInt8.toNat_ofNat']; omega
theorem lo_val (n : Int) : ((lo n).toNat : Int) = n % 256 := by unfold lo; rw [UInt8.toNat_ofNat']; omega
/-- Bytes with their sum behind. -/
def sealed (l : List UInt8) : List UInt8 := l ++ [hi (sumOf l), lo (sumOf l)]
theorem sealed_length (l : List UInt8) : (sealed l).length = l.length + 2 := by simp [sealed]

end Go.Proofs.Ytahclfghlddekaa.Plain
