/-
  Records, their blocks, and what a block tells: no program, no memory.
  No condition.
-/
import Derived.Test.YtgpfflfdigekeaaPlain
namespace Go.Proofs.Ytgpfflfdigekeaa.Plain
set_option maxRecDepth 100000

/-- A record. -/
structure Rec where
  kind : Int
  key : Int
  ver : Int
  data : List UInt8

def Rec.none : Rec := ⟨0, 0, 0, []⟩

def sameB (a b : Rec) : Bool := a.kind == b.kind && a.key == b.key && a.ver == b.ver && a.data == b.data
theorem sameB_iff (a b : Rec) : sameB a b = true ↔ a = b := by
  obtain ⟨a1, a2, a3, a4⟩ := a
  obtain ⟨b1, b2, b3, b4⟩ := b
  simp [sameB, and_assoc]
theorem sameB_refl (a : Rec) : sameB a a = true := (sameB_iff a a).2 rfl

def inRangeB (r : Rec) : Bool := if r.kind = 1 then decide (r.key = 0 ∧ r.ver = 0) else decide (1 ≤ r.key ∧ r.key ≤ 255 ∧ 1 ≤ r.ver ∧ r.ver ≤ 60000)
def maxData (k : Int) : Int := if k = 2 then 8 else 0
/-- What is wrong with a record: the error's number, 0 if nothing. -/
def wrong (r : Rec) : Int :=
  if r.kind < 1 ∨ 3 < r.kind then 1 else if inRangeB r = false then 3 else if maxData r.kind < (r.data.length : Int) then 4 else 0

theorem wrong_zero (r : Rec) : wrong r = 0 ↔ (1 ≤ r.kind ∧ r.kind ≤ 3 ∧ inRangeB r = true ∧ (r.data.length : Int) ≤ maxData r.kind) := by
  unfold wrong
  by_cases h1 : r.kind < 1 ∨ 3 < r.kind
  · rw [if_pos h1]; constructor
    · intro h; omega
    · rintro ⟨h2, h3, _⟩; omega
  · rw [if_neg h1]
    by_cases h2 : inRangeB r = false
    · rw [if_pos h2]; constructor
      · intro h; omega
      · rintro ⟨_, _, h3, _⟩; rw [h2] at h3; cases h3
    · rw [if_neg h2]
      have h2' : inRangeB r = true := by simpa using h2
      by_cases h3 : maxData r.kind < (r.data.length : Int)
      · rw [if_pos h3]; constructor
        · intro h; omega
        · rintro ⟨_, _, _, h4⟩; omega
      · rw [if_neg h3]; constructor
        · intro _; exact ⟨by omega, by omega, h2', by omega⟩
        · intro _; rfl

/-- What the numbers of a right record are. -/
theorem right_bd {r : Rec} (h : wrong r = 0) : 1 ≤ r.kind ∧ r.kind ≤ 3 ∧ 0 ≤ r.key ∧ r.key ≤ 255 ∧ 0 ≤ r.ver ∧ r.ver ≤ 60000 ∧ r.data.length ≤ 8 := by
  obtain ⟨h1, h2, h3, h4⟩ := (wrong_zero r).1 h
  unfold inRangeB at h3
  unfold maxData at h4
  by_cases hk : r.kind = 1
  · rw [if_pos hk] at h3; simp at h3
    split at h4 <;> omega
  · rw [if_neg hk] at h3; simp at h3
    split at h4 <;> omega

/-- A block without its sum. -/
def body (r : Rec) (at_ : Int) : List UInt8 := [lo r.kind, lo at_, lo r.key, hi r.ver, lo r.ver, lo (r.data.length : Int)] ++ (r.data ++ List.replicate (8 - r.data.length) 0)
/-- The block that tells r at a place. -/
def blk (r : Rec) (at_ : Int) : List UInt8 := sealed (body r at_)
theorem body_length (r : Rec) (at_ : Int) (h : r.data.length ≤ 8) : (body r at_).length = 14 := by simp [body]; omega
theorem blk_length (r : Rec) (at_ : Int) (h : r.data.length ≤ 8) : (blk r at_).length = 16 := by unfold blk; rw [sealed_length, body_length r at_ h]

/-- The byte at a place. -/
def at' (b : List UInt8) (i : Nat) : UInt8 := b.getD i 0
/-- The record that stands in a block. -/
def recOf (b : List UInt8) : Rec := ⟨((at' b 0).toNat : Int), ((at' b 2).toNat : Int), ((at' b 3).toNat : Int) * 256 + ((at' b 4).toNat : Int), (b.drop 6).take (at' b 5).toNat⟩
/-- What stands behind the data. -/
def restOf (b : List UInt8) : List UInt8 := (b.drop (6 + (at' b 5).toNat)).take (8 - (at' b 5).toNat)
def noughtsB (l : List UInt8) : Bool := l.all (· == 0)
/-- Why bytes are no block of a place. -/
def spoilt (b : List UInt8) (at_ : Int) : Int :=
  if b.length ≠ 16 then 2 else if sealedB b = false then 7 else if ((at' b 1).toNat : Int) ≠ at_ then 8 else if 8 < (at' b 5).toNat then 4 else if noughtsB (restOf b) = false then 2 else 0
def readE (b : List UInt8) (at_ : Int) : Int := if spoilt b at_ = 0 then wrong (recOf b) else spoilt b at_
def readR (b : List UInt8) (at_ : Int) : Rec := if readE b at_ = 0 then recOf b else Rec.none

end Go.Proofs.Ytgpfflfdigekeaa.Plain
