import Derived.Test.YtlickojpmffmiacIdxO
import Derived.Lib.AppendZeros
import Derived.Test.YtlickojpmffmiacRIndex
set_option maxHeartbeats 8000000
namespace Go.Proofs.Ytlickojpmffmiac
set_option maxRecDepth 100000
open Go.RowKit
open Plain Reg
/-- Nothing that was there is leant on. -/
abbrev NoS : Nat → Prop := fun _ => False
end Go.Proofs.Ytlickojpmffmiac
namespace Go.Proofs.Ytlickojpmffmiac
set_option maxRecDepth 100000
open Plain
theorem less_irrefl (a : Ent) : ¬ lessB a a = true := by simp [lessB]
theorem less_asymm {a b : Ent} (h : lessB a b = true) : ¬ lessB b a = true := fun h2 => less_irrefl a (less_trans h h2)
/-- Two lists in order that have the same are the same. -/
theorem ups_eq : ∀ (a b : List Ent), a.Pairwise Ups → b.Pairwise Ups → (∀ x, x ∈ a ↔ x ∈ b) → a = b
 | [], [], _, _, _ => rfl
 | [], y :: b, _, _, h => absurd ((h y).2 (by simp)) (by simp)
 | x :: a, [], _, _, h => absurd ((h x).1 (by simp)) (by simp)
 | x :: a, y :: b, ha, hb, h => by
  obtain ⟨ha1, ha2⟩ := List.pairwise_cons.1 ha
  obtain ⟨hb1, hb2⟩ := List.pairwise_cons.1 hb
  have hxy : x = y := by
   rcases List.mem_cons.1 ((h x).1 (by simp)) with h1 | h1
   ·exact h1
   ·rcases List.mem_cons.1 ((h y).2 (by simp)) with h2 | h2
    ·exact h2.symm
    ·exact absurd (ha1 y h2).1 (less_asymm (hb1 x h1).1)
  subst hxy
  rw [ups_eq a b ha2 hb2 fun z => ?_]
  constructor
  ·intro hz
   rcases List.mem_cons.1 ((h z).1 (by simp [hz])) with rfl | h2
   ·exact absurd (ha1 z hz).1 (less_irrefl z)
   ·exact h2
  ·intro hz
   rcases List.mem_cons.1 ((h z).2 (by simp [hz])) with rfl | h2
   ·exact absurd (hb1 z hz).1 (less_irrefl z)
   ·exact h2
/-! ### One at a time, into its place among those ahead -/
def Unlike (ys : List Ent) : Prop := ys.Pairwise fun a b => a.pair ≠ b.pair
theorem unlike_at {ys : List Ent} (h : Unlike ys) {a b : Nat} {x y : Ent} (hab : a < b) (hx : ys[a]? = some x) (hy : ys[b]? = some y) : x.pair ≠ y.pair := by
 obtain ⟨h1, rfl⟩ := List.getElem?_eq_some_iff.1 hx
 obtain ⟨h2, rfl⟩ := List.getElem?_eq_some_iff.1 hy
 exact List.pairwise_iff_getElem.1 h a b h1 h2 hab
theorem unlike_perm {xs ys : List Ent} (h : Unlike xs) (hp : ys.Perm xs) : Unlike ys := (hp.pairwise_iff (fun h e => h e.symm)).2 h
/-- The first i are in order. -/
def Ord (i : Nat) (ys : List Ent) : Prop := ∀ a b x y, a < b → b < i → ys[a]? = some x → ys[b]? = some y → Ups x y
/-- The first i + 1 are in order but for that at j, which is ahead of those behind it. -/
def Ord1 (i j : Nat) (ys : List Ent) : Prop := (∀ a b x y, a < b → b ≤ i → a ≠ j → b ≠ j → ys[a]? = some x → ys[b]? = some y → Ups x y) ∧ ∀ m x y, j < m → m ≤ i → ys[j]? = some x → ys[m]? = some y → Ups x y
theorem ord_start {i : Nat} {ys : List Ent} (h : Ord i ys) : Ord1 i i ys := ⟨fun a b x y h1 h2 h3 h4 hx hy => h a b x y h1 (by omega) hx hy, fun m x y h1 h2 => by omega⟩
def swapE (ys : List Ent) (j : Nat) (x y : Ent) : List Ent := (ys.set (j + 1) x).set j y
theorem swap_perm {ys : List Ent} {j : Nat} {x y : Ent} (hx : ys[j]? = some x) (hy : ys[j + 1]? = some y) : (swapE ys j x y).Perm ys := by
 obtain ⟨h1, rfl⟩ := List.getElem?_eq_some_iff.1 hx
 obtain ⟨h2, rfl⟩ := List.getElem?_eq_some_iff.1 hy
 exact List.set_set_perm h2 h1
theorem swap_at {ys : List Ent} {j : Nat} {x y : Ent} (hl : j + 1 < ys.length) (a : Nat) : (swapE ys j x y)[a]? = if a = j then some y else if a = j + 1 then some x else ys[a]? := by
 unfold swapE
 by_cases h1 : a = j
 ·subst h1
  rw [if_pos rfl, List.getElem?_set_self (by simp; omega)]
 ·rw [if_neg h1, List.getElem?_set_ne (by omega)]
  by_cases h2 : a = j + 1
  ·subst h2
   rw [if_pos rfl, List.getElem?_set_self hl]
  ·rw [if_neg h2, List.getElem?_set_ne (by omega)]
theorem ord_swap {i j : Nat} {ys : List Ent} {x y : Ent} (h : Ord1 i (j + 1) ys) (hx : ys[j]? = some x) (hy : ys[j + 1]? = some y) (hlt : lessB y x = true) (hne : x.pair ≠ y.pair) (hi : j + 1 ≤ i) : Ord1 i j (swapE ys j x y) := by
 have hl : j + 1 < ys.length := (List.getElem?_eq_some_iff.1 hy).1
 refine ⟨fun a b u v h1 h2 h3 h4 hu hv => ?_, fun m u v h1 h2 hu hv => ?_⟩
 ·rw [swap_at hl, if_neg h3] at hu
  rw [swap_at hl, if_neg h4] at hv
  by_cases ha : a = j + 1
  ·rw [if_pos ha] at hu
   rw [if_neg (by omega)] at hv
   cases hu
   exact h.1 j b _ v (by omega) h2 (by omega) (by omega) hx hv
  ·rw [if_neg ha] at hu
   by_cases hb : b = j + 1
   ·rw [if_pos hb] at hv
    cases hv
    exact h.1 a j u _ (by omega) (by omega) (by omega) (by omega) hu hx
   ·rw [if_neg hb] at hv
    exact h.1 a b u v h1 h2 ha hb hu hv
 ·rw [swap_at hl, if_pos rfl] at hu
  rw [swap_at hl, if_neg (by omega)] at hv
  cases hu
  by_cases hm : m = j + 1
  ·rw [if_pos hm] at hv
   cases hv
   exact ⟨hlt, hne.symm⟩
  ·rw [if_neg hm] at hv
   exact h.2 m _ v (by omega) h2 hy hv
theorem ord_end0 {i : Nat} {ys : List Ent} (h : Ord1 i 0 ys) : Ord (i + 1) ys := fun a b x y h1 h2 hx hy => by
 by_cases ha : a = 0
 ·subst ha; exact h.2 b x y h1 (by omega) hx hy
 ·exact h.1 a b x y h1 (by omega) ha (by omega) hx hy
theorem ord_end {i j : Nat} {ys : List Ent} {x y : Ent} (h : Ord1 i (j + 1) ys) (hn : Unlike ys) (hx : ys[j]? = some x) (hy : ys[j + 1]? = some y) (hlt : ¬ lessB y x = true) (hi : j + 1 ≤ i) : Ord (i + 1) ys := fun a b u v h1 h2 hu hv => by
 have hU : lessB x y = true := less_total hlt (unlike_at hn (Nat.lt_succ_self j) hx hy).symm
 by_cases ha : a = j + 1
 ·subst ha; exact h.2 b u v h1 (by omega) hu hv
 ·by_cases hb : b = j + 1
  ·subst hb
   refine ⟨?_, unlike_at hn h1 hu hv⟩
   rw [hy] at hv; cases hv
   by_cases haj : a = j
   ·subst haj; rw [hx] at hu; cases hu; exact hU
   ·exact less_trans (h.1 a j u x (by omega) (by omega) ha (by omega) hu hx).1 hU
  ·exact h.1 a b u v h1 (by omega) ha hb hu hv
theorem ord_ups {ys : List Ent} (h : Ord ys.length ys) : ys.Pairwise Ups := List.pairwise_iff_getElem.2 fun a b ha hb hab => h a b _ _ hab hb (List.getElem?_eq_getElem ha) (List.getElem?_eq_getElem hb)
/-! ### What the pairs of a disk tell, in turn -/
def tellsE (d : Dk) : Nat → List Ent
 | 0 => []
 | n + 1 => if (d.tell (n : Int)).kind = 1 then tellsE d n else tellsE d n ++ [⟨d.tell (n : Int), (n : Int)⟩]
theorem tells_mem (d : Dk) (x : Ent) : ∀ n, x ∈ tellsE d n ↔ ∃ p : Nat, p < n ∧ (d.tell (p : Int)).kind ≠ 1 ∧ x = ⟨d.tell (p : Int), (p : Int)⟩
 | 0 => by simp [tellsE]
 | n + 1 => by
  have ih := tells_mem d x n
  unfold tellsE
  by_cases h : (d.tell (n : Int)).kind = 1
  ·rw [if_pos h, ih]
   constructor
   ·rintro ⟨p, h1, h2⟩; exact ⟨p, by omega, h2⟩
   ·rintro ⟨p, h1, h2, h3⟩
    refine ⟨p, ?_, h2, h3⟩
    rcases Nat.lt_succ_iff_lt_or_eq.1 h1 with h4 | rfl
    ·exact h4
    ·exact absurd h h2
  ·rw [if_neg h, List.mem_append, ih, List.mem_singleton]
   constructor
   ·rintro (⟨p, h1, h2⟩ | rfl)
    ·exact ⟨p, by omega, h2⟩
    ·exact ⟨n, by omega, h, rfl⟩
   ·rintro ⟨p, h1, h2, h3⟩
    rcases Nat.lt_succ_iff_lt_or_eq.1 h1 with h4 | rfl
    ·exact .inl ⟨p, h4, h2, h3⟩
    ·exact .inr h3
theorem tells_len (d : Dk) : ∀ n, (tellsE d n).length ≤ n
 | 0 => by simp [tellsE]
 | n + 1 => by
  have ih := tells_len d n
  unfold tellsE
  split
  ·omega
  ·simp; omega
theorem tells_unlike (d : Dk) : ∀ n, Unlike (tellsE d n)
 | 0 => by simp [tellsE, Unlike]
 | n + 1 => by
  have ih := tells_unlike d n
  unfold tellsE
  split
  ·exact ih
  ·refine List.pairwise_append.2 ⟨ih, by simp, fun x hx y hy => ?_⟩
   obtain ⟨p, h1, _, rfl⟩ := (tells_mem d x n).1 hx
   rw [List.mem_singleton.1 hy]
   show (p : Int) ≠ (n : Int)
   omega
/-- What the pairs tell, put in order, is the disk's index. -/
theorem tells_scan (d : Dk) (n : Nat) (hn : n ≤ 1000) {ys : List Ent} (hp : ys.Perm (tellsE d n)) (ho : ys.Pairwise Ups) : ys = scanE d n :=
 ups_eq _ _ ho ((rightI_iff _).1 (scan_right d n hn)).1 fun x => by rw [hp.mem_iff, tells_mem, scan_mem]
/-! ### Those ahead, it, and those behind -/
/-! ### The first, the last, the first that is free -/
end Go.Proofs.Ytlickojpmffmiac
namespace Go.Proofs.Ytlickojpmffmiac
set_option maxRecDepth 100000
open Go.RowKit
open Plain Reg
/-! ### The first that is free -/
end Go.Proofs.Ytlickojpmffmiac
