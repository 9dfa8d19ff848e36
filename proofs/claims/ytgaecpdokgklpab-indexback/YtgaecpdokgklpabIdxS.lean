/-
  What comes of putting entries in order, of choosing some, and of looking for one, told of lists. No program.
-/
import Derived.Test.YtgaecpdokgklpabIdxC
namespace Go.Proofs.Ytgaecpdokgklpab
set_option maxRecDepth 100000
open Go.Proofs.Ytgaecpdokgklpab.Plain

theorem less_irrefl (a : Ent) : ¬ lessB a a = true := by simp [lessB]
theorem less_asymm {a b : Ent} (h : lessB a b = true) : ¬ lessB b a = true := fun h2 => less_irrefl a (less_trans h h2)
/-- Two lists in order that have the same are the same. -/
theorem ups_eq : ∀ (a b : List Ent), a.Pairwise Ups → b.Pairwise Ups → (∀ x, x ∈ a ↔ x ∈ b) → a = b
 | [], [], _, _, _ => rfl
 | [], y :: b, _, _, h => absurd ((h y).2 (by simp)) (by simp)
 | x :: a, [], _, _, h => absurd ((h x).1 (by simp)) (by simp)
 | x :: a, y :: b, ha, hb, h => by
  obtain ⟨ha1, ha2⟩ := List.pairwise_cons.1 ha
  obtain ⟨hb1, hb2⟩ := List.pairwise_cons.1 hb
  have hxy : x = y := by
   rcases List.mem_cons.1 ((h x).1 (by simp)) with h1 | h1
   ·exact h1
   ·rcases List.mem_cons.1 ((h y).2 (by simp)) with h2 | h2
    ·exact h2.symm
    ·exact absurd (ha1 y h2).1 (less_asymm (hb1 x h1).1)
  subst hxy
  rw [ups_eq a b ha2 hb2 fun z => ?_]
  constructor
  ·intro hz
   rcases List.mem_cons.1 ((h z).1 (by simp [hz])) with rfl | h2
   ·exact absurd (ha1 z hz).1 (less_irrefl z)
   ·exact h2
  ·intro hz
   rcases List.mem_cons.1 ((h z).2 (by simp [hz])) with rfl | h2
   ·exact absurd (hb1 z hz).1 (less_irrefl z)
   ·exact h2

/-! ### One at a time, into its place among those ahead -/

def Unlike (ys : List Ent) : Prop := ys.Pairwise fun a b => a.pair ≠ b.pair
theorem unlike_at {ys : List Ent} (h : Unlike ys) {a b : Nat} {x y : Ent} (hab : a < b) (hx : ys[a]? = some x) (hy : ys[b]? = some y) : x.pair ≠ y.pair := by
 obtain ⟨h1, rfl⟩ := List.getElem?_eq_some_iff.1 hx
 obtain ⟨h2, rfl⟩ := List.getElem?_eq_some_iff.1 hy
 exact List.pairwise_iff_getElem.1 h a b h1 h2 hab
theorem unlike_perm {xs ys : List Ent} (h : Unlike xs) (hp : ys.Perm xs) : Unlike ys := (hp.pairwise_iff (fun h e => h e.symm)).2 h
/-- The first i are in order. -/
def Ord (i : Nat) (ys : List Ent) : Prop := ∀ a b x y, a < b → b < i → ys[a]? = some x → ys[b]? = some y → Ups x y
/-- The first i + 1 are in order but for that at j, which is ahead of those behind it. -/
def Ord1 (i j : Nat) (ys : List Ent) : Prop := (∀ a b x y, a < b → b ≤ i → a ≠ j → b ≠ j → ys[a]? = some x → ys[b]? = some y → Ups x y) ∧ ∀ m x y, j < m → m ≤ i → ys[j]? = some x → ys[m]? = some y → Ups x y
theorem ord_start {i : Nat} {ys : List Ent} (h : Ord i ys) : Ord1 i i ys := ⟨fun a b x y h1 h2 h3 h4 hx hy => h a b x y h1 (by omega) hx hy, fun m x y h1 h2 => by omega⟩
def swapE (ys : List Ent) (j : Nat) (x y : Ent) : List Ent := (ys.set (j + 1) x).set j y
theorem swap_perm {ys : List Ent} {j : Nat} {x y : Ent} (hx : ys[j]? = some x) (hy : ys[j + 1]? = some y) : (swapE ys j x y).Perm ys := by
 obtain ⟨h1, rfl⟩ := List.getElem?_eq_some_iff.1 hx
 obtain ⟨h2, rfl⟩ := List.getElem?_eq_some_iff.1 hy
 exact List.set_set_perm h2 h1
theorem swap_at {ys : List Ent} {j : Nat} {x y : Ent} (hl : j + 1 < ys.length) (a : Nat) : (swapE ys j x y)[a]? = if a = j then some y else if a = j + 1 then some x else ys[a]? := by
 unfold swapE
 by_cases h1 : a = j
 ·subst h1
  rw [if_pos rfl, List.getElem?_set_self (by simp; omega)]
 ·rw [if_neg h1, List.getElem?_set_ne (by omega)]
  by_cases h2 : a = j + 1
  ·subst h2
   rw [if_pos rfl, List.getElem?_set_self hl]
  ·rw [if_neg h2, List.getElem?_set_ne (by omega)]
theorem ord_swap {i j : Nat} {ys : List Ent} {x y : Ent} (h : Ord1 i (j + 1) ys) (hx : ys[j]? = some x) (hy : ys[j + 1]? = some y) (hlt : lessB y x = true) (hne : x.pair ≠ y.pair) (hi : j + 1 ≤ i) : Ord1 i j (swapE ys j x y) := by
 have hl : j + 1 < ys.length := (List.getElem?_eq_some_iff.1 hy).1
 refine ⟨fun a b u v h1 h2 h3 h4 hu hv => ?_, fun m u v h1 h2 hu hv => ?_⟩
 ·rw [swap_at hl, if_neg h3] at hu
  rw [swap_at hl, if_neg h4] at hv
  by_cases ha : a = j + 1
  ·rw [if_pos ha] at hu
   rw [if_neg (by omega)] at hv
   cases hu
   exact h.1 j b _ v (by omega) h2 (by omega) (by omega) hx hv
  ·rw [if_neg ha] at hu
   by_cases hb : b = j + 1
   ·rw [if_pos hb] at hv
    cases hv
    exact h.1 a j u _ (by omega) (by omega) (by omega) (by omega) hu hx
   ·rw [if_neg hb] at hv
    exact h.1 a b u v h1 h2 ha hb hu hv
 ·rw [swap_at hl, if_pos rfl] at hu
  rw [swap_at hl, if_neg (by omega)] at hv
  cases hu
  by_cases hm : m = j + 1
  ·rw [if_pos hm] at hv
   cases hv
   exact ⟨hlt, hne.symm⟩
  ·rw [if_neg hm] at hv
   exact h.2 m _ v (by omega) h2 hy hv
theorem ord_end0 {i : Nat} {ys : List Ent} (h : Ord1 i 0 ys) : Ord (i + 1) ys := fun a b x y h1 h2 hx hy => by
 by_cases ha : a = 0
 ·subst ha; exact h.2 b x y h1 (by omega) hx hy
 ·exact h.1 a b x y h1 (by omega) ha (by omega) hx hy
theorem ord_end {i j : Nat} {ys : List Ent} {x y : Ent} (h : Ord1 i (j + 1) ys) (hn : Unlike ys) (hx : ys[j]? = some x) (hy : ys[j + 1]? = some y) (hlt : ¬ lessB y x = true) (hi : j + 1 ≤ i) : Ord (i + 1) ys := fun a b u v h1 h2 hu hv => by
 have hU : lessB x y = true := less_total hlt (unlike_at hn (Nat.lt_succ_self j) hx hy).symm
 by_cases ha : a = j + 1
 ·subst ha; exact h.2 b u v h1 (by omega) hu hv
 ·by_cases hb : b = j + 1
  ·subst hb
   refine ⟨?_, unlike_at hn h1 hu hv⟩
   rw [hy] at hv; cases hv
   by_cases haj : a = j
   ·subst haj; rw [hx] at hu; cases hu; exact hU
   ·exact less_trans (h.1 a j u x (by omega) (by omega) ha (by omega) hu hx).1 hU
  ·exact h.1 a b u v h1 (by omega) ha hb hu hv
theorem ord_ups {ys : List Ent} (h : Ord ys.length ys) : ys.Pairwise Ups := List.pairwise_iff_getElem.2 fun a b ha hb hab => h a b _ _ hab hb (List.getElem?_eq_getElem ha) (List.getElem?_eq_getElem hb)

/-! ### What the pairs of a disk tell, in turn -/

def tellsE (d : Dk) : Nat → List Ent
 | 0 => []
 | n + 1 => if (d.tell (n : Int)).kind = 1 then tellsE d n else tellsE d n ++ [⟨d.tell (n : Int), (n : Int)⟩]
theorem tells_mem (d : Dk) (x : Ent) : ∀ n, x ∈ tellsE d n ↔ ∃ p : Nat, p < n ∧ (d.tell (p : Int)).kind ≠ 1 ∧ x = ⟨d.tell (p : Int), (p : Int)⟩
 | 0 => by simp [tellsE]
 | n + 1 => by
  have ih := tells_mem d x n
  unfold tellsE
  by_cases h : (d.tell (n : Int)).kind = 1
  ·rw [if_pos h, ih]
   constructor
   ·rintro ⟨p, h1, h2⟩; exact ⟨p, by omega, h2⟩
   ·rintro ⟨p, h1, h2, h3⟩
    refine ⟨p, ?_, h2, h3⟩
    rcases Nat.lt_succ_iff_lt_or_eq.1 h1 with h4 | rfl
    ·exact h4
    ·exact absurd h h2
  ·rw [if_neg h, List.mem_append, ih, List.mem_singleton]
   constructor
   ·rintro (⟨p, h1, h2⟩ | rfl)
    ·exact ⟨p, by omega, h2⟩
    ·exact ⟨n, by omega, h, rfl⟩
   ·rintro ⟨p, h1, h2, h3⟩
    rcases Nat.lt_succ_iff_lt_or_eq.1 h1 with h4 | rfl
    ·exact .inl ⟨p, h4, h2, h3⟩
    ·exact .inr h3
theorem tells_len (d : Dk) : ∀ n, (tellsE d n).length ≤ n
 | 0 => by simp [tellsE]
 | n + 1 => by
  have ih := tells_len d n
  unfold tellsE
  split
  ·omega
  ·simp; omega
theorem tells_unlike (d : Dk) : ∀ n, Unlike (tellsE d n)
 | 0 => by simp [tellsE, Unlike]
 | n + 1 => by
  have ih := tells_unlike d n
  unfold tellsE
  split
  ·exact ih
  ·refine List.pairwise_append.2 ⟨ih, by simp, fun x hx y hy => ?_⟩
   obtain ⟨p, h1, _, rfl⟩ := (tells_mem d x n).1 hx
   rw [List.mem_singleton.1 hy]
   show (p : Int) ≠ (n : Int)
   omega
/-- What the pairs tell, put in order, is the disk's index. -/
theorem tells_scan (d : Dk) (n : Nat) (hn : n ≤ 1000) {ys : List Ent} (hp : ys.Perm (tellsE d n)) (ho : ys.Pairwise Ups) : ys = scanE d n :=
 ups_eq _ _ ho ((rightI_iff _).1 (scan_right d n hn)).1 fun x => by rw [hp.mem_iff, tells_mem, scan_mem]

/-! ### Those ahead, it, and those behind -/

theorem ahead_none {e : Ent} : ∀ {l : List Ent}, (∀ x ∈ l, lessB e x = true) → (l.filter fun x => lessB x e) = [] ∧ (l.filter fun x => lessB e x) = l := by
 intro l h
 refine ⟨List.filter_eq_nil_iff.2 fun x hx => less_asymm (h x hx), List.filter_eq_self.2 h⟩
theorem insert_parts (e : Ent) : ∀ l : List Ent, l.Pairwise Ups → (∀ x ∈ l, x.pair ≠ e.pair) → (l.filter fun x => lessB x e) ++ [e] ++ (l.filter fun x => lessB e x) = insR e l
 | [], _, _ => by simp [insR]
 | x :: l, hp, hne => by
  obtain ⟨h1, h2⟩ := List.pairwise_cons.1 hp
  unfold insR
  by_cases h : lessB e x = true
  ·rw [if_pos h]
   obtain ⟨k1, k2⟩ := ahead_none (e := e) (l := x :: l) fun y hy => by
    rcases List.mem_cons.1 hy with rfl | hy
    ·exact h
    ·exact less_trans h (h1 y hy).1
   rw [k1, k2]; rfl
  ·have f1 : (x :: l).filter (fun x => lessB x e) = x :: l.filter (fun x => lessB x e) := List.filter_cons_of_pos (less_total h fun e' => hne x (by simp) e'.symm)
   have f2 : (x :: l).filter (fun x => lessB e x) = l.filter (fun x => lessB e x) := List.filter_cons_of_neg h
   rw [if_neg h, f1, f2, ← insert_parts e l h2 fun y hy => hne y (by simp [hy])]
   rfl

/-! ### The first, the last, the first that is free -/

theorem find_here {l : List Ent} {key ver : Int} {k : Nat} (hk : k < l.length) (h0 : ∀ x ∈ l.take k, ¬ (x.rc.key = key ∧ x.rc.ver = ver)) (h1 : l[k].rc.key = key ∧ l[k].rc.ver = ver) : findOf l key ver = some l[k] := by
 unfold findOf
 have e : l = l.take k ++ l[k] :: l.drop (k + 1) := by
  rw [← List.drop_eq_getElem_cons hk, List.take_append_drop]
 have h2 : (l.take k).find? (fun x => decide (x.rc.key = key ∧ x.rc.ver = ver)) = none := List.find?_eq_none.2 fun x hx => by simpa using h0 x hx
 conv => lhs; rw [e]
 rw [List.find?_append, h2, Option.none_or, List.find?_cons_of_pos (by simpa using h1)]
theorem last_here {l : List Ent} {key : Int} {k : Nat} (hk : k < l.length) (h0 : ∀ x ∈ l.drop (k + 1), ¬ x.rc.key = key) (h1 : l[k].rc.key = key) : lastOf l key = some l[k] := by
 unfold lastOf
 have e : l = l.take k ++ l[k] :: l.drop (k + 1) := by
  rw [← List.drop_eq_getElem_cons hk, List.take_append_drop]
 have h2 : (l.drop (k + 1)).filter (fun x => decide (x.rc.key = key)) = [] := List.filter_eq_nil_iff.2 fun x hx => by simpa using h0 x hx
 conv => lhs; rw [e]
 rw [List.filter_append, List.filter_cons_of_pos (by simpa using h1), h2, List.getLast?_append]
 simp
theorem last_none {l : List Ent} {key : Int} (h0 : ∀ x ∈ l, ¬ x.rc.key = key) : lastOf l key = none := by
 unfold lastOf
 rw [List.filter_eq_nil_iff.2 fun x hx => by simpa using h0 x hx]
 rfl
theorem mem_take_succ {l : List Ent} {k : Nat} (hk : k < l.length) {x : Ent} (h : x ∈ l.take (k + 1)) : x ∈ l.take k ∨ x = l[k] := by
 rw [List.take_succ_eq_append_getElem hk] at h
 rcases List.mem_append.1 h with h | h
 ·exact .inl h
 ·exact .inr (List.mem_singleton.1 h)
theorem mem_drop_succ {l : List Ent} {k : Nat} (hk : k < l.length) {x : Ent} (h : x ∈ l.drop k) : x = l[k] ∨ x ∈ l.drop (k + 1) := by
 rw [List.drop_eq_getElem_cons hk] at h
 exact List.mem_cons.1 h
/-- As many numbers as there are in a list: not more. -/
theorem range_le : ∀ (n : Nat) (l : List Nat), (∀ m, m < n → m ∈ l) → n ≤ l.length
 | 0, _, _ => Nat.zero_le _
 | n + 1, l, h => by
  have h1 := range_le n (l.erase n) fun m hm => (List.mem_erase_of_ne (by omega)).2 (h m (by omega))
  have h2 := List.length_erase_of_mem (h n (by omega))
  have h3 := List.length_pos_of_mem (h n (by omega))
  omega
theorem least_of {l : List Ent} {f : Nat} (h0 : ∀ n : Nat, n < f → ∃ x ∈ l, x.pair = (n : Int)) (h1 : f = l.length ∨ ∀ x ∈ l, x.pair ≠ (f : Int)) : Least l f := by
 refine ⟨h0, ?_⟩
 rcases h1 with rfl | h1
 ·intro x hx hp
  have := range_le (l.length + 1) (l.map fun x => x.pair.toNat) fun m hm => by
   rcases Nat.lt_succ_iff_lt_or_eq.1 hm with h2 | rfl
   ·obtain ⟨y, hy, hyp⟩ := h0 m h2
    exact List.mem_map.2 ⟨y, hy, by rw [hyp]; rfl⟩
   ·exact List.mem_map.2 ⟨x, hx, by rw [hp]; rfl⟩
  rw [List.length_map] at this
  omega
 ·exact h1
end Go.Proofs.Ytgaecpdokgklpab
