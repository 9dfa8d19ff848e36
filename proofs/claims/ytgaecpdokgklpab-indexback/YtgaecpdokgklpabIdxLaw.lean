/-
  What comes of entries in order, told of lists: what is added, and taken, is as it was; what a disk tells is found. No program.
-/
import Derived.Test.YtgaecpdokgklpabRIndex
import Derived.Test.YtgaecpdokgklpabPairLaw
namespace Go.Proofs.Ytgaecpdokgklpab
set_option maxRecDepth 100000
open Go.Proofs.Ytgaecpdokgklpab.Plain

/-! ### Into its place -/

def insR (e : Ent) : List Ent → List Ent
 | [] => [e]
 | x :: l => if lessB e x = true then e :: x :: l else x :: insR e l
theorem insSt_done (e : Ent) : ∀ (l pre : List Ent), l.foldl (insStep e) (pre, true) = (pre ++ l, true)
 | [], pre => by simp
 | x :: l, pre => by
  rw [List.foldl_cons, show insStep e (pre, true) x = (pre ++ [x], true) from by simp [insStep], insSt_done e l]
  simp
theorem insSt_rec (e : Ent) : ∀ (l pre : List Ent), (if (l.foldl (insStep e) (pre, false)).2 = true then (l.foldl (insStep e) (pre, false)).1 else (l.foldl (insStep e) (pre, false)).1 ++ [e]) = pre ++ insR e l
 | [], pre => by simp [insR]
 | x :: l, pre => by
  rw [List.foldl_cons]
  by_cases h : lessB e x = true
  ·rw [show insStep e (pre, false) x = (pre ++ [e] ++ [x], true) from by simp [insStep, h], insSt_done]
   simp [insR, h]
  ·rw [show insStep e (pre, false) x = (pre ++ [x], false) from by simp [insStep, h], insSt_rec e l]
   simp [insR, h]
theorem insertE_rec (e : Ent) (l : List Ent) : insertE e l = insR e l := by
 have := insSt_rec e l []
 unfold insertE insSt
 simpa using this
theorem insR_mem (e x : Ent) : ∀ l : List Ent, x ∈ insR e l ↔ x = e ∨ x ∈ l
 | [] => by simp [insR]
 | y :: l => by
  have ih := insR_mem e x l
  unfold insR
  split
  ·simp
  ·simp [ih]
   constructor
   ·rintro (h | h | h)
    ·exact .inr (.inl h)
    ·exact .inl h
    ·exact .inr (.inr h)
   ·rintro (h | h | h)
    ·exact .inr (.inl h)
    ·exact .inl h
    ·exact .inr (.inr h)
theorem insertE_mem (e x : Ent) (l : List Ent) : x ∈ insertE e l ↔ x = e ∨ x ∈ l := by rw [insertE_rec]; exact insR_mem e x l

/-! ### The order -/

theorem less_trans {a b c : Ent} (h1 : lessB a b = true) (h2 : lessB b c = true) : lessB a c = true := by
 unfold lessB at h1 h2 ⊢
 split at h1 <;> split at h2 <;> split <;> try split at h1 <;> try split at h2 <;> try split
 all_goals simp only [decide_eq_true_eq] at *
 all_goals first | omega | (split at h2 <;> simp only [decide_eq_true_eq] at * <;> first | omega | (split <;> simp only [decide_eq_true_eq] at * <;> omega)) | (split <;> simp only [decide_eq_true_eq] at * <;> omega)
theorem less_total {a b : Ent} (h : ¬ lessB a b = true) (hp : a.pair ≠ b.pair) : lessB b a = true := by
 unfold lessB at h ⊢
 by_cases hk : a.rc.key = b.rc.key
 ·rw [if_pos hk] at h
  rw [if_pos hk.symm]
  by_cases hv : a.rc.ver = b.rc.ver
  ·rw [if_pos hv] at h
   rw [if_pos hv.symm]
   simp only [decide_eq_true_eq] at *; omega
  ·rw [if_neg hv] at h
   rw [if_neg (fun e => hv e.symm)]
   simp only [decide_eq_true_eq] at *; omega
 ·rw [if_neg hk] at h
  rw [if_neg (fun e => hk e.symm)]
  simp only [decide_eq_true_eq] at *; omega
/-- An entry that an index may have. -/
def Good (e : Ent) : Prop := wrong e.rc = 0 ∧ e.rc.kind ≠ 1 ∧ 0 ≤ e.pair ∧ e.pair ≤ 1000
def Ups (a b : Ent) : Prop := lessB a b = true ∧ a.pair ≠ b.pair
theorem okE_iff (pre : List Ent) (e : Ent) : okE pre e = true ↔ Good e ∧ lastLess pre e = true ∧ ∀ x ∈ pre, x.pair ≠ e.pair := by
 unfold okE Good
 simp only [Bool.and_eq_true, decide_eq_true_eq, List.all_eq_true]
 exact ⟨fun ⟨⟨h1, h2⟩, h3⟩ => ⟨h1, h2, h3⟩, fun ⟨h1, h2, h3⟩ => ⟨⟨h1, h2⟩, h3⟩⟩
theorem last_all {e : Ent} : ∀ pre : List Ent, pre.Pairwise Ups → lastLess pre e = true → ∀ x ∈ pre, lessB x e = true := by
 intro pre hp hl x hx
 have h : pre ≠ [] := by rintro rfl; cases hx
 obtain ⟨pre', y, rfl⟩ : ∃ pre' y, pre = pre' ++ [y] := ⟨pre.dropLast, pre.getLast h, (List.dropLast_concat_getLast h).symm⟩
 have hy : lessB y e = true := by
  unfold lastLess at hl
  rw [List.getLast?_append] at hl
  simpa using hl
 rcases List.mem_append.1 hx with h1 | h1
 ·have := (List.pairwise_append.1 hp).2.2 x h1 y (by simp)
  exact less_trans this.1 hy
 ·rw [List.mem_singleton.1 h1]; exact hy
theorem rightFrom_iff : ∀ (l pre : List Ent), pre.Pairwise Ups → (rightFrom pre l = true ↔ (pre ++ l).Pairwise Ups ∧ ∀ x ∈ l, Good x)
 | [], pre, hp => by simp [rightFrom, hp]
 | e :: l, pre, hp => by
  unfold rightFrom
  rw [Bool.and_eq_true, okE_iff]
  constructor
  ·rintro ⟨⟨h1, h2, h3⟩, h4⟩
   have hp2 : (pre ++ [e]).Pairwise Ups := List.pairwise_append.2 ⟨hp, by simp, fun x hx y hy => by
    rw [List.mem_singleton.1 hy]; exact ⟨last_all pre hp h2 x hx, h3 x hx⟩⟩
   obtain ⟨h5, h6⟩ := (rightFrom_iff l (pre ++ [e]) hp2).1 h4
   refine ⟨by simpa using h5, fun x hx => ?_⟩
   rcases List.mem_cons.1 hx with rfl | hx
   ·exact h1
   ·exact h6 x hx
  ·rintro ⟨h1, h2⟩
   have hp2 : (pre ++ [e]).Pairwise Ups := by
    have : (pre ++ [e] ++ l).Pairwise Ups := by simpa using h1
    exact (List.pairwise_append.1 this).1
   have hq := (List.pairwise_append.1 hp2).2.2
   refine ⟨⟨h2 e (by simp), ?_, fun x hx => (hq x hx e (by simp)).2⟩, (rightFrom_iff l (pre ++ [e]) hp2).2 ⟨by simpa using h1, fun x hx => h2 x (by simp [hx])⟩⟩
   unfold lastLess
   cases hg : pre.getLast? with
   | none => rfl
   | some y => exact (hq y (List.mem_of_getLast? hg) e (by simp)).1
theorem rightI_iff (l : List Ent) : rightI l = true ↔ l.Pairwise Ups ∧ ∀ x ∈ l, Good x := by
 have := rightFrom_iff l [] (by simp)
 simpa [rightI] using this
theorem insR_ups (e : Ent) : ∀ l : List Ent, l.Pairwise Ups → (∀ x ∈ l, x.pair ≠ e.pair) → (insR e l).Pairwise Ups
 | [], _, _ => by simp [insR]
 | x :: l, hp, hne => by
  obtain ⟨h1, h2⟩ := List.pairwise_cons.1 hp
  unfold insR
  by_cases h : lessB e x = true
  ·rw [if_pos h]
   refine List.pairwise_cons.2 ⟨fun y hy => ?_, hp⟩
   rcases List.mem_cons.1 hy with rfl | hy
   ·exact ⟨h, fun e' => hne y (by simp) e'.symm⟩
   ·exact ⟨less_trans h (h1 y hy).1, fun e' => hne y (by simp [hy]) e'.symm⟩
  ·rw [if_neg h]
   refine List.pairwise_cons.2 ⟨fun y hy => ?_, insR_ups e l h2 fun y hy => hne y (by simp [hy])⟩
   rcases (insR_mem e y l).1 hy with rfl | hy
   ·exact ⟨less_total h fun e' => hne x (by simp) e'.symm, hne x (by simp)⟩
   ·exact h1 y hy
theorem insertE_right {e : Ent} {l : List Ent} (h : rightI l = true) (he : Good e) (hne : ∀ x ∈ l, x.pair ≠ e.pair) : rightI (insertE e l) = true := by
 obtain ⟨h1, h2⟩ := (rightI_iff l).1 h
 rw [rightI_iff, insertE_rec]
 refine ⟨insR_ups e l h1 hne, fun x hx => ?_⟩
 rcases (insR_mem e x l).1 hx with rfl | hx
 ·exact he
 ·exact h2 x hx

/-! ### What is asked of an index -/

def lastOf (l : List Ent) (key : Int) : Option Ent := (l.filter fun x => decide (x.rc.key = key)).getLast?
def findOf (l : List Ent) (key ver : Int) : Option Ent := l.find? fun x => decide (x.rc.key = key ∧ x.rc.ver = ver)
def dropE (l : List Ent) (p : Int) : List Ent := l.filter fun x => decide (x.pair ≠ p)
/-- The first number from 0 on that is no pair of theirs. -/
def Least (l : List Ent) (f : Nat) : Prop := (∀ n : Nat, n < f → ∃ x ∈ l, x.pair = (n : Int)) ∧ ∀ x ∈ l, x.pair ≠ (f : Int)
def FreeOf (l : List Ent) (pairs r : Int) : Prop := ∃ f : Nat, Least l f ∧ ((f : Int) < pairs ∧ r = (f : Int) ∨ pairs ≤ (f : Int) ∧ r = -1)
theorem least_one {l : List Ent} {f g : Nat} (h1 : Least l f) (h2 : Least l g) : f = g := by
 rcases Nat.lt_trichotomy f g with h | h | h
 ·obtain ⟨x, hx, hp⟩ := h2.1 f h
  exact absurd hp (h1.2 x hx)
 ·exact h
 ·obtain ⟨x, hx, hp⟩ := h1.1 g h
  exact absurd hp (h2.2 x hx)
theorem free_one {l : List Ent} {pairs r q : Int} (h1 : FreeOf l pairs r) (h2 : FreeOf l pairs q) : r = q := by
 obtain ⟨f, hf, h1⟩ := h1
 obtain ⟨g, hg, h2⟩ := h2
 have := least_one hf hg
 subst this
 omega
theorem drop_ins (e : Ent) : ∀ l : List Ent, (∀ x ∈ l, x.pair ≠ e.pair) → dropE (insertE e l) e.pair = l := by
 intro l hne
 rw [insertE_rec]
 induction l with
 | nil => simp [insR, dropE]
 | cons x l ih =>
  have hx := hne x (by simp)
  have hf : dropE l e.pair = l := by
   unfold dropE
   rw [List.filter_eq_self]
   exact fun y hy => by simpa using hne y (by simp [hy])
  have ih2 := ih fun y hy => hne y (by simp [hy])
  unfold insR
  split
  ·unfold dropE at hf ⊢
   rw [List.filter_cons_of_neg (by simp), List.filter_cons_of_pos (by simpa using hx), hf]
  ·unfold dropE at ih2 ⊢
   rw [List.filter_cons_of_pos (by simpa using hx), ih2]
theorem find_ins (e : Ent) : ∀ l : List Ent, (∀ x ∈ l, ¬ (x.rc.key = e.rc.key ∧ x.rc.ver = e.rc.ver)) → findOf (insertE e l) e.rc.key e.rc.ver = some e := by
 intro l hne
 rw [insertE_rec]
 induction l with
 | nil => simp [insR, findOf]
 | cons x l ih =>
  have hx := hne x (by simp)
  have ih2 := ih fun y hy => hne y (by simp [hy])
  unfold insR
  split
  ·simp [findOf]
  ·unfold findOf at ih2 ⊢
   rw [List.find?_cons_of_neg (by simpa using hx)]
   exact ih2
theorem find_none {l : List Ent} {key ver : Int} (h : ∀ x ∈ l, ¬ (x.rc.key = key ∧ x.rc.ver = ver)) : findOf l key ver = none := by
 unfold findOf
 rw [List.find?_eq_none]
 exact fun x hx => by simpa using h x hx

/-! ### A disk's index -/

theorem scan_mem (d : Dk) (x : Ent) : ∀ n, x ∈ scanE d n ↔ ∃ p : Nat, p < n ∧ (d.tell (p : Int)).kind ≠ 1 ∧ x = ⟨d.tell (p : Int), (p : Int)⟩
 | 0 => by simp [scanE]
 | n + 1 => by
  have ih := scan_mem d x n
  unfold scanE
  by_cases h : (d.tell (n : Int)).kind = 1
  ·rw [if_pos h, ih]
   constructor
   ·rintro ⟨p, h1, h2⟩; exact ⟨p, by omega, h2⟩
   ·rintro ⟨p, h1, h2, h3⟩
    refine ⟨p, ?_, h2, h3⟩
    rcases Nat.lt_succ_iff_lt_or_eq.1 h1 with h4 | rfl
    ·exact h4
    ·exact absurd h h2
  ·rw [if_neg h, insertE_mem, ih]
   constructor
   ·rintro (rfl | ⟨p, h1, h2⟩)
    ·exact ⟨n, by omega, h, rfl⟩
    ·exact ⟨p, by omega, h2⟩
   ·rintro ⟨p, h1, h2, h3⟩
    rcases Nat.lt_succ_iff_lt_or_eq.1 h1 with h4 | rfl
    ·exact .inr ⟨p, h4, h2, h3⟩
    ·exact .inl h3
theorem scan_right (d : Dk) : ∀ n, n ≤ 1000 → rightI (scanE d n) = true
 | 0, _ => rfl
 | n + 1, hn => by
  have ih := scan_right d n (by omega)
  unfold scanE
  split
  ·exact ih
  ·rename_i h
   refine insertE_right ih ⟨tell_wrong d _, h, by show (0 : Int) ≤ (n : Int); omega, by show (n : Int) ≤ 1000; omega⟩ fun x hx => ?_
   obtain ⟨p, h1, _, rfl⟩ := (scan_mem d x n).1 hx
   show (p : Int) ≠ (n : Int)
   omega
theorem scan_next (d : Dk) (n : Nat) : (scanE d (n + 1)).length = (scanE d n).length + (if (d.tell (n : Int)).kind = 1 then 0 else 1) := by
 rw [scanE.eq_def]
 split
 ·contradiction
 ·rename_i m hm
  cases hm
  split
  ·rfl
  ·exact insertE_exact _ _
end Go.Proofs.Ytgaecpdokgklpab
