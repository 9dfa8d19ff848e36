import Derived.Test.YtpdnapbchcdhlaaRIndex
import Derived.Test.YtpdnapbchcdhlaaBlk
set_option maxHeartbeats 8000000
namespace Go.Proofs.Ytpdnapbchcdhlaa
set_option maxRecDepth 100000
open Plain
variable {a b e : Ent} {l : List Ent}
def Ks (e : Ent) : List Ent → List Ent
 | [] => [e]
 | x :: l => if Ya e x = true then e :: x :: l else x :: Ks e l
theorem Zat (e : Ent) : ∀ (l pre : List Ent), l.foldl (Yr e) (pre, true) = (pre ++ l, true)
 | [], pre => by simp
 | x :: l, pre => by
  rw [List.foldl_cons, show Yr e (pre, true) x = (pre ++ [x], true) from by simp [Yr], Zat e l];simp
theorem Zbd (e : Ent) : ∀ (l pre : List Ent), (if (l.foldl (Yr e) (pre, false)).2 = true then (l.foldl (Yr e) (pre, false)).1 else (l.foldl (Yr e) (pre, false)).1 ++ [e]) = pre ++ Ks e l
 | [], pre => by simp [Ks]
 | x :: l, pre => by
  rw [List.foldl_cons];by_cases h : Ya e x = true
  ·rw [show Yr e (pre, false) x = (pre ++ [e] ++ [x], true) from by simp [Yr, h], Zat];simp [Ks, h]
  ·rw [show Yr e (pre, false) x = (pre ++ [x], false) from by simp [Yr, h], Zbd e l];simp [Ks, h]
theorem Vy (e : Ent) (l : List Ent) : Y5 e l = Ks e l := by
 have := Zbd e l [];unfold Y5 Xl;simpa using this
theorem K2 (e x : Ent) : ∀ l : List Ent, x ∈ Ks e l ↔ x = e ∨ x ∈ l
 | [] => by simp [Ks]
 | y :: l => by
  have ih := K2 e x l;unfold Ks;split
  ·simp
  ·simp [ih];constructor
   ·rintro (h | h | h)
    ·exact .inr (.inl h)
    ·exact .inl h
    ·exact .inr (.inr h)
   ·rintro (h | h | h)
    ·exact .inr (.inl h)
    ·exact .inl h
    ·exact .inr (.inr h)
theorem Zc6 (e x : Ent) (l : List Ent) : x ∈ Y5 e l ↔ x = e ∨ x ∈ l := by rw [Vy]; exact K2 e x l
theorem Q2 {c : Ent} (h1 : Ya a b = true) (h2 : Ya b c = true) : Ya a c = true := by
 unfold Ya at h1 h2 ⊢;split at h1 <;> split at h2 <;> split <;> try split at h1 <;> try split at h2 <;> try split
 all_goals simp only [decide_eq_true_eq] at *
 all_goals first | omega | (split at h2 <;> simp only [decide_eq_true_eq] at * <;> first | omega | (split <;> simp only [decide_eq_true_eq] at * <;> omega)) | (split <;> simp only [decide_eq_true_eq] at * <;> omega)
theorem Kr (h : ¬ Ya a b = true) (hp : a.pair ≠ b.pair) : Ya b a = true := by
 unfold Ya at h ⊢;by_cases hk : a.rc.key = b.rc.key
 ·rw [if_pos hk] at h;rw [if_pos hk.symm];by_cases hv : a.rc.ver = b.rc.ver
  ·rw [if_pos hv] at h;rw [if_pos hv.symm];simp only [decide_eq_true_eq] at *; omega
  ·rw [if_neg hv] at h;rw [if_neg (fun e => hv e.symm)];simp only [decide_eq_true_eq] at *; omega
 ·rw [if_neg hk] at h;rw [if_neg (fun e => hk e.symm)];simp only [decide_eq_true_eq] at *; omega
def Ze0 (e : Ent) : Prop := Z2 e.rc = 0 ∧ e.rc.kind ≠ 1 ∧ 0 ≤ e.pair ∧ e.pair ≤ 1000
def Ups (a b : Ent) : Prop := Ya a b = true ∧ a.pair ≠ b.pair
theorem Zjr (pre : List Ent) (e : Ent) : okE pre e = true ↔ Ze0 e ∧ Qe pre e = true ∧ ∀ x ∈ pre, x.pair ≠ e.pair := by
 unfold okE Ze0;simp only [Bool.and_eq_true, decide_eq_true_eq, List.all_eq_true];exact ⟨fun ⟨⟨h1, h2⟩, h3⟩ => ⟨h1, h2, h3⟩, fun ⟨h1, h2, h3⟩ => ⟨⟨h1, h2⟩, h3⟩⟩
theorem Zif : ∀ pre : List Ent, pre.Pairwise Ups → Qe pre e = true → ∀ x ∈ pre, Ya x e = true := by
 intro pre hp hl x hx;have h : pre ≠ [] := by rintro rfl; cases hx
 obtain ⟨pre', y, rfl⟩ : ∃ pre' y, pre = pre' ++ [y] := ⟨pre.dropLast, pre.getLast h, (List.dropLast_concat_getLast h).symm⟩;have hy : Ya y e = true := by
  unfold Qe at hl;rw [List.getLast?_append] at hl;simpa using hl
 rcases List.mem_append.1 hx with h1 | h1
 ·have := (List.pairwise_append.1 hp).2.2 x h1 y (by simp);exact Q2 this.1 hy
 ·rw [List.mem_singleton.1 h1]; exact hy
theorem Vd : ∀ (l pre : List Ent), pre.Pairwise Ups → (Y4 pre l = true ↔ (pre ++ l).Pairwise Ups ∧ ∀ x ∈ l, Ze0 x)
 | [], pre, hp => by simp [Y4, hp]
 | e :: l, pre, hp => by
  unfold Y4;rw [Bool.and_eq_true, Zjr];constructor
  ·rintro ⟨⟨h1, h2, h3⟩, h4⟩;have hp2 : (pre ++ [e]).Pairwise Ups := List.pairwise_append.2 ⟨hp, by simp, fun x hx y hy => by
    rw [List.mem_singleton.1 hy]; exact ⟨Zif pre hp h2 x hx, h3 x hx⟩⟩
   obtain ⟨h5, h6⟩ := (Vd l (pre ++ [e]) hp2).1 h4;refine ⟨by simpa using h5, fun x hx => ?_⟩;rcases List.mem_cons.1 hx with rfl | hx
   ·exact h1
   ·exact h6 x hx
  ·rintro ⟨h1, h2⟩;have hp2 : (pre ++ [e]).Pairwise Ups := by
    have : (pre ++ [e] ++ l).Pairwise Ups := by simpa using h1
    exact (List.pairwise_append.1 this).1
   have hq := (List.pairwise_append.1 hp2).2.2;refine ⟨⟨h2 e (by simp), ?_, fun x hx => (hq x hx e (by simp)).2⟩, (Vd l (pre ++ [e]) hp2).2 ⟨by simpa using h1, fun x hx => h2 x (by simp [hx])⟩⟩;unfold Qe;cases hg : pre.getLast? with
   | none => rfl
   | some y => exact (hq y (List.mem_of_getLast? hg) e (by simp)).1
theorem Xy (l : List Ent) : Xq l = true ↔ l.Pairwise Ups ∧ ∀ x ∈ l, Ze0 x := by
 have := Vd l [] (by simp);simpa [Xq] using this
theorem Zc8 (e : Ent) : ∀ l : List Ent, l.Pairwise Ups → (∀ x ∈ l, x.pair ≠ e.pair) → (Ks e l).Pairwise Ups
 | [], _, _ => by simp [Ks]
 | x :: l, hp, hne => by
  obtain ⟨h1, h2⟩ := List.pairwise_cons.1 hp;unfold Ks;by_cases h : Ya e x = true
  ·rw [if_pos h];refine List.pairwise_cons.2 ⟨fun y hy => ?_, hp⟩;rcases List.mem_cons.1 hy with rfl | hy
   ·exact ⟨h, fun e' => hne y (by simp) e'.symm⟩
   ·exact ⟨Q2 h (h1 y hy).1, fun e' => hne y (by simp [hy]) e'.symm⟩
  ·rw [if_neg h];refine List.pairwise_cons.2 ⟨fun y hy => ?_, Zc8 e l h2 fun y hy => hne y (by simp [hy])⟩;rcases (K2 e y l).1 hy with rfl | hy
   ·exact ⟨Kr h fun e' => hne x (by simp) e'.symm, hne x (by simp)⟩
   ·exact h1 y hy
theorem Za2 (h : Xq l = true) (he : Ze0 e) (hne : ∀ x ∈ l, x.pair ≠ e.pair) : Xq (Y5 e l) = true := by
 obtain ⟨h1, h2⟩ := (Xy l).1 h;rw [Xy, Vy];refine ⟨Zc8 e l h1 hne, fun x hx => ?_⟩;rcases (K2 e x l).1 hx with rfl | hx
 ·exact he
 ·exact h2 x hx
def X5 (l : List Ent) (key : Int) : Option Ent := (l.filter fun x => decide (x.rc.key = key)).getLast?
def X0 (l : List Ent) (key ver : Int) : Option Ent := l.find? fun x => decide (x.rc.key = key ∧ x.rc.ver = ver)
def X1 (l : List Ent) (p : Int) : List Ent := l.filter fun x => decide (x.pair ≠ p)
def Kn (l : List Ent) (f : Nat) : Prop := (∀ n : Nat, n < f → ∃ x ∈ l, x.pair = (n : Int)) ∧ ∀ x ∈ l, x.pair ≠ (f : Int)
def Ju (l : List Ent) (pairs r : Int) : Prop := ∃ f : Nat, Kn l f ∧ ((f : Int) < pairs ∧ r = (f : Int) ∨ pairs ≤ (f : Int) ∧ r = -1)
theorem Zgm {f g : Nat} (h1 : Kn l f) (h2 : Kn l g) : f = g := by
 rcases Nat.lt_trichotomy f g with h | h | h
 ·obtain ⟨x, hx, hp⟩ := h2.1 f h;exact absurd hp (h1.2 x hx)
 ·exact h
 ·obtain ⟨x, hx, hp⟩ := h1.1 g h;exact absurd hp (h2.2 x hx)
theorem Zda {pairs r q : Int} (h1 : Ju l pairs r) (h2 : Ju l pairs q) : r = q := by
 obtain ⟨f, hf, h1⟩ := h1;obtain ⟨g, hg, h2⟩ := h2;have := Zgm hf hg;subst this;omega
theorem Zgt {key ver : Int} (h : ∀ x ∈ l, ¬ (x.rc.key = key ∧ x.rc.ver = ver)) : X0 l key ver = none := by
 unfold X0;rw [List.find?_eq_none];exact fun x hx => by simpa using h x hx
theorem Zah (d : Dk) (x : Ent) : ∀ n, x ∈ Y3 d n ↔ ∃ p : Nat, p < n ∧ (d.tell (p : Int)).kind ≠ 1 ∧ x = ⟨d.tell (p : Int), (p : Int)⟩
 | 0 => by simp [Y3]
 | n + 1 => by
  have ih := Zah d x n;unfold Y3;by_cases h : (d.tell (n : Int)).kind = 1
  ·rw [if_pos h, ih];constructor
   ·rintro ⟨p, h1, h2⟩; exact ⟨p, by omega, h2⟩
   ·rintro ⟨p, h1, h2, h3⟩;refine ⟨p, ?_, h2, h3⟩;rcases Nat.lt_succ_iff_lt_or_eq.1 h1 with h4 | rfl
    ·exact h4
    ·exact absurd h h2
  ·rw [if_neg h, Zc6, ih];constructor
   ·rintro (rfl | ⟨p, h1, h2⟩)
    ·exact ⟨n, by omega, h, rfl⟩
    ·exact ⟨p, by omega, h2⟩
   ·rintro ⟨p, h1, h2, h3⟩;rcases Nat.lt_succ_iff_lt_or_eq.1 h1 with h4 | rfl
    ·exact .inr ⟨p, h4, h2, h3⟩
    ·exact .inl h3
theorem Zag (d : Dk) : ∀ n, n ≤ 1000 → Xq (Y3 d n) = true
 | 0, _ => rfl
 | n + 1, hn => by
  have ih := Zag d n (by omega);unfold Y3;split
  ·exact ih
  ·rename_i h;refine Za2 ih ⟨Zdw d _, h, by show (0 : Int) ≤ (n : Int); omega, by show (n : Int) ≤ 1000; omega⟩ fun x hx => ?_;obtain ⟨p, h1, _, rfl⟩ := (Zah d x n).1 hx;show (p : Int) ≠ (n : Int);omega
end Go.Proofs.Ytpdnapbchcdhlaa
