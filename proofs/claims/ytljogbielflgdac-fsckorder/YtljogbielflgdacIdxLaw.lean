import Derived.Test.YtljogbielflgdacRIndex
set_option maxHeartbeats 8000000
namespace Go.Proofs.Ytljogbielflgdac
set_option maxRecDepth 100000
open Plain
def Zcx (e : Ent) : List Ent → List Ent
 | [] => [e]
 | x :: l => if Xr e x = true then e :: x :: l else x :: Zcx e l
theorem Zd8 (e : Ent) : ∀ (l pre : List Ent), l.foldl (Xc e) (pre, true) = (pre ++ l, true)
 | [], pre => by simp
 | x :: l, pre => by
  rw [List.foldl_cons, show Xc e (pre, true) x = (pre ++ [x], true) from by simp [Xc], Zd8 e l];simp
theorem Zff (e : Ent) : ∀ (l pre : List Ent), (if (l.foldl (Xc e) (pre, false)).2 = true then (l.foldl (Xc e) (pre, false)).1 else (l.foldl (Xc e) (pre, false)).1 ++ [e]) = pre ++ Zcx e l
 | [], pre => by simp [Zcx]
 | x :: l, pre => by
  rw [List.foldl_cons];by_cases h : Xr e x = true
  ·rw [show Xc e (pre, false) x = (pre ++ [e] ++ [x], true) from by simp [Xc, h], Zd8];simp [Zcx, h]
  ·rw [show Xc e (pre, false) x = (pre ++ [x], false) from by simp [Xc, h], Zff e l];simp [Zcx, h]
theorem Zcr (e : Ent) (l : List Ent) : Q7 e l = Zcx e l := by
 have := Zff e l [];unfold Q7 Qh;simpa using this
theorem Zbs (e x : Ent) : ∀ l : List Ent, x ∈ Zcx e l ↔ x = e ∨ x ∈ l
 | [] => by simp [Zcx]
 | y :: l => by
  have ih := Zbs e x l;unfold Zcx;split
  ·simp
  ·simp [ih];constructor
   ·rintro (h | h | h)
    ·exact .inr (.inl h)
    ·exact .inl h
    ·exact .inr (.inr h)
   ·rintro (h | h | h)
    ·exact .inr (.inl h)
    ·exact .inl h
    ·exact .inr (.inr h)
theorem Zhy (e x : Ent) (l : List Ent) : x ∈ Q7 e l ↔ x = e ∨ x ∈ l := by rw [Zcr]; exact Zbs e x l
theorem Jj {a b c : Ent} (h1 : Xr a b = true) (h2 : Xr b c = true) : Xr a c = true := by
 unfold Xr at h1 h2 ⊢;split at h1 <;> split at h2 <;> split <;> try split at h1 <;> try split at h2 <;> try split
 all_goals simp only [decide_eq_true_eq] at *
 all_goals first | omega | (split at h2 <;> simp only [decide_eq_true_eq] at * <;> first | omega | (split <;> simp only [decide_eq_true_eq] at * <;> omega)) | (split <;> simp only [decide_eq_true_eq] at * <;> omega)
theorem Zd3 {a b : Ent} (h : ¬ Xr a b = true) (hp : a.pair ≠ b.pair) : Xr b a = true := by
 unfold Xr at h ⊢;by_cases hk : a.rc.key = b.rc.key
 ·rw [if_pos hk] at h;rw [if_pos hk.symm];by_cases hv : a.rc.ver = b.rc.ver
  ·rw [if_pos hv] at h;rw [if_pos hv.symm];simp only [decide_eq_true_eq] at *; omega
  ·rw [if_neg hv] at h;rw [if_neg (fun e => hv e.symm)];simp only [decide_eq_true_eq] at *; omega
 ·rw [if_neg hk] at h;rw [if_neg (fun e => hk e.symm)];simp only [decide_eq_true_eq] at *; omega
def Zod (e : Ent) : Prop := Z5 e.rc = 0 ∧ e.rc.kind ≠ 1 ∧ 0 ≤ e.pair ∧ e.pair ≤ 1000
def Ups (a b : Ent) : Prop := Xr a b = true ∧ a.pair ≠ b.pair
theorem Zo2 (pre : List Ent) (e : Ent) : okE pre e = true ↔ Zod e ∧ J4 pre e = true ∧ ∀ x ∈ pre, x.pair ≠ e.pair := by
 unfold okE Zod;simp only [Bool.and_eq_true, decide_eq_true_eq, List.all_eq_true];exact ⟨fun ⟨⟨h1, h2⟩, h3⟩ => ⟨h1, h2, h3⟩, fun ⟨h1, h2, h3⟩ => ⟨⟨h1, h2⟩, h3⟩⟩
theorem Znp {e : Ent} : ∀ pre : List Ent, pre.Pairwise Ups → J4 pre e = true → ∀ x ∈ pre, Xr x e = true := by
 intro pre hp hl x hx;have h : pre ≠ [] := by rintro rfl; cases hx
 obtain ⟨pre', y, rfl⟩ : ∃ pre' y, pre = pre' ++ [y] := ⟨pre.dropLast, pre.getLast h, (List.dropLast_concat_getLast h).symm⟩;have hy : Xr y e = true := by
  unfold J4 at hl;rw [List.getLast?_append] at hl;simpa using hl
 rcases List.mem_append.1 hx with h1 | h1
 ·have := (List.pairwise_append.1 hp).2.2 x h1 y (by simp);exact Jj this.1 hy
 ·rw [List.mem_singleton.1 h1]; exact hy
theorem Kt : ∀ (l pre : List Ent), pre.Pairwise Ups → (K0 pre l = true ↔ (pre ++ l).Pairwise Ups ∧ ∀ x ∈ l, Zod x)
 | [], pre, hp => by simp [K0, hp]
 | e :: l, pre, hp => by
  unfold K0;rw [Bool.and_eq_true, Zo2];constructor
  ·rintro ⟨⟨h1, h2, h3⟩, h4⟩;have hp2 : (pre ++ [e]).Pairwise Ups := List.pairwise_append.2 ⟨hp, by simp, fun x hx y hy => by
    rw [List.mem_singleton.1 hy]; exact ⟨Znp pre hp h2 x hx, h3 x hx⟩⟩
   obtain ⟨h5, h6⟩ := (Kt l (pre ++ [e]) hp2).1 h4;refine ⟨by simpa using h5, fun x hx => ?_⟩;rcases List.mem_cons.1 hx with rfl | hx
   ·exact h1
   ·exact h6 x hx
  ·rintro ⟨h1, h2⟩;have hp2 : (pre ++ [e]).Pairwise Ups := by
    have : (pre ++ [e] ++ l).Pairwise Ups := by simpa using h1
    exact (List.pairwise_append.1 this).1
   have hq := (List.pairwise_append.1 hp2).2.2;refine ⟨⟨h2 e (by simp), ?_, fun x hx => (hq x hx e (by simp)).2⟩, (Kt l (pre ++ [e]) hp2).2 ⟨by simpa using h1, fun x hx => h2 x (by simp [hx])⟩⟩;unfold J4;cases hg : pre.getLast? with
   | none => rfl
   | some y => exact (hq y (List.mem_of_getLast? hg) e (by simp)).1
theorem Jg (l : List Ent) : Zb4 l = true ↔ l.Pairwise Ups ∧ ∀ x ∈ l, Zod x := by
 have := Kt l [] (by simp);simpa [Zb4] using this
theorem Zh0 (e : Ent) : ∀ l : List Ent, l.Pairwise Ups → (∀ x ∈ l, x.pair ≠ e.pair) → (Zcx e l).Pairwise Ups
 | [], _, _ => by simp [Zcx]
 | x :: l, hp, hne => by
  obtain ⟨h1, h2⟩ := List.pairwise_cons.1 hp;unfold Zcx;by_cases h : Xr e x = true
  ·rw [if_pos h];refine List.pairwise_cons.2 ⟨fun y hy => ?_, hp⟩;rcases List.mem_cons.1 hy with rfl | hy
   ·exact ⟨h, fun e' => hne y (by simp) e'.symm⟩
   ·exact ⟨Jj h (h1 y hy).1, fun e' => hne y (by simp [hy]) e'.symm⟩
  ·rw [if_neg h];refine List.pairwise_cons.2 ⟨fun y hy => ?_, Zh0 e l h2 fun y hy => hne y (by simp [hy])⟩;rcases (Zbs e y l).1 hy with rfl | hy
   ·exact ⟨Zd3 h fun e' => hne x (by simp) e'.symm, hne x (by simp)⟩
   ·exact h1 y hy
theorem Ze1 {e : Ent} {l : List Ent} (h : Zb4 l = true) (he : Zod e) (hne : ∀ x ∈ l, x.pair ≠ e.pair) : Zb4 (Q7 e l) = true := by
 obtain ⟨h1, h2⟩ := (Jg l).1 h;rw [Jg, Zcr];refine ⟨Zh0 e l h1 hne, fun x hx => ?_⟩;rcases (Zbs e x l).1 hx with rfl | hx
 ·exact he
 ·exact h2 x hx
theorem Zbl (d : Dk) (x : Ent) : ∀ n, x ∈ Yz d n ↔ ∃ p : Nat, p < n ∧ (d.tell (p : Int)).kind ≠ 1 ∧ x = ⟨d.tell (p : Int), (p : Int)⟩
 | 0 => by simp [Yz]
 | n + 1 => by
  have ih := Zbl d x n;unfold Yz;by_cases h : (d.tell (n : Int)).kind = 1
  ·rw [if_pos h, ih];constructor
   ·rintro ⟨p, h1, h2⟩; exact ⟨p, by omega, h2⟩
   ·rintro ⟨p, h1, h2, h3⟩;refine ⟨p, ?_, h2, h3⟩;rcases Nat.lt_succ_iff_lt_or_eq.1 h1 with h4 | rfl
    ·exact h4
    ·exact absurd h h2
  ·rw [if_neg h, Zhy, ih];constructor
   ·rintro (rfl | ⟨p, h1, h2⟩)
    ·exact ⟨n, by omega, h, rfl⟩
    ·exact ⟨p, by omega, h2⟩
   ·rintro ⟨p, h1, h2, h3⟩;rcases Nat.lt_succ_iff_lt_or_eq.1 h1 with h4 | rfl
    ·exact .inr ⟨p, h4, h2, h3⟩
    ·exact .inl h3
theorem Zdp (d : Dk) : ∀ n, n ≤ 1000 → Zb4 (Yz d n) = true
 | 0, _ => rfl
 | n + 1, hn => by
  have ih := Zdp d n (by omega);unfold Yz;split
  ·exact ih
  ·rename_i h;refine Ze1 ih ⟨Qv d _, h, by show (0 : Int) ≤ (n : Int); omega, by show (n : Int) ≤ 1000; omega⟩ fun x hx => ?_;obtain ⟨p, h1, _, rfl⟩ := (Zbl d x n).1 hx;show (p : Int) ≠ (n : Int);omega
end Go.Proofs.Ytljogbielflgdac
