import Derived.Test.YtljogbielflgdacIdxO
set_option maxHeartbeats 8000000
namespace Go.Proofs.Ytljogbielflgdac
set_option maxRecDepth 100000
open Go.RowKit
open Plain Reg
abbrev NoS : Nat → Prop := fun _ => False
end Go.Proofs.Ytljogbielflgdac
namespace Go.Proofs.Ytljogbielflgdac
set_option maxRecDepth 100000
open Plain
theorem J2 (a : Ent) : ¬ Xr a a = true := by simp [Xr]
theorem Zjr {a b : Ent} (h : Xr a b = true) : ¬ Xr b a = true := fun h2 => J2 a (Jj h h2)
theorem Zmj : ∀ (a b : List Ent), a.Pairwise Ups → b.Pairwise Ups → (∀ x, x ∈ a ↔ x ∈ b) → a = b
 | [], [], _, _, _ => rfl
 | [], y :: b, _, _, h => absurd ((h y).2 (by simp)) (by simp)
 | x :: a, [], _, _, h => absurd ((h x).1 (by simp)) (by simp)
 | x :: a, y :: b, ha, hb, h => by
  obtain ⟨ha1, ha2⟩ := List.pairwise_cons.1 ha;obtain ⟨hb1, hb2⟩ := List.pairwise_cons.1 hb;have hxy : x = y := by
   rcases List.mem_cons.1 ((h x).1 (by simp)) with h1 | h1
   ·exact h1
   ·rcases List.mem_cons.1 ((h y).2 (by simp)) with h2 | h2
    ·exact h2.symm
    ·exact absurd (ha1 y h2).1 (Zjr (hb1 x h1).1)
  subst hxy;rw [Zmj a b ha2 hb2 fun z => ?_];constructor
  ·intro hz;rcases List.mem_cons.1 ((h z).1 (by simp [hz])) with rfl | h2
   ·exact absurd (ha1 z hz).1 (J2 z)
   ·exact h2
  ·intro hz;rcases List.mem_cons.1 ((h z).2 (by simp [hz])) with rfl | h2
   ·exact absurd (hb1 z hz).1 (J2 z)
   ·exact h2
def Kv (ys : List Ent) : Prop := ys.Pairwise fun a b => a.pair ≠ b.pair
theorem Zbz {ys : List Ent} (h : Kv ys) {a b : Nat} {x y : Ent} (hab : a < b) (hx : ys[a]? = some x) (hy : ys[b]? = some y) : x.pair ≠ y.pair := by
 obtain ⟨h1, rfl⟩ := List.getElem?_eq_some_iff.1 hx;obtain ⟨h2, rfl⟩ := List.getElem?_eq_some_iff.1 hy;exact List.pairwise_iff_getElem.1 h a b h1 h2 hab
theorem Zgv {xs ys : List Ent} (h : Kv xs) (hp : ys.Perm xs) : Kv ys := (hp.pairwise_iff (fun h e => h e.symm)).2 h
def Ord (i : Nat) (ys : List Ent) : Prop := ∀ a b x y, a < b → b < i → ys[a]? = some x → ys[b]? = some y → Ups x y
def Zkc (i j : Nat) (ys : List Ent) : Prop := (∀ a b x y, a < b → b ≤ i → a ≠ j → b ≠ j → ys[a]? = some x → ys[b]? = some y → Ups x y) ∧ ∀ m x y, j < m → m ≤ i → ys[j]? = some x → ys[m]? = some y → Ups x y
theorem Zlm {i : Nat} {ys : List Ent} (h : Ord i ys) : Zkc i i ys := ⟨fun a b x y h1 h2 h3 h4 hx hy => h a b x y h1 (by omega) hx hy, fun m x y h1 h2 => by omega⟩
def Zcn (ys : List Ent) (j : Nat) (x y : Ent) : List Ent := (ys.set (j + 1) x).set j y
theorem Zk9 {ys : List Ent} {j : Nat} {x y : Ent} (hx : ys[j]? = some x) (hy : ys[j + 1]? = some y) : (Zcn ys j x y).Perm ys := by
 obtain ⟨h1, rfl⟩ := List.getElem?_eq_some_iff.1 hx;obtain ⟨h2, rfl⟩ := List.getElem?_eq_some_iff.1 hy;exact List.set_set_perm h2 h1
theorem Zcz {ys : List Ent} {j : Nat} {x y : Ent} (hl : j + 1 < ys.length) (a : Nat) : (Zcn ys j x y)[a]? = if a = j then some y else if a = j + 1 then some x else ys[a]? := by
 unfold Zcn;by_cases h1 : a = j
 ·subst h1;rw [if_pos rfl, List.getElem?_set_self (by simp; omega)]
 ·rw [if_neg h1, List.getElem?_set_ne (by omega)];by_cases h2 : a = j + 1
  ·subst h2;rw [if_pos rfl, List.getElem?_set_self hl]
  ·rw [if_neg h2, List.getElem?_set_ne (by omega)]
theorem Znf {i j : Nat} {ys : List Ent} {x y : Ent} (h : Zkc i (j + 1) ys) (hx : ys[j]? = some x) (hy : ys[j + 1]? = some y) (hlt : Xr y x = true) (hne : x.pair ≠ y.pair) (hi : j + 1 ≤ i) : Zkc i j (Zcn ys j x y) := by
 have hl : j + 1 < ys.length := (List.getElem?_eq_some_iff.1 hy).1;refine ⟨fun a b u v h1 h2 h3 h4 hu hv => ?_, fun m u v h1 h2 hu hv => ?_⟩
 ·rw [Zcz hl, if_neg h3] at hu;rw [Zcz hl, if_neg h4] at hv;by_cases ha : a = j + 1
  ·rw [if_pos ha] at hu;rw [if_neg (by omega)] at hv;cases hu;exact h.1 j b _ v (by omega) h2 (by omega) (by omega) hx hv
  ·rw [if_neg ha] at hu;by_cases hb : b = j + 1
   ·rw [if_pos hb] at hv;cases hv;exact h.1 a j u _ (by omega) (by omega) (by omega) (by omega) hu hx
   ·rw [if_neg hb] at hv;exact h.1 a b u v h1 h2 ha hb hu hv
 ·rw [Zcz hl, if_pos rfl] at hu;rw [Zcz hl, if_neg (by omega)] at hv;cases hu;by_cases hm : m = j + 1
  ·rw [if_pos hm] at hv;cases hv;exact ⟨hlt, hne.symm⟩
  ·rw [if_neg hm] at hv;exact h.2 m _ v (by omega) h2 hy hv
theorem Zng {i : Nat} {ys : List Ent} (h : Zkc i 0 ys) : Ord (i + 1) ys := fun a b x y h1 h2 hx hy => by
 by_cases ha : a = 0
 ·subst ha; exact h.2 b x y h1 (by omega) hx hy
 ·exact h.1 a b x y h1 (by omega) ha (by omega) hx hy
theorem Zo0 {i j : Nat} {ys : List Ent} {x y : Ent} (h : Zkc i (j + 1) ys) (hn : Kv ys) (hx : ys[j]? = some x) (hy : ys[j + 1]? = some y) (hlt : ¬ Xr y x = true) (hi : j + 1 ≤ i) : Ord (i + 1) ys := fun a b u v h1 h2 hu hv => by
 have hU : Xr x y = true := Zd3 hlt (Zbz hn (Nat.lt_succ_self j) hx hy).symm;by_cases ha : a = j + 1
 ·subst ha; exact h.2 b u v h1 (by omega) hu hv
 ·by_cases hb : b = j + 1
  ·subst hb;refine ⟨?_, Zbz hn h1 hu hv⟩;rw [hy] at hv; cases hv;by_cases haj : a = j
   ·subst haj; rw [hx] at hu; cases hu; exact hU
   ·exact Jj (h.1 a j u x (by omega) (by omega) ha (by omega) hu hx).1 hU
  ·exact h.1 a b u v h1 (by omega) ha hb hu hv
theorem Zoz {ys : List Ent} (h : Ord ys.length ys) : ys.Pairwise Ups := List.pairwise_iff_getElem.2 fun a b ha hb hab => h a b _ _ hab hb (List.getElem?_eq_getElem ha) (List.getElem?_eq_getElem hb)
def X4 (d : Dk) : Nat → List Ent
 | 0 => []
 | n + 1 => if (d.tell (n : Int)).kind = 1 then X4 d n else X4 d n ++ [⟨d.tell (n : Int), (n : Int)⟩]
theorem Zb0 (d : Dk) (x : Ent) : ∀ n, x ∈ X4 d n ↔ ∃ p : Nat, p < n ∧ (d.tell (p : Int)).kind ≠ 1 ∧ x = ⟨d.tell (p : Int), (p : Int)⟩
 | 0 => by simp [X4]
 | n + 1 => by
  have ih := Zb0 d x n;unfold X4;by_cases h : (d.tell (n : Int)).kind = 1
  ·rw [if_pos h, ih];constructor
   ·rintro ⟨p, h1, h2⟩; exact ⟨p, by omega, h2⟩
   ·rintro ⟨p, h1, h2, h3⟩;refine ⟨p, ?_, h2, h3⟩;rcases Nat.lt_succ_iff_lt_or_eq.1 h1 with h4 | rfl
    ·exact h4
    ·exact absurd h h2
  ·rw [if_neg h, List.mem_append, ih, List.mem_singleton];constructor
   ·rintro (⟨p, h1, h2⟩ | rfl)
    ·exact ⟨p, by omega, h2⟩
    ·exact ⟨n, by omega, h, rfl⟩
   ·rintro ⟨p, h1, h2, h3⟩;rcases Nat.lt_succ_iff_lt_or_eq.1 h1 with h4 | rfl
    ·exact .inl ⟨p, h4, h2, h3⟩
    ·exact .inr h3
theorem Zb1 (d : Dk) : ∀ n, (X4 d n).length ≤ n
 | 0 => by simp [X4]
 | n + 1 => by
  have ih := Zb1 d n;unfold X4;split
  ·omega
  ·simp; omega
theorem Zbk (d : Dk) : ∀ n, Kv (X4 d n)
 | 0 => by simp [X4, Kv]
 | n + 1 => by
  have ih := Zbk d n;unfold X4;split
  ·exact ih
  ·refine List.pairwise_append.2 ⟨ih, by simp, fun x hx y hy => ?_⟩;obtain ⟨p, h1, _, rfl⟩ := (Zb0 d x n).1 hx;rw [List.mem_singleton.1 hy];show (p : Int) ≠ (n : Int);omega
theorem Zis (d : Dk) (n : Nat) (hn : n ≤ 1000) {ys : List Ent} (hp : ys.Perm (X4 d n)) (ho : ys.Pairwise Ups) : ys = Yz d n :=
 Zmj _ _ ho ((Jg _).1 (Zdp d n hn)).1 fun x => by rw [hp.mem_iff, Zb0, Zbl]
end Go.Proofs.Ytljogbielflgdac
