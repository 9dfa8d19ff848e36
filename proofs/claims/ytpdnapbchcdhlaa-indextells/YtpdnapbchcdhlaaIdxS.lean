import Derived.Test.YtpdnapbchcdhlaaPairC
set_option maxHeartbeats 8000000
namespace Go.Proofs.Ytpdnapbchcdhlaa
set_option maxRecDepth 100000
open Plain
variable {i j k : Nat} {key : Int} {l ys : List Ent} {x y : Ent}
theorem Vw (a : Ent) : ¬ Ya a a = true := by simp [Ya]
theorem Zap {a b : Ent} (h : Ya a b = true) : ¬ Ya b a = true := fun h2 => Vw a (Q2 h h2)
theorem Zg6 : ∀ (a b : List Ent), a.Pairwise Ups → b.Pairwise Ups → (∀ x, x ∈ a ↔ x ∈ b) → a = b
 | [], [], _, _, _ => rfl
 | [], y :: b, _, _, h => absurd ((h y).2 (by simp)) (by simp)
 | x :: a, [], _, _, h => absurd ((h x).1 (by simp)) (by simp)
 | x :: a, y :: b, ha, hb, h => by
  obtain ⟨ha1, ha2⟩ := List.pairwise_cons.1 ha;obtain ⟨hb1, hb2⟩ := List.pairwise_cons.1 hb;have hxy : x = y := by
   rcases List.mem_cons.1 ((h x).1 (by simp)) with h1 | h1
   ·exact h1
   ·rcases List.mem_cons.1 ((h y).2 (by simp)) with h2 | h2
    ·exact h2.symm
    ·exact absurd (ha1 y h2).1 (Zap (hb1 x h1).1)
  subst hxy;rw [Zg6 a b ha2 hb2 fun z => ?_];constructor
  ·intro hz;rcases List.mem_cons.1 ((h z).1 (by simp [hz])) with rfl | h2
   ·exact absurd (ha1 z hz).1 (Vw z)
   ·exact h2
  ·intro hz;rcases List.mem_cons.1 ((h z).2 (by simp [hz])) with rfl | h2
   ·exact absurd (hb1 z hz).1 (Vw z)
   ·exact h2
def Ve (ys : List Ent) : Prop := ys.Pairwise fun a b => a.pair ≠ b.pair
theorem Ja (h : Ve ys) {a b : Nat} (hab : a < b) (hx : ys[a]? = some x) (hy : ys[b]? = some y) : x.pair ≠ y.pair := by
 obtain ⟨h1, rfl⟩ := List.getElem?_eq_some_iff.1 hx;obtain ⟨h2, rfl⟩ := List.getElem?_eq_some_iff.1 hy;exact List.pairwise_iff_getElem.1 h a b h1 h2 hab
theorem Zce {xs : List Ent} (h : Ve xs) (hp : ys.Perm xs) : Ve ys := (hp.pairwise_iff (fun h e => h e.symm)).2 h
def Ord (i : Nat) (ys : List Ent) : Prop := ∀ a b x y, a < b → b < i → ys[a]? = some x → ys[b]? = some y → Ups x y
def Zez (i j : Nat) (ys : List Ent) : Prop := (∀ a b x y, a < b → b ≤ i → a ≠ j → b ≠ j → ys[a]? = some x → ys[b]? = some y → Ups x y) ∧ ∀ m x y, j < m → m ≤ i → ys[j]? = some x → ys[m]? = some y → Ups x y
theorem Zga (h : Ord i ys) : Zez i i ys := ⟨fun a b x y h1 h2 h3 h4 hx hy => h a b x y h1 (by omega) hx hy, fun m x y h1 h2 => by omega⟩
def Jw (ys : List Ent) (j : Nat) (x y : Ent) : List Ent := (ys.set (j + 1) x).set j y
theorem Zfs (hx : ys[j]? = some x) (hy : ys[j + 1]? = some y) : (Jw ys j x y).Perm ys := by
 obtain ⟨h1, rfl⟩ := List.getElem?_eq_some_iff.1 hx;obtain ⟨h2, rfl⟩ := List.getElem?_eq_some_iff.1 hy;exact List.set_set_perm h2 h1
theorem J6 (hl : j + 1 < ys.length) (a : Nat) : (Jw ys j x y)[a]? = if a = j then some y else if a = j + 1 then some x else ys[a]? := by
 unfold Jw;by_cases h1 : a = j
 ·subst h1;rw [if_pos rfl, List.getElem?_set_self (by simp; omega)]
 ·rw [if_neg h1, List.getElem?_set_ne (by omega)];by_cases h2 : a = j + 1
  ·subst h2;rw [if_pos rfl, List.getElem?_set_self hl]
  ·rw [if_neg h2, List.getElem?_set_ne (by omega)]
theorem Zh5 (h : Zez i (j + 1) ys) (hx : ys[j]? = some x) (hy : ys[j + 1]? = some y) (hlt : Ya y x = true) (hne : x.pair ≠ y.pair) (hi : j + 1 ≤ i) : Zez i j (Jw ys j x y) := by
 have hl : j + 1 < ys.length := (List.getElem?_eq_some_iff.1 hy).1;refine ⟨fun a b u v h1 h2 h3 h4 hu hv => ?_, fun m u v h1 h2 hu hv => ?_⟩
 ·rw [J6 hl, if_neg h3] at hu;rw [J6 hl, if_neg h4] at hv;by_cases ha : a = j + 1
  ·rw [if_pos ha] at hu;rw [if_neg (by omega)] at hv;cases hu;exact h.1 j b _ v (by omega) h2 (by omega) (by omega) hx hv
  ·rw [if_neg ha] at hu;by_cases hb : b = j + 1
   ·rw [if_pos hb] at hv;cases hv;exact h.1 a j u _ (by omega) (by omega) (by omega) (by omega) hu hx
   ·rw [if_neg hb] at hv;exact h.1 a b u v h1 h2 ha hb hu hv
 ·rw [J6 hl, if_pos rfl] at hu;rw [J6 hl, if_neg (by omega)] at hv;cases hu;by_cases hm : m = j + 1
  ·rw [if_pos hm] at hv;cases hv;exact ⟨hlt, hne.symm⟩
  ·rw [if_neg hm] at hv;exact h.2 m _ v (by omega) h2 hy hv
theorem Zh6 (h : Zez i 0 ys) : Ord (i + 1) ys := fun a b x y h1 h2 hx hy => by
 by_cases ha : a = 0
 ·subst ha; exact h.2 b x y h1 (by omega) hx hy
 ·exact h.1 a b x y h1 (by omega) ha (by omega) hx hy
theorem Zjp (h : Zez i (j + 1) ys) (hn : Ve ys) (hx : ys[j]? = some x) (hy : ys[j + 1]? = some y) (hlt : ¬ Ya y x = true) (hi : j + 1 ≤ i) : Ord (i + 1) ys := fun a b u v h1 h2 hu hv => by
 have hU : Ya x y = true := Kr hlt (Ja hn (Nat.lt_succ_self j) hx hy).symm;by_cases ha : a = j + 1
 ·subst ha; exact h.2 b u v h1 (by omega) hu hv
 ·by_cases hb : b = j + 1
  ·subst hb;refine ⟨?_, Ja hn h1 hu hv⟩;rw [hy] at hv; cases hv;by_cases haj : a = j
   ·subst haj; rw [hx] at hu; cases hu; exact hU
   ·exact Q2 (h.1 a j u x (by omega) (by omega) ha (by omega) hu hx).1 hU
  ·exact h.1 a b u v h1 (by omega) ha hb hu hv
theorem Zjo (h : Ord ys.length ys) : ys.Pairwise Ups := List.pairwise_iff_getElem.2 fun a b ha hb hab => h a b _ _ hab hb (List.getElem?_eq_getElem ha) (List.getElem?_eq_getElem hb)
def Y8 (d : Dk) : Nat → List Ent
 | 0 => []
 | n + 1 => if (d.tell (n : Int)).kind = 1 then Y8 d n else Y8 d n ++ [⟨d.tell (n : Int), (n : Int)⟩]
theorem Jb (d : Dk) (x : Ent) : ∀ n, x ∈ Y8 d n ↔ ∃ p : Nat, p < n ∧ (d.tell (p : Int)).kind ≠ 1 ∧ x = ⟨d.tell (p : Int), (p : Int)⟩
 | 0 => by simp [Y8]
 | n + 1 => by
  have ih := Jb d x n;unfold Y8;by_cases h : (d.tell (n : Int)).kind = 1
  ·rw [if_pos h, ih];constructor
   ·rintro ⟨p, h1, h2⟩; exact ⟨p, by omega, h2⟩
   ·rintro ⟨p, h1, h2, h3⟩;refine ⟨p, ?_, h2, h3⟩;rcases Nat.lt_succ_iff_lt_or_eq.1 h1 with h4 | rfl
    ·exact h4
    ·exact absurd h h2
  ·rw [if_neg h, List.mem_append, ih, List.mem_singleton];constructor
   ·rintro (⟨p, h1, h2⟩ | rfl)
    ·exact ⟨p, by omega, h2⟩
    ·exact ⟨n, by omega, h, rfl⟩
   ·rintro ⟨p, h1, h2, h3⟩;rcases Nat.lt_succ_iff_lt_or_eq.1 h1 with h4 | rfl
    ·exact .inl ⟨p, h4, h2, h3⟩
    ·exact .inr h3
theorem Jc (d : Dk) : ∀ n, (Y8 d n).length ≤ n
 | 0 => by simp [Y8]
 | n + 1 => by
  have ih := Jc d n;unfold Y8;split
  ·omega
  ·simp; omega
theorem Kv (d : Dk) : ∀ n, Ve (Y8 d n)
 | 0 => by simp [Y8, Ve]
 | n + 1 => by
  have ih := Kv d n;unfold Y8;split
  ·exact ih
  ·refine List.pairwise_append.2 ⟨ih, by simp, fun x hx y hy => ?_⟩;obtain ⟨p, h1, _, rfl⟩ := (Jb d x n).1 hx;rw [List.mem_singleton.1 hy];show (p : Int) ≠ (n : Int);omega
theorem Zdv (d : Dk) (n : Nat) (hn : n ≤ 1000) (hp : ys.Perm (Y8 d n)) (ho : ys.Pairwise Ups) : ys = Y3 d n :=
 Zg6 _ _ ho ((Xy _).1 (Zag d n hn)).1 fun x => by rw [hp.mem_iff, Jb, Zah]
theorem Zeu {e : Ent} : ∀ {l : List Ent}, (∀ x ∈ l, Ya e x = true) → (l.filter fun x => Ya x e) = [] ∧ (l.filter fun x => Ya e x) = l := by
 intro l h;refine ⟨List.filter_eq_nil_iff.2 fun x hx => Zap (h x hx), List.filter_eq_self.2 h⟩
theorem K1 (e : Ent) : ∀ l : List Ent, l.Pairwise Ups → (∀ x ∈ l, x.pair ≠ e.pair) → (l.filter fun x => Ya x e) ++ [e] ++ (l.filter fun x => Ya e x) = Ks e l
 | [], _, _ => by simp [Ks]
 | x :: l, hp, hne => by
  obtain ⟨h1, h2⟩ := List.pairwise_cons.1 hp;unfold Ks;by_cases h : Ya e x = true
  ·rw [if_pos h];obtain ⟨k1, k2⟩ := Zeu (e := e) (l := x :: l) fun y hy => by
    rcases List.mem_cons.1 hy with rfl | hy
    ·exact h
    ·exact Q2 h (h1 y hy).1
   rw [k1, k2]; rfl
  ·have f1 : (x :: l).filter (fun x => Ya x e) = x :: l.filter (fun x => Ya x e) := List.filter_cons_of_pos (Kr h fun e' => hne x (by simp) e'.symm);have f2 : (x :: l).filter (fun x => Ya e x) = l.filter (fun x => Ya e x) := List.filter_cons_of_neg h;rw [if_neg h, f1, f2, ← K1 e l h2 fun y hy => hne y (by simp [hy])];rfl
theorem Zgu {ver : Int} (hk : k < l.length) (h0 : ∀ x ∈ l.take k, ¬ (x.rc.key = key ∧ x.rc.ver = ver)) (h1 : l[k].rc.key = key ∧ l[k].rc.ver = ver) : X0 l key ver = some l[k] := by
 unfold X0;have e : l = l.take k ++ l[k] :: l.drop (k + 1) := by
  rw [← List.drop_eq_getElem_cons hk, List.take_append_drop]
 have h2 : (l.take k).find? (fun x => decide (x.rc.key = key ∧ x.rc.ver = ver)) = none := List.find?_eq_none.2 fun x hx => by simpa using h0 x hx
 conv => lhs; rw [e]
 rw [List.find?_append, h2, Option.none_or, List.find?_cons_of_pos (by simpa using h1)]
theorem Zgp (hk : k < l.length) (h0 : ∀ x ∈ l.drop (k + 1), ¬ x.rc.key = key) (h1 : l[k].rc.key = key) : X5 l key = some l[k] := by
 unfold X5;have e : l = l.take k ++ l[k] :: l.drop (k + 1) := by
  rw [← List.drop_eq_getElem_cons hk, List.take_append_drop]
 have h2 : (l.drop (k + 1)).filter (fun x => decide (x.rc.key = key)) = [] := List.filter_eq_nil_iff.2 fun x hx => by simpa using h0 x hx
 conv => lhs; rw [e]
 rw [List.filter_append, List.filter_cons_of_pos (by simpa using h1), h2, List.getLast?_append];simp
theorem Zgn (h0 : ∀ x ∈ l, ¬ x.rc.key = key) : X5 l key = none := by
 unfold X5;rw [List.filter_eq_nil_iff.2 fun x hx => by simpa using h0 x hx];rfl
theorem Kj (hk : k < l.length) (h : x ∈ l.take (k + 1)) : x ∈ l.take k ∨ x = l[k] := by
 rw [List.take_succ_eq_append_getElem hk] at h;rcases List.mem_append.1 h with h | h
 ·exact .inl h
 ·exact .inr (List.mem_singleton.1 h)
theorem Za0 (hk : k < l.length) (h : x ∈ l.drop k) : x = l[k] ∨ x ∈ l.drop (k + 1) := by
 rw [List.drop_eq_getElem_cons hk] at h;exact List.mem_cons.1 h
theorem Zcu : ∀ (n : Nat) (l : List Nat), (∀ m, m < n → m ∈ l) → n ≤ l.length
 | 0, _, _ => Nat.zero_le _
 | n + 1, l, h => by
  have h1 := Zcu n (l.erase n) fun m hm => (List.mem_erase_of_ne (by omega)).2 (h m (by omega))
  have h2 := List.length_erase_of_mem (h n (by omega));have h3 := List.length_pos_of_mem (h n (by omega));omega
theorem Zid {f : Nat} (h0 : ∀ n : Nat, n < f → ∃ x ∈ l, x.pair = (n : Int)) (h1 : f = l.length ∨ ∀ x ∈ l, x.pair ≠ (f : Int)) : Kn l f := by
 refine ⟨h0, ?_⟩;rcases h1 with rfl | h1
 ·intro x hx hp;have := Zcu (l.length + 1) (l.map fun x => x.pair.toNat) fun m hm => by
   rcases Nat.lt_succ_iff_lt_or_eq.1 hm with h2 | rfl
   ·obtain ⟨y, hy, hyp⟩ := h0 m h2;exact List.mem_map.2 ⟨y, hy, by rw [hyp]; rfl⟩
   ·exact List.mem_map.2 ⟨x, hx, by rw [hp]; rfl⟩
  rw [List.length_map] at this;omega
 ·exact h1
end Go.Proofs.Ytpdnapbchcdhlaa
