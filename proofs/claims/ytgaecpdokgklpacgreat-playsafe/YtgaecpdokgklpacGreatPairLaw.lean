import Derived.Test.YtgaecpdokgklpacGreatRMend
set_option maxHeartbeats 8000000
namespace Go.Proofs.YtgaecpdokgklpacGreat
set_option maxRecDepth 100000
open Plain
theorem Q4 : Ya Rec.free = 0 := by decide
theorem Zcu (d : Dk) (a : Int) : Ya (Z6 d a) = 0 := by
 unfold Z6;split
 ·next h => exact (Zg2 _ _ h).1
 ·exact Q4
theorem Xu (d : Dk) (p : Int) : Ya (d.tell p) = 0 := by
 unfold Dk.tell;split
 ·exact Q4
 ·split
  ·exact Q4
  ·unfold K3; split
   ·exact Zcu _ _
   ·exact Zcu _ _
theorem Zfn {d : Dk} {a : Int} {r : Rec} (h : d.get a = some (blk r a)) (hr : Ya r = 0) (h0 : 0 ≤ a) (h1 : a ≤ 255) : Z6 d a = r ∧ Y7 d a = 0 := by
 have hb : Yq d a = blk r a := by unfold Yq; rw [h]; rfl
 obtain ⟨he, hR⟩ := Zkc r a hr h0 h1;unfold Y7 Z6 Qb;rw [hb, if_pos he, if_pos he]; exact ⟨hR, rfl⟩
theorem Zfo {d : Dk} {a : Int} (h : Qb d a ≠ 0) : Z6 d a = Rec.free ∧ Y7 d a = 1 := by
 unfold Y7 Z6;rw [if_neg h, if_neg h]; exact ⟨rfl, rfl⟩
theorem Qd {d : Dk} {a : Int} (h : (Z6 d a).kind = 1) : Yt d a = 0 := by unfold Yt; rw [if_pos h]
theorem Kg {d : Dk} {a : Int} (h : (Z6 d a).kind ≠ 1) : Yt d a = 1 := by unfold Yt; rw [if_neg h]
theorem Vr {d : Dk} {p : Int} {r : Rec} (hn : d.noPair p = false) (h0 : Z6 d (2 * p) = r) (h1 : Z6 d (2 * p + 1) = r) (hr : r.kind ≠ 1) : d.how p = 1 ∧ d.tell p = r := by
 have s0 : Yt d (2 * p) = 1 := Kg (by rw [h0]; exact hr);have s1 : Yt d (2 * p + 1) = 1 := Kg (by rw [h1]; exact hr);have hs : Q8 r r = true := by rw [Zaf]
 unfold Dk.how Dk.tell K3;rw [hn, s0, s1, h0, h1, if_neg hr];simp [hs]
theorem Zgm {d : Dk} {p : Int} (hn : d.noPair p = false) (h0 : (Z6 d (2 * p)).kind = 1) (h1 : (Z6 d (2 * p + 1)).kind = 1) (b0 : Y7 d (2 * p) = 0) (b1 : Y7 d (2 * p + 1) = 0) : d.how p = 0 ∧ d.tell p = Rec.free := by
 have s0 := Qd h0;have s1 := Qd h1;unfold Dk.how Dk.tell;rw [hn, s0, s1, b0, b1];simp
theorem Vy {d : Dk} {p : Int} {r : Rec} (hn : d.noPair p = false) (hr : r.kind ≠ 1) (h : Z6 d (2 * p) = r ∧ (Z6 d (2 * p + 1)).kind = 1 ∨ Z6 d (2 * p + 1) = r ∧ (Z6 d (2 * p)).kind = 1) : d.how p = 2 ∧ d.tell p = r := by
 rcases h with ⟨h0, h1⟩ | ⟨h0, h1⟩
 ·have s0 : Yt d (2 * p) = 1 := Kg (by rw [h0]; exact hr);have s1 := Qd h1;unfold Dk.how Dk.tell K3;rw [hn, s0, s1, h0, if_neg hr];simp
 ·have s1 : Yt d (2 * p + 1) = 1 := Kg (by rw [h0]; exact hr);have s0 := Qd h1;unfold Dk.how Dk.tell K3;rw [hn, s0, s1, h0, if_pos h1];simp
theorem Zhz {d : Dk} {p : Int} {r : Rec} (h0 : 0 ≤ p) (h1 : 2 * p + 1 < (d.blocks.length : Int)) : (d.pairW p r).get (2 * p) = some (blk r (2 * p)) ∧ (d.pairW p r).get (2 * p + 1) = some (blk r (2 * p + 1)) := by
 have e : d.pairW p r = (d.put (2 * p) (blk r (2 * p))).put (2 * p + 1) (blk r (2 * p + 1)) := by simp [Dk.pairW, Dk.put]
 rw [e];refine ⟨?_, Dk.put_get _ _ _ (by omega) h1⟩;rw [Dk.put_other _ _ _ _ (by omega)];exact Dk.put_get _ _ _ (by omega) (by omega)
theorem Zea {d : Dk} {p : Int} (h0 : 0 ≤ p) (h1 : 2 * p + 1 < (d.blocks.length : Int)) : d.noPair p = false := by
 unfold Dk.noPair; exact decide_eq_false (by omega)
theorem Zdd {d : Dk} {p : Int} {r : Rec} (h0 : 0 ≤ p) (h1 : 2 * p + 1 < (d.blocks.length : Int)) : d.pairE p r = Ya r := by
 unfold Dk.pairE; rw [if_neg (by omega)]
theorem Znb (d : Dk) (p : Int) (h0 : 0 ≤ p) (h1 : 2 * p + 1 < (d.blocks.length : Int)) (hlen : d.blocks.length ≤ 256) :
  (d.mendD p).how p = (if (d.tell p).kind = 1 then 0 else 1) ∧ (d.mendD p).tell p = d.tell p ∧ (d.mendD p).mendD p = d.mendD p := by
 have key : (d.mendD p).how p = (if (d.tell p).kind = 1 then 0 else 1) ∧ (d.mendD p).tell p = d.tell p := by
  have hn := Zea h0 h1;by_cases h2 : 2 ≤ d.how p
  ·have hd : d.mendD p = d.pairW p (d.tell p) := by
    unfold Dk.mendD Dk.pairD;rw [if_pos h2, Zdd h0 h1, Xu, if_pos rfl]
   rw [hd];obtain ⟨g0, g1⟩ := Zhz (d := d) (r := d.tell p) h0 h1;obtain ⟨r0, b0⟩ := Zfn g0 (Xu d p) (by omega) (by omega);obtain ⟨r1, b1⟩ := Zfn g1 (Xu d p) (by omega) (by omega);have hn' : (d.pairW p (d.tell p)).noPair p = false := Zea h0 h1;by_cases hk : (d.tell p).kind = 1
   ·have hf : d.tell p = Rec.free := by
     by_cases hs : Yt d (2 * p) + Yt d (2 * p + 1) = 0
     ·unfold Dk.tell; rw [hn, if_neg (by decide), if_pos hs]
     ·exfalso;have ht : d.tell p = K3 d p := by unfold Dk.tell; rw [hn, if_neg (by decide), if_neg hs]
      rw [ht] at hk;unfold K3 at hk;by_cases hk0 : (Z6 d (2 * p)).kind = 1
      ·rw [if_pos hk0] at hk;rw [Qd hk0, Qd hk] at hs; exact hs rfl
      ·rw [if_neg hk0] at hk; exact hk0 hk
    rw [if_pos hk];obtain ⟨a, b⟩ := Zgm hn' (by rw [r0]; exact hk) (by rw [r1]; exact hk) b0 b1;exact ⟨a, by rw [b, hf]⟩
   ·rw [if_neg hk];exact Vr hn' r0 r1 hk
  ·have hd : d.mendD p = d := by unfold Dk.mendD; rw [if_neg h2]
   rw [hd];refine ⟨?_, rfl⟩;unfold Dk.how at h2 ⊢;unfold Dk.tell;rw [hn] at h2 ⊢;simp only [Bool.false_eq_true, if_false] at h2 ⊢;have e0 := Zbo d (2 * p);have e1 := Zbo d (2 * p + 1);by_cases hs : Yt d (2 * p) + Yt d (2 * p + 1) = 2
   ·rw [if_pos hs] at h2 ⊢;have hk : (Z6 d (2 * p)).kind ≠ 1 := fun h => by have := Qd h; omega
    have hz : ¬ (Yt d (2 * p) + Yt d (2 * p + 1) = 0) := by omega
    rw [if_neg hz];by_cases hsm : Q8 (Z6 d (2 * p)) (Z6 d (2 * p + 1)) = true
    ·unfold K3; rw [if_pos hsm, if_neg hk, if_neg hk]
    ·rw [if_neg hsm] at h2; omega
   ·rw [if_neg hs] at h2 ⊢;by_cases hs1 : Yt d (2 * p) + Yt d (2 * p + 1) = 1
    ·rw [if_pos hs1] at h2; omega
    ·rw [if_neg hs1] at h2 ⊢;have hz : Yt d (2 * p) + Yt d (2 * p + 1) = 0 := by omega
     rw [if_pos hz, if_pos (show Rec.free.kind = 1 from rfl)];by_cases hb0 : Y7 d (2 * p) + Y7 d (2 * p + 1) = 0
     ·rw [if_pos hb0]
     ·rw [if_neg hb0] at h2; split at h2 <;> omega
 refine ⟨key.1, key.2, ?_⟩;show (if 2 ≤ (d.mendD p).how p then _ else _) = _;rw [if_neg (by rw [key.1]; split <;> omega)]
theorem Zje (r : Rec) (a : Int) (h : Ya r = 0) : (blk r a).length = 16 := Qn r a (Vp h).2.2.2.2.2.2
theorem Zjv {d : Dk} {a : Int} {r : Rec} {n y : Int} (h : d.get a = some (X3 (blk r a) n y)) (hr : Ya r = 0) (hn0 : 0 ≤ n) (hn1 : n < ((blk r a).length : Int)) (hy : y % 256 ≠ 0) : Z6 d a = Rec.free ∧ Y7 d a = 1 := by
 refine Zfo ?_;unfold Qb;have hb : Yq d a = X3 (blk r a) n y := by unfold Yq; rw [h]; rfl
 rw [hb];unfold X3;rw [if_pos ⟨hn0, hn1⟩, Qk _ _ _ (by omega)];rw [Zkb r a n.toNat _ hr (by omega) ?_]
 ·decide
 ·intro hE;have h1 : lo y = 0 := by
   have h2 : (blk r a)[n.toNat] ^^^ ((blk r a)[n.toNat] ^^^ lo y) = (blk r a)[n.toNat] ^^^ (blk r a)[n.toNat] := by rw [← hE]
   rw [← UInt8.xor_assoc, UInt8.xor_self, UInt8.zero_xor] at h2;exact h2
  have h3 := Kl y;rw [h1] at h3;exact hy h3.symm
theorem Zvu (a : Int) (h0 : 0 ≤ a) (h1 : a < 12) : (Dk.new.blocks).getD a.toNat [] = blk Rec.free a := by
 unfold Dk.new;rw [Qk _ _ _ (by simp; omega), List.getElem_map, List.getElem_range, show ((a.toNat : Nat) : Int) = a from by omega]; rfl
def Zbu (e : Ent) : List Ent → List Ent
 | [] => [e]
 | x :: l => if Y4 e x = true then e :: x :: l else x :: Zbu e l
theorem Zgl (e : Ent) : ∀ (l pre : List Ent), l.foldl (X1 e) (pre, true) = (pre ++ l, true)
 | [], pre => by simp
 | x :: l, pre => by
  rw [List.foldl_cons, show X1 e (pre, true) x = (pre ++ [x], true) from by simp [X1], Zgl e l];simp
theorem Zh4 (e : Ent) : ∀ (l pre : List Ent), (if (l.foldl (X1 e) (pre, false)).2 = true then (l.foldl (X1 e) (pre, false)).1 else (l.foldl (X1 e) (pre, false)).1 ++ [e]) = pre ++ Zbu e l
 | [], pre => by simp [Zbu]
 | x :: l, pre => by
  rw [List.foldl_cons];by_cases h : Y4 e x = true
  ·rw [show X1 e (pre, false) x = (pre ++ [e] ++ [x], true) from by simp [X1, h], Zgl];simp [Zbu, h]
  ·rw [show X1 e (pre, false) x = (pre ++ [x], false) from by simp [X1, h], Zh4 e l];simp [Zbu, h]
theorem J0 (e : Ent) (l : List Ent) : Xx e l = Zbu e l := by
 have := Zh4 e l [];unfold Xx Q9;simpa using this
theorem Zdi (e x : Ent) : ∀ l : List Ent, x ∈ Zbu e l ↔ x = e ∨ x ∈ l
 | [] => by simp [Zbu]
 | y :: l => by
  have ih := Zdi e x l;unfold Zbu;split
  ·simp
  ·simp [ih];constructor
   ·rintro (h | h | h)
    ·exact .inr (.inl h)
    ·exact .inl h
    ·exact .inr (.inr h)
   ·rintro (h | h | h)
    ·exact .inr (.inl h)
    ·exact .inl h
    ·exact .inr (.inr h)
theorem V6 (e x : Ent) (l : List Ent) : x ∈ Xx e l ↔ x = e ∨ x ∈ l := by rw [J0]; exact Zdi e x l
theorem Ji {a b c : Ent} (h1 : Y4 a b = true) (h2 : Y4 b c = true) : Y4 a c = true := by
 unfold Y4 at h1 h2 ⊢;split at h1 <;> split at h2 <;> split <;> try split at h1 <;> try split at h2 <;> try split
 all_goals simp only [decide_eq_true_eq] at *
 all_goals first | omega | (split at h2 <;> simp only [decide_eq_true_eq] at * <;> first | omega | (split <;> simp only [decide_eq_true_eq] at * <;> omega)) | (split <;> simp only [decide_eq_true_eq] at * <;> omega)
theorem Zcy {a b : Ent} (h : ¬ Y4 a b = true) (hp : a.pair ≠ b.pair) : Y4 b a = true := by
 unfold Y4 at h ⊢;by_cases hk : a.rc.key = b.rc.key
 ·rw [if_pos hk] at h;rw [if_pos hk.symm];by_cases hv : a.rc.ver = b.rc.ver
  ·rw [if_pos hv] at h;rw [if_pos hv.symm];simp only [decide_eq_true_eq] at *; omega
  ·rw [if_neg hv] at h;rw [if_neg (fun e => hv e.symm)];simp only [decide_eq_true_eq] at *; omega
 ·rw [if_neg hk] at h;rw [if_neg (fun e => hk e.symm)];simp only [decide_eq_true_eq] at *; omega
def Good (e : Ent) : Prop := Ya e.rc = 0 ∧ e.rc.kind ≠ 1 ∧ 0 ≤ e.pair ∧ e.pair ≤ 1000
def Ups (a b : Ent) : Prop := Y4 a b = true ∧ a.pair ≠ b.pair
theorem Zvr (pre : List Ent) (e : Ent) : okE pre e = true ↔ Good e ∧ Zbs pre e = true ∧ ∀ x ∈ pre, x.pair ≠ e.pair := by
 unfold okE Good;simp only [Bool.and_eq_true, decide_eq_true_eq, List.all_eq_true];exact ⟨fun ⟨⟨h1, h2⟩, h3⟩ => ⟨h1, h2, h3⟩, fun ⟨h1, h2, h3⟩ => ⟨⟨h1, h2⟩, h3⟩⟩
theorem Ztn {e : Ent} : ∀ pre : List Ent, pre.Pairwise Ups → Zbs pre e = true → ∀ x ∈ pre, Y4 x e = true := by
 intro pre hp hl x hx;have h : pre ≠ [] := by rintro rfl; cases hx
 obtain ⟨pre', y, rfl⟩ : ∃ pre' y, pre = pre' ++ [y] := ⟨pre.dropLast, pre.getLast h, (List.dropLast_concat_getLast h).symm⟩;have hy : Y4 y e = true := by
  unfold Zbs at hl;rw [List.getLast?_append] at hl;simpa using hl
 rcases List.mem_append.1 hx with h1 | h1
 ·have := (List.pairwise_append.1 hp).2.2 x h1 y (by simp);exact Ji this.1 hy
 ·rw [List.mem_singleton.1 h1]; exact hy
theorem J8 : ∀ (l pre : List Ent), pre.Pairwise Ups → (Zah pre l = true ↔ (pre ++ l).Pairwise Ups ∧ ∀ x ∈ l, Good x)
 | [], pre, hp => by simp [Zah, hp]
 | e :: l, pre, hp => by
  unfold Zah;rw [Bool.and_eq_true, Zvr];constructor
  ·rintro ⟨⟨h1, h2, h3⟩, h4⟩;have hp2 : (pre ++ [e]).Pairwise Ups := List.pairwise_append.2 ⟨hp, by simp, fun x hx y hy => by
    rw [List.mem_singleton.1 hy]; exact ⟨Ztn pre hp h2 x hx, h3 x hx⟩⟩
   obtain ⟨h5, h6⟩ := (J8 l (pre ++ [e]) hp2).1 h4;refine ⟨by simpa using h5, fun x hx => ?_⟩;rcases List.mem_cons.1 hx with rfl | hx
   ·exact h1
   ·exact h6 x hx
  ·rintro ⟨h1, h2⟩;have hp2 : (pre ++ [e]).Pairwise Ups := by
    have : (pre ++ [e] ++ l).Pairwise Ups := by simpa using h1
    exact (List.pairwise_append.1 this).1
   have hq := (List.pairwise_append.1 hp2).2.2;refine ⟨⟨h2 e (by simp), ?_, fun x hx => (hq x hx e (by simp)).2⟩, (J8 l (pre ++ [e]) hp2).2 ⟨by simpa using h1, fun x hx => h2 x (by simp [hx])⟩⟩;unfold Zbs;cases hg : pre.getLast? with
   | none => rfl
   | some y => exact (hq y (List.mem_of_getLast? hg) e (by simp)).1
theorem Xq (l : List Ent) : Qz l = true ↔ l.Pairwise Ups ∧ ∀ x ∈ l, Good x := by
 have := J8 l [] (by simp);simpa [Qz] using this
theorem Zk0 (e : Ent) : ∀ l : List Ent, l.Pairwise Ups → (∀ x ∈ l, x.pair ≠ e.pair) → (Zbu e l).Pairwise Ups
 | [], _, _ => by simp [Zbu]
 | x :: l, hp, hne => by
  obtain ⟨h1, h2⟩ := List.pairwise_cons.1 hp;unfold Zbu;by_cases h : Y4 e x = true
  ·rw [if_pos h];refine List.pairwise_cons.2 ⟨fun y hy => ?_, hp⟩;rcases List.mem_cons.1 hy with rfl | hy
   ·exact ⟨h, fun e' => hne y (by simp) e'.symm⟩
   ·exact ⟨Ji h (h1 y hy).1, fun e' => hne y (by simp [hy]) e'.symm⟩
  ·rw [if_neg h];refine List.pairwise_cons.2 ⟨fun y hy => ?_, Zk0 e l h2 fun y hy => hne y (by simp [hy])⟩;rcases (Zdi e y l).1 hy with rfl | hy
   ·exact ⟨Zcy h fun e' => hne x (by simp) e'.symm, hne x (by simp)⟩
   ·exact h1 y hy
theorem J9 {e : Ent} {l : List Ent} (h : Qz l = true) (he : Good e) (hne : ∀ x ∈ l, x.pair ≠ e.pair) : Qz (Xx e l) = true := by
 obtain ⟨h1, h2⟩ := (Xq l).1 h;rw [Xq, J0];refine ⟨Zk0 e l h1 hne, fun x hx => ?_⟩;rcases (Zdi e x l).1 hx with rfl | hx
 ·exact he
 ·exact h2 x hx
def Zbd (l : List Ent) (key ver : Int) : Option Ent := l.find? fun x => decide (x.rc.key = key ∧ x.rc.ver = ver)
def Q3 (l : List Ent) (p : Int) : List Ent := l.filter fun x => decide (x.pair ≠ p)
def Jq (l : List Ent) (f : Nat) : Prop := (∀ n : Nat, n < f → ∃ x ∈ l, x.pair = (n : Int)) ∧ ∀ x ∈ l, x.pair ≠ (f : Int)
def Zn9 (l : List Ent) (pairs r : Int) : Prop := ∃ f : Nat, Jq l f ∧ ((f : Int) < pairs ∧ r = (f : Int) ∨ pairs ≤ (f : Int) ∧ r = -1)
theorem Zqm {l : List Ent} {f g : Nat} (h1 : Jq l f) (h2 : Jq l g) : f = g := by
 rcases Nat.lt_trichotomy f g with h | h | h
 ·obtain ⟨x, hx, hp⟩ := h2.1 f h;exact absurd hp (h1.2 x hx)
 ·exact h
 ·obtain ⟨x, hx, hp⟩ := h1.1 g h;exact absurd hp (h2.2 x hx)
theorem Zqu {l : List Ent} {key ver : Int} (h : ∀ x ∈ l, ¬ (x.rc.key = key ∧ x.rc.ver = ver)) : Zbd l key ver = none := by
 unfold Zbd;rw [List.find?_eq_none];exact fun x hx => by simpa using h x hx
theorem Vo (d : Dk) (x : Ent) : ∀ n, x ∈ Z4 d n ↔ ∃ p : Nat, p < n ∧ (d.tell (p : Int)).kind ≠ 1 ∧ x = ⟨d.tell (p : Int), (p : Int)⟩
 | 0 => by simp [Z4]
 | n + 1 => by
  have ih := Vo d x n;unfold Z4;by_cases h : (d.tell (n : Int)).kind = 1
  ·rw [if_pos h, ih];constructor
   ·rintro ⟨p, h1, h2⟩; exact ⟨p, by omega, h2⟩
   ·rintro ⟨p, h1, h2, h3⟩;refine ⟨p, ?_, h2, h3⟩;rcases Nat.lt_succ_iff_lt_or_eq.1 h1 with h4 | rfl
    ·exact h4
    ·exact absurd h h2
  ·rw [if_neg h, V6, ih];constructor
   ·rintro (rfl | ⟨p, h1, h2⟩)
    ·exact ⟨n, by omega, h, rfl⟩
    ·exact ⟨p, by omega, h2⟩
   ·rintro ⟨p, h1, h2, h3⟩;rcases Nat.lt_succ_iff_lt_or_eq.1 h1 with h4 | rfl
    ·exact .inr ⟨p, h4, h2, h3⟩
    ·exact .inl h3
theorem V2 (d : Dk) : ∀ n, n ≤ 1000 → Qz (Z4 d n) = true
 | 0, _ => rfl
 | n + 1, hn => by
  have ih := V2 d n (by omega);unfold Z4;split
  ·exact ih
  ·rename_i h;refine J9 ih ⟨Xu d _, h, by show (0 : Int) ≤ (n : Int); omega, by show (n : Int) ≤ 1000; omega⟩ fun x hx => ?_;obtain ⟨p, h1, _, rfl⟩ := (Vo d x n).1 hx;show (p : Int) ≠ (n : Int);omega
end Go.Proofs.YtgaecpdokgklpacGreat
