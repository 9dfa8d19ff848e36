import Derived.Test.YtgaecpdokgklpadGreatDoorRow
set_option maxHeartbeats 8000000
namespace Go.Proofs.YtgaecpdokgklpadGreatDoor
set_option maxRecDepth 100000
open Plain
theorem Qc : Z6 Rec.free = 0 := by decide
theorem Zcm (d : Dk) (a : Int) : Z6 (Z7 d a) = 0 := by
 unfold Z7;split
 ·next h => exact (Zgz _ _ h).1
 ·exact Qc
theorem Xg (d : Dk) (p : Int) : Z6 (d.tell p) = 0 := by
 unfold Dk.tell;split
 ·exact Qc
 ·split
  ·exact Qc
  ·unfold Jh; split
   ·exact Zcm _ _
   ·exact Zcm _ _
theorem Zfp {d : Dk} {a : Int} {r : Rec} (h : d.get a = some (blk r a)) (hr : Z6 r = 0) (h0 : 0 ≤ a) (h1 : a ≤ 255) : Z7 d a = r ∧ Xi d a = 0 := by
 have hb : Yk d a = blk r a := by unfold Yk; rw [h]; rfl
 obtain ⟨he, hR⟩ := Zkw r a hr h0 h1;unfold Xi Z7 Qa;rw [hb, if_pos he, if_pos he]; exact ⟨hR, rfl⟩
theorem Zfq {d : Dk} {a : Int} (h : Qa d a ≠ 0) : Z7 d a = Rec.free ∧ Xi d a = 1 := by
 unfold Xi Z7;rw [if_neg h, if_neg h]; exact ⟨rfl, rfl⟩
theorem Xq {d : Dk} {a : Int} (h : (Z7 d a).kind = 1) : Y7 d a = 0 := by unfold Y7; rw [if_pos h]
theorem V6 {d : Dk} {a : Int} (h : (Z7 d a).kind ≠ 1) : Y7 d a = 1 := by unfold Y7; rw [if_neg h]
theorem Qy {d : Dk} {p : Int} {r : Rec} (hn : d.noPair p = false) (h0 : Z7 d (2 * p) = r) (h1 : Z7 d (2 * p + 1) = r) (hr : r.kind ≠ 1) : d.how p = 1 ∧ d.tell p = r := by
 have s0 : Y7 d (2 * p) = 1 := V6 (by rw [h0]; exact hr);have s1 : Y7 d (2 * p + 1) = 1 := V6 (by rw [h1]; exact hr);have hs : Ks r r = true := by rw [K7]
 unfold Dk.how Dk.tell Jh;rw [hn, s0, s1, h0, h1, if_neg hr];simp [hs]
theorem Zgn {d : Dk} {p : Int} (hn : d.noPair p = false) (h0 : (Z7 d (2 * p)).kind = 1) (h1 : (Z7 d (2 * p + 1)).kind = 1) (b0 : Xi d (2 * p) = 0) (b1 : Xi d (2 * p + 1) = 0) : d.how p = 0 ∧ d.tell p = Rec.free := by
 have s0 := Xq h0;have s1 := Xq h1;unfold Dk.how Dk.tell;rw [hn, s0, s1, b0, b1];simp
theorem Vf {d : Dk} {p : Int} {r : Rec} (hn : d.noPair p = false) (hr : r.kind ≠ 1) (h : Z7 d (2 * p) = r ∧ (Z7 d (2 * p + 1)).kind = 1 ∨ Z7 d (2 * p + 1) = r ∧ (Z7 d (2 * p)).kind = 1) : d.how p = 2 ∧ d.tell p = r := by
 rcases h with ⟨h0, h1⟩ | ⟨h0, h1⟩
 ·have s0 : Y7 d (2 * p) = 1 := V6 (by rw [h0]; exact hr);have s1 := Xq h1;unfold Dk.how Dk.tell Jh;rw [hn, s0, s1, h0, if_neg hr];simp
 ·have s1 : Y7 d (2 * p + 1) = 1 := V6 (by rw [h0]; exact hr);have s0 := Xq h1;unfold Dk.how Dk.tell Jh;rw [hn, s0, s1, h0, if_pos h1];simp
theorem Zhx {d : Dk} {p : Int} {r : Rec} (h0 : 0 ≤ p) (h1 : 2 * p + 1 < (d.blocks.length : Int)) : (d.pairW p r).get (2 * p) = some (blk r (2 * p)) ∧ (d.pairW p r).get (2 * p + 1) = some (blk r (2 * p + 1)) := by
 have e : d.pairW p r = (d.put (2 * p) (blk r (2 * p))).put (2 * p + 1) (blk r (2 * p + 1)) := by simp [Dk.pairW, Dk.put]
 rw [e];refine ⟨?_, Dk.put_get _ _ _ (by omega) h1⟩;rw [Dk.put_other _ _ _ _ (by omega)];exact Dk.put_get _ _ _ (by omega) (by omega)
theorem Zej {d : Dk} {p : Int} (h0 : 0 ≤ p) (h1 : 2 * p + 1 < (d.blocks.length : Int)) : d.noPair p = false := by
 unfold Dk.noPair; exact decide_eq_false (by omega)
theorem Zda {d : Dk} {p : Int} {r : Rec} (h0 : 0 ≤ p) (h1 : 2 * p + 1 < (d.blocks.length : Int)) : d.pairE p r = Z6 r := by
 unfold Dk.pairE; rw [if_neg (by omega)]
theorem Znu (d : Dk) (p : Int) (h0 : 0 ≤ p) (h1 : 2 * p + 1 < (d.blocks.length : Int)) (hlen : d.blocks.length ≤ 256) :
  (d.mendD p).how p = (if (d.tell p).kind = 1 then 0 else 1) ∧ (d.mendD p).tell p = d.tell p ∧ (d.mendD p).mendD p = d.mendD p := by
 have key : (d.mendD p).how p = (if (d.tell p).kind = 1 then 0 else 1) ∧ (d.mendD p).tell p = d.tell p := by
  have hn := Zej h0 h1;by_cases h2 : 2 ≤ d.how p
  ·have hd : d.mendD p = d.pairW p (d.tell p) := by
    unfold Dk.mendD Dk.pairD;rw [if_pos h2, Zda h0 h1, Xg, if_pos rfl]
   rw [hd];obtain ⟨g0, g1⟩ := Zhx (d := d) (r := d.tell p) h0 h1;obtain ⟨r0, b0⟩ := Zfp g0 (Xg d p) (by omega) (by omega);obtain ⟨r1, b1⟩ := Zfp g1 (Xg d p) (by omega) (by omega);have hn' : (d.pairW p (d.tell p)).noPair p = false := Zej h0 h1;by_cases hk : (d.tell p).kind = 1
   ·have hf : d.tell p = Rec.free := by
     by_cases hs : Y7 d (2 * p) + Y7 d (2 * p + 1) = 0
     ·unfold Dk.tell; rw [hn, if_neg (by decide), if_pos hs]
     ·exfalso;have ht : d.tell p = Jh d p := by unfold Dk.tell; rw [hn, if_neg (by decide), if_neg hs]
      rw [ht] at hk;unfold Jh at hk;by_cases hk0 : (Z7 d (2 * p)).kind = 1
      ·rw [if_pos hk0] at hk;rw [Xq hk0, Xq hk] at hs; exact hs rfl
      ·rw [if_neg hk0] at hk; exact hk0 hk
    rw [if_pos hk];obtain ⟨a, b⟩ := Zgn hn' (by rw [r0]; exact hk) (by rw [r1]; exact hk) b0 b1;exact ⟨a, by rw [b, hf]⟩
   ·rw [if_neg hk];exact Qy hn' r0 r1 hk
  ·have hd : d.mendD p = d := by unfold Dk.mendD; rw [if_neg h2]
   rw [hd];refine ⟨?_, rfl⟩;unfold Dk.how at h2 ⊢;unfold Dk.tell;rw [hn] at h2 ⊢;simp only [Bool.false_eq_true, if_false] at h2 ⊢;have e0 := Zc7 d (2 * p);have e1 := Zc7 d (2 * p + 1);by_cases hs : Y7 d (2 * p) + Y7 d (2 * p + 1) = 2
   ·rw [if_pos hs] at h2 ⊢;have hk : (Z7 d (2 * p)).kind ≠ 1 := fun h => by have := Xq h; omega
    have hz : ¬ (Y7 d (2 * p) + Y7 d (2 * p + 1) = 0) := by omega
    rw [if_neg hz];by_cases hsm : Ks (Z7 d (2 * p)) (Z7 d (2 * p + 1)) = true
    ·unfold Jh; rw [if_pos hsm, if_neg hk, if_neg hk]
    ·rw [if_neg hsm] at h2; omega
   ·rw [if_neg hs] at h2 ⊢;by_cases hs1 : Y7 d (2 * p) + Y7 d (2 * p + 1) = 1
    ·rw [if_pos hs1] at h2; omega
    ·rw [if_neg hs1] at h2 ⊢;have hz : Y7 d (2 * p) + Y7 d (2 * p + 1) = 0 := by omega
     rw [if_pos hz, if_pos (show Rec.free.kind = 1 from rfl)];by_cases hb0 : Xi d (2 * p) + Xi d (2 * p + 1) = 0
     ·rw [if_pos hb0]
     ·rw [if_neg hb0] at h2; split at h2 <;> omega
 refine ⟨key.1, key.2, ?_⟩;show (if 2 ≤ (d.mendD p).how p then _ else _) = _;rw [if_neg (by rw [key.1]; split <;> omega)]
theorem Zj0 (r : Rec) (a : Int) (h : Z6 r = 0) : (blk r a).length = 16 := Vj r a (Kh h).2.2.2.2.2.2
theorem Zkm {d : Dk} {a : Int} {r : Rec} {n y : Int} (h : d.get a = some (turned (blk r a) n y)) (hr : Z6 r = 0) (hn0 : 0 ≤ n) (hn1 : n < ((blk r a).length : Int)) (hy : y % 256 ≠ 0) : Z7 d a = Rec.free ∧ Xi d a = 1 := by
 refine Zfq ?_;unfold Qa;have hb : Yk d a = turned (blk r a) n y := by unfold Yk; rw [h]; rfl
 rw [hb];unfold turned;rw [if_pos ⟨hn0, hn1⟩, Q5 _ _ _ (by omega)];rw [Zkv r a n.toNat _ hr (by omega) ?_]
 ·decide
 ·intro hE;have h1 : lo y = 0 := by
   have h2 : (blk r a)[n.toNat] ^^^ ((blk r a)[n.toNat] ^^^ lo y) = (blk r a)[n.toNat] ^^^ (blk r a)[n.toNat] := by rw [← hE]
   rw [← UInt8.xor_assoc, UInt8.xor_self, UInt8.zero_xor] at h2;exact h2
  have h3 := J6 y;rw [h1] at h3;exact hy h3.symm
theorem Zw0 (a : Int) (h0 : 0 ≤ a) (h1 : a < 12) : (Dk.new.blocks).getD a.toNat [] = blk Rec.free a := by
 unfold Dk.new;rw [Q5 _ _ _ (by simp; omega), List.getElem_map, List.getElem_range, show ((a.toNat : Nat) : Int) = a from by omega]; rfl
def Zbn (e : Ent) : List Ent → List Ent
 | [] => [e]
 | x :: l => if Y3 e x = true then e :: x :: l else x :: Zbn e l
theorem Zgm (e : Ent) : ∀ (l pre : List Ent), l.foldl (Vw e) (pre, true) = (pre ++ l, true)
 | [], pre => by simp
 | x :: l, pre => by
  rw [List.foldl_cons, show Vw e (pre, true) x = (pre ++ [x], true) from by simp [Vw], Zgm e l];simp
theorem Zh7 (e : Ent) : ∀ (l pre : List Ent), (if (l.foldl (Vw e) (pre, false)).2 = true then (l.foldl (Vw e) (pre, false)).1 else (l.foldl (Vw e) (pre, false)).1 ++ [e]) = pre ++ Zbn e l
 | [], pre => by simp [Zbn]
 | x :: l, pre => by
  rw [List.foldl_cons];by_cases h : Y3 e x = true
  ·rw [show Vw e (pre, false) x = (pre ++ [e] ++ [x], true) from by simp [Vw, h], Zgm];simp [Zbn, h]
  ·rw [show Vw e (pre, false) x = (pre ++ [x], false) from by simp [Vw, h], Zh7 e l];simp [Zbn, h]
theorem Jv (e : Ent) (l : List Ent) : Qh e l = Zbn e l := by
 have := Zh7 e l [];unfold Qh Zpg;simpa using this
theorem Zdj (e x : Ent) : ∀ l : List Ent, x ∈ Zbn e l ↔ x = e ∨ x ∈ l
 | [] => by simp [Zbn]
 | y :: l => by
  have ih := Zdj e x l;unfold Zbn;split
  ·simp
  ·simp [ih];constructor
   ·rintro (h | h | h)
    ·exact .inr (.inl h)
    ·exact .inl h
    ·exact .inr (.inr h)
   ·rintro (h | h | h)
    ·exact .inr (.inl h)
    ·exact .inl h
    ·exact .inr (.inr h)
theorem Vo (e x : Ent) (l : List Ent) : x ∈ Qh e l ↔ x = e ∨ x ∈ l := by rw [Jv]; exact Zdj e x l
theorem Jf {a b c : Ent} (h1 : Y3 a b = true) (h2 : Y3 b c = true) : Y3 a c = true := by
 unfold Y3 at h1 h2 ⊢;split at h1 <;> split at h2 <;> split <;> try split at h1 <;> try split at h2 <;> try split
 all_goals simp only [decide_eq_true_eq] at *
 all_goals first | omega | (split at h2 <;> simp only [decide_eq_true_eq] at * <;> first | omega | (split <;> simp only [decide_eq_true_eq] at * <;> omega)) | (split <;> simp only [decide_eq_true_eq] at * <;> omega)
theorem Zcq {a b : Ent} (h : ¬ Y3 a b = true) (hp : a.pair ≠ b.pair) : Y3 b a = true := by
 unfold Y3 at h ⊢;by_cases hk : a.rc.key = b.rc.key
 ·rw [if_pos hk] at h;rw [if_pos hk.symm];by_cases hv : a.rc.ver = b.rc.ver
  ·rw [if_pos hv] at h;rw [if_pos hv.symm];simp only [decide_eq_true_eq] at *; omega
  ·rw [if_neg hv] at h;rw [if_neg (fun e => hv e.symm)];simp only [decide_eq_true_eq] at *; omega
 ·rw [if_neg hk] at h;rw [if_neg (fun e => hk e.symm)];simp only [decide_eq_true_eq] at *; omega
def Good (e : Ent) : Prop := Z6 e.rc = 0 ∧ e.rc.kind ≠ 1 ∧ 0 ≤ e.pair ∧ e.pair ≤ 1000
def Ups (a b : Ent) : Prop := Y3 a b = true ∧ a.pair ≠ b.pair
theorem Zww (pre : List Ent) (e : Ent) : okE pre e = true ↔ Good e ∧ Zbl pre e = true ∧ ∀ x ∈ pre, x.pair ≠ e.pair := by
 unfold okE Good;simp only [Bool.and_eq_true, decide_eq_true_eq, List.all_eq_true];exact ⟨fun ⟨⟨h1, h2⟩, h3⟩ => ⟨h1, h2, h3⟩, fun ⟨h1, h2, h3⟩ => ⟨⟨h1, h2⟩, h3⟩⟩
theorem Zup {e : Ent} : ∀ pre : List Ent, pre.Pairwise Ups → Zbl pre e = true → ∀ x ∈ pre, Y3 x e = true := by
 intro pre hp hl x hx;have h : pre ≠ [] := by rintro rfl; cases hx
 obtain ⟨pre', y, rfl⟩ : ∃ pre' y, pre = pre' ++ [y] := ⟨pre.dropLast, pre.getLast h, (List.dropLast_concat_getLast h).symm⟩;have hy : Y3 y e = true := by
  unfold Zbl at hl;rw [List.getLast?_append] at hl;simpa using hl
 rcases List.mem_append.1 hx with h1 | h1
 ·have := (List.pairwise_append.1 hp).2.2 x h1 y (by simp);exact Jf this.1 hy
 ·rw [List.mem_singleton.1 h1]; exact hy
theorem J5 : ∀ (l pre : List Ent), pre.Pairwise Ups → (Zae pre l = true ↔ (pre ++ l).Pairwise Ups ∧ ∀ x ∈ l, Good x)
 | [], pre, hp => by simp [Zae, hp]
 | e :: l, pre, hp => by
  unfold Zae;rw [Bool.and_eq_true, Zww];constructor
  ·rintro ⟨⟨h1, h2, h3⟩, h4⟩;have hp2 : (pre ++ [e]).Pairwise Ups := List.pairwise_append.2 ⟨hp, by simp, fun x hx y hy => by
    rw [List.mem_singleton.1 hy]; exact ⟨Zup pre hp h2 x hx, h3 x hx⟩⟩
   obtain ⟨h5, h6⟩ := (J5 l (pre ++ [e]) hp2).1 h4;refine ⟨by simpa using h5, fun x hx => ?_⟩;rcases List.mem_cons.1 hx with rfl | hx
   ·exact h1
   ·exact h6 x hx
  ·rintro ⟨h1, h2⟩;have hp2 : (pre ++ [e]).Pairwise Ups := by
    have : (pre ++ [e] ++ l).Pairwise Ups := by simpa using h1
    exact (List.pairwise_append.1 this).1
   have hq := (List.pairwise_append.1 hp2).2.2;refine ⟨⟨h2 e (by simp), ?_, fun x hx => (hq x hx e (by simp)).2⟩, (J5 l (pre ++ [e]) hp2).2 ⟨by simpa using h1, fun x hx => h2 x (by simp [hx])⟩⟩;unfold Zbl;cases hg : pre.getLast? with
   | none => rfl
   | some y => exact (hq y (List.mem_of_getLast? hg) e (by simp)).1
theorem Y5 (l : List Ent) : Xw l = true ↔ l.Pairwise Ups ∧ ∀ x ∈ l, Good x := by
 have := J5 l [] (by simp);simpa [Xw] using this
theorem Zlj (e : Ent) : ∀ l : List Ent, l.Pairwise Ups → (∀ x ∈ l, x.pair ≠ e.pair) → (Zbn e l).Pairwise Ups
 | [], _, _ => by simp [Zbn]
 | x :: l, hp, hne => by
  obtain ⟨h1, h2⟩ := List.pairwise_cons.1 hp;unfold Zbn;by_cases h : Y3 e x = true
  ·rw [if_pos h];refine List.pairwise_cons.2 ⟨fun y hy => ?_, hp⟩;rcases List.mem_cons.1 hy with rfl | hy
   ·exact ⟨h, fun e' => hne y (by simp) e'.symm⟩
   ·exact ⟨Jf h (h1 y hy).1, fun e' => hne y (by simp [hy]) e'.symm⟩
  ·rw [if_neg h];refine List.pairwise_cons.2 ⟨fun y hy => ?_, Zlj e l h2 fun y hy => hne y (by simp [hy])⟩;rcases (Zdj e y l).1 hy with rfl | hy
   ·exact ⟨Zcq h fun e' => hne x (by simp) e'.symm, hne x (by simp)⟩
   ·exact h1 y hy
theorem J7 {e : Ent} {l : List Ent} (h : Xw l = true) (he : Good e) (hne : ∀ x ∈ l, x.pair ≠ e.pair) : Xw (Qh e l) = true := by
 obtain ⟨h1, h2⟩ := (Y5 l).1 h;rw [Y5, Jv];refine ⟨Zlj e l h1 hne, fun x hx => ?_⟩;rcases (Zdj e x l).1 hx with rfl | hx
 ·exact he
 ·exact h2 x hx
def Za1 (l : List Ent) (key ver : Int) : Option Ent := l.find? fun x => decide (x.rc.key = key ∧ x.rc.ver = ver)
def Ji (l : List Ent) (p : Int) : List Ent := l.filter fun x => decide (x.pair ≠ p)
def Zap (l : List Ent) (f : Nat) : Prop := (∀ n : Nat, n < f → ∃ x ∈ l, x.pair = (n : Int)) ∧ ∀ x ∈ l, x.pair ≠ (f : Int)
def Zov (l : List Ent) (pairs r : Int) : Prop := ∃ f : Nat, Zap l f ∧ ((f : Int) < pairs ∧ r = (f : Int) ∨ pairs ≤ (f : Int) ∧ r = -1)
theorem Zrc {l : List Ent} {f g : Nat} (h1 : Zap l f) (h2 : Zap l g) : f = g := by
 rcases Nat.lt_trichotomy f g with h | h | h
 ·obtain ⟨x, hx, hp⟩ := h2.1 f h;exact absurd hp (h1.2 x hx)
 ·exact h
 ·obtain ⟨x, hx, hp⟩ := h1.1 g h;exact absurd hp (h2.2 x hx)
theorem Zrn {l : List Ent} {key ver : Int} (h : ∀ x ∈ l, ¬ (x.rc.key = key ∧ x.rc.ver = ver)) : Za1 l key ver = none := by
 unfold Za1;rw [List.find?_eq_none];exact fun x hx => by simpa using h x hx
theorem Qj (d : Dk) (x : Ent) : ∀ n, x ∈ Yf d n ↔ ∃ p : Nat, p < n ∧ (d.tell (p : Int)).kind ≠ 1 ∧ x = ⟨d.tell (p : Int), (p : Int)⟩
 | 0 => by simp [Yf]
 | n + 1 => by
  have ih := Qj d x n;unfold Yf;by_cases h : (d.tell (n : Int)).kind = 1
  ·rw [if_pos h, ih];constructor
   ·rintro ⟨p, h1, h2⟩; exact ⟨p, by omega, h2⟩
   ·rintro ⟨p, h1, h2, h3⟩;refine ⟨p, ?_, h2, h3⟩;rcases Nat.lt_succ_iff_lt_or_eq.1 h1 with h4 | rfl
    ·exact h4
    ·exact absurd h h2
  ·rw [if_neg h, Vo, ih];constructor
   ·rintro (rfl | ⟨p, h1, h2⟩)
    ·exact ⟨n, by omega, h, rfl⟩
    ·exact ⟨p, by omega, h2⟩
   ·rintro ⟨p, h1, h2, h3⟩;rcases Nat.lt_succ_iff_lt_or_eq.1 h1 with h4 | rfl
    ·exact .inr ⟨p, h4, h2, h3⟩
    ·exact .inl h3
theorem Vh (d : Dk) : ∀ n, n ≤ 1000 → Xw (Yf d n) = true
 | 0, _ => rfl
 | n + 1, hn => by
  have ih := Vh d n (by omega);unfold Yf;split
  ·exact ih
  ·rename_i h;refine J7 ih ⟨Xg d _, h, by show (0 : Int) ≤ (n : Int); omega, by show (n : Int) ≤ 1000; omega⟩ fun x hx => ?_;obtain ⟨p, h1, _, rfl⟩ := (Qj d x n).1 hx;show (p : Int) ≠ (n : Int);omega
end Go.Proofs.YtgaecpdokgklpadGreatDoor
