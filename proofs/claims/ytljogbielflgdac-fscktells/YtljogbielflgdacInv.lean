import Derived.Test.YtljogbielflgdacRClean
set_option maxHeartbeats 8000000
namespace Go.Proofs.Ytljogbielflgdac
set_option maxRecDepth 100000
open Plain
theorem Vk {d : Dk} (h : d.Fine 0) : d.late = [] := List.eq_nil_of_length_eq_zero (by have := h.few; omega)
theorem Ky {d : Dk} (h : d.Fine 0) {a : Nat} (ha : a < 12) : Yh d (a : Int) = d.blocks.getD a [] := by
 unfold Yh Dk.get;rw [if_neg (by have := h.len; omega), Vk h];simp [X9]
theorem Zfe {d d' : Dk} (hl : d'.blocks.length = d.blocks.length) {p : Int} (h0 : Yh d' (2 * p) = Yh d (2 * p)) (h1 : Yh d' (2 * p + 1) = Yh d (2 * p + 1)) : d'.how p = d.how p ∧ d'.tell p = d.tell p := by
 unfold Dk.how Dk.tell Ku Yg Y8 Z9 Qf Dk.noPair;rw [h0, h1, hl]; exact ⟨rfl, rfl⟩
theorem Ze8 {d d' : Dk} {a : Int} (h : Yh d' a = Yh d a) : Z9 d' a = Z9 d a ∧ Y8 d' a = Y8 d a := by
 unfold Z9 Y8 Qf;rw [h]; exact ⟨rfl, rfl⟩
theorem Zbb {d : Dk} (h : d.blocks.length = 12) {p : Nat} (hp : p < 6) : d.noPair (p : Int) = false := Zcb (by omega) (by rw [h]; omega)
def Zq9 (d : Dk) (p : Nat) : Prop :=
 (∃ r : Rec, r.kind ≠ 1 ∧ Z9 d (2 * (p : Int)) = r ∧ Z9 d (2 * (p : Int) + 1) = r) ∨
 (∃ r : Rec, r.kind ≠ 1 ∧ (Z9 d (2 * (p : Int)) = r ∧ (Z9 d (2 * (p : Int) + 1)).kind = 1 ∨ Z9 d (2 * (p : Int) + 1) = r ∧ (Z9 d (2 * (p : Int))).kind = 1)) ∨
 ((Z9 d (2 * (p : Int))).kind = 1 ∧ (Z9 d (2 * (p : Int) + 1)).kind = 1 ∧ Y8 d (2 * (p : Int)) + Y8 d (2 * (p : Int) + 1) ≤ 1)
def Dk.half (d : Dk) (p : Nat) (r : Rec) (x y : Bool) : Dk :=
 ⟨if y = true then (if x = true then d.blocks.set (2 * p) (blk r (2 * (p : Int))) else d.blocks).set (2 * p + 1) (blk r (2 * (p : Int) + 1)) else (if x = true then d.blocks.set (2 * p) (blk r (2 * (p : Int))) else d.blocks), []⟩
theorem Znd {d : Dk} (h : d.Fine 0) {p : Nat} (hp : p < 6) {r : Rec} (hr : Z5 r = 0) : d.pairD (p : Int) r = ⟨d.blocks, [(2 * (p : Int), blk r (2 * (p : Int))), (2 * (p : Int) + 1, blk r (2 * (p : Int) + 1))]⟩ := by
 have he : d.pairE (p : Int) r = 0 := by rw [Zdv (by omega) (by rw [h.len]; omega), hr]
 unfold Dk.pairD;rw [if_pos he];unfold Dk.pairW;rw [Vk h]; rfl
theorem Zhk {d : Dk} (h : d.Fine 0) {p : Nat} (hp : p < 6) {r : Rec} (hr : Z5 r = 0) (on : Nat → Bool) : (⟨(d.pairD (p : Int) r).keepTo on (d.pairD (p : Int) r).late.length, []⟩ : Dk) = d.half p r (on 0) (on 1) := by
 rw [Znd h hp hr];have e0 : (2 * (p : Int)).toNat = 2 * p := by omega
 have e1 : (2 * (p : Int) + 1).toNat = 2 * p + 1 := by omega
 simp only [Dk.half, Dk.keepTo, List.length_cons, List.length_nil, List.getD_cons_zero, List.getD_cons_succ, e0, e1]
theorem Zbp {d : Dk} (h : d.Fine 0) {p : Nat} (hp : p < 6) {r : Rec} (hr : Z5 r = 0) : (d.pairD (p : Int) r).flush = d.half p r true true := Zhk h hp hr _
theorem Zcf {d : Dk} (h : d.Fine 0) {p : Nat} (_hp : p < 6) {r : Rec} (hr : Z5 r = 0) (x y : Bool) : (d.half p r x y).Fine 0 := by
 have hl := h.len;refine ⟨?_, Nat.le_refl _, ?_, (fun x hx => by cases hx), (fun x hx => by cases hx)⟩
 ·unfold Dk.half;cases x <;> cases y <;> simp [hl]
 ·have key : ∀ (l : List (List UInt8)) (i : Nat) (a : Int), (∀ z ∈ l, z.length = 16) → ∀ z ∈ l.set i (blk r a), z.length = 16 := fun l i a hh z hz => by
   rcases List.mem_or_eq_of_mem_set hz with h1 | h1
   ·exact hh z h1
   ·rw [h1]; exact Zj9 r a hr
  unfold Dk.half;cases x <;> cases y
  ·exact h.block
  ·exact key _ _ _ h.block
  ·exact key _ _ _ h.block
  ·exact key _ _ _ (key _ _ _ h.block)
theorem K9 {d : Dk} (h : d.Fine 0) {p : Nat} (hp : p < 6) {r : Rec} (hr : Z5 r = 0) (x y : Bool) (a : Nat) (ha : a < 12) :
  Yh (d.half p r x y) (a : Int) = if a = 2 * p + 1 ∧ y = true then blk r (2 * (p : Int) + 1) else if a = 2 * p ∧ x = true then blk r (2 * (p : Int)) else Yh d (a : Int) := by
 have hl := h.len;rw [Ky (Zcf h hp hr x y) ha, Ky h ha];unfold Dk.half;cases x <;> cases y <;> simp only [Bool.false_eq_true, if_false, if_true, and_false, and_true]
 ·rw [Y0 _ _ _ _ _ (by omega)];by_cases e : 2 * p + 1 = a
  ·rw [if_pos e, if_pos e.symm]
  ·rw [if_neg e, if_neg (fun h => e h.symm)]
 ·rw [Y0 _ _ _ _ _ (by omega)];by_cases e : 2 * p = a
  ·rw [if_pos e, if_pos e.symm]
  ·rw [if_neg e, if_neg (fun h => e h.symm)]
 ·rw [Y0 _ _ _ _ _ (by rw [List.length_set]; omega), Y0 _ _ _ _ _ (by omega)];by_cases e : 2 * p + 1 = a
  ·rw [if_pos e, if_pos e.symm]
  ·have e' : ¬ a = 2 * p + 1 := fun h => e h.symm
   rw [if_neg e, if_neg e'];by_cases e2 : 2 * p = a
   ·rw [if_pos e2, if_pos e2.symm]
   ·have e2' : ¬ a = 2 * p := fun h => e2 h.symm
    rw [if_neg e2, if_neg e2']
theorem Zbe {d : Dk} (h : d.Fine 0) {p q : Nat} (hp : p < 6) (hq : q < 6) (hne : q ≠ p) {r : Rec} (hr : Z5 r = 0) (x y : Bool) : (d.half p r x y).how (q : Int) = d.how (q : Int) ∧ (d.half p r x y).tell (q : Int) = d.tell (q : Int) := by
 have h0 := K9 h hp hr x y (2 * q) (by omega);have h1 := K9 h hp hr x y (2 * q + 1) (by omega);rw [if_neg (by omega), if_neg (by omega)] at h0 h1;exact Zfe ((Zcf h hp hr x y).len.trans h.len.symm) (by simpa using h0) (by simpa using h1)
theorem Zee {d : Dk} (h : d.Fine 0) {p : Nat} (hp : p < 6) {r : Rec} (hr : Z5 r = 0) (x y : Bool) :
  ((x = true → Z9 (d.half p r x y) (2 * (p : Int)) = r ∧ Y8 (d.half p r x y) (2 * (p : Int)) = 0) ∧ (x = false → Z9 (d.half p r x y) (2 * (p : Int)) = Z9 d (2 * (p : Int)) ∧ Y8 (d.half p r x y) (2 * (p : Int)) = Y8 d (2 * (p : Int)))) ∧
  ((y = true → Z9 (d.half p r x y) (2 * (p : Int) + 1) = r ∧ Y8 (d.half p r x y) (2 * (p : Int) + 1) = 0) ∧ (y = false → Z9 (d.half p r x y) (2 * (p : Int) + 1) = Z9 d (2 * (p : Int) + 1) ∧ Y8 (d.half p r x y) (2 * (p : Int) + 1) = Y8 d (2 * (p : Int) + 1))) := by
 have h0 := K9 h hp hr x y (2 * p) (by omega);have h1 := K9 h hp hr x y (2 * p + 1) (by omega);rw [if_neg (by omega)] at h0;have c0 : ((2 * p : Nat) : Int) = 2 * (p : Int) := by omega
 have c1 : ((2 * p + 1 : Nat) : Int) = 2 * (p : Int) + 1 := by omega
 rw [c0] at h0;rw [c1] at h1;have key : ∀ a : Int, 0 ≤ a → a ≤ 255 → Yh (d.half p r x y) a = blk r a → Z9 (d.half p r x y) a = r ∧ Y8 (d.half p r x y) a = 0 := fun a ha ha' hb => by
  obtain ⟨he, hR⟩ := Zhc r a hr ha ha';unfold Y8 Z9 Qf;rw [hb, if_pos he, if_pos he]; exact ⟨hR, rfl⟩
 refine ⟨⟨fun e => ?_, fun e => ?_⟩, fun e => ?_, fun e => ?_⟩
 ·rw [if_pos ⟨rfl, e⟩] at h0; exact key _ (by omega) (by omega) h0
 ·rw [if_neg (by simp [e])] at h0; exact Ze8 h0
 ·rw [if_pos ⟨rfl, e⟩] at h1; exact key _ (by omega) (by omega) h1
 ·rw [if_neg (by simp [e]), if_neg (by omega)] at h1; exact Ze8 h1
end Go.Proofs.Ytljogbielflgdac
namespace Go.Proofs.Ytljogbielflgdac
set_option maxRecDepth 100000
open Go.RowKit
open Plain Reg
end Go.Proofs.Ytljogbielflgdac
namespace Go.Proofs.Ytljogbielflgdac
set_option maxRecDepth 100000
open Plain
theorem Zly {d : Dk} (h : d.Fine 0) : d.flush = d := by
 have hl := Vk h;obtain ⟨b, l⟩ := d;simp only at hl;subst hl;rfl
theorem Zby {r : Rec} (h : Z5 r = 0) (hk : r.kind = 1) : r = Rec.free := by
 obtain ⟨-, -, h3, h4⟩ := (Za5 r).1 h;obtain ⟨k, y, n, l⟩ := r;simp only at hk;subst hk;unfold Xg at h3;unfold Yx at h4;simp at h3 h4;obtain ⟨rfl, rfl⟩ := h3;subst h4;rfl
structure Zqj (d e : Dk) (p : Nat) : Prop where
 fine : e.Fine 0
 low : e.how (p : Int) < 2
 tell : ∀ q : Nat, q < 6 → e.tell (q : Int) = d.tell (q : Int)
 other : ∀ q : Nat, q < 6 → q ≠ p → e.how (q : Int) = d.how (q : Int)
 same : d.how (p : Int) < 2 → e = d
theorem Zjk {d : Dk} (h : d.Fine 0) {p : Nat} (hp : p < 6) : Zqj d (d.mendD (p : Int)).flush p := by
 have hfi := (h.mend (p : Int)).flush;revert hfi;unfold Dk.mendD;by_cases h2 : 2 ≤ d.how (p : Int)
 ·rw [if_pos h2];have hw := Qv d (p : Int);rw [Zbp h hp hw];intro hfi;have hn := Zbb hfi.len hp;obtain ⟨⟨a0, -⟩, b0, -⟩ := Zee h hp hw true true;have key : (d.half p (d.tell (p : Int)) true true).how (p : Int) < 2 ∧ (d.half p (d.tell (p : Int)) true true).tell (p : Int) = d.tell (p : Int) := by
   by_cases hk : (d.tell (p : Int)).kind = 1
   ·obtain ⟨k1, k2⟩ := Zd9 hn (by rw [(a0 rfl).1]; exact hk) (by rw [(b0 rfl).1]; exact hk) (a0 rfl).2 (b0 rfl).2;exact ⟨by omega, by rw [k2, Zby hw hk]⟩
   ·obtain ⟨k1, k2⟩ := Zea hn (a0 rfl).1 (b0 rfl).1 hk;exact ⟨by omega, k2⟩
  refine ⟨hfi, key.1, fun q hq => ?_, fun q hq hne => (Zbe h hp hq hne hw true true).1, fun h3 => by omega⟩;by_cases e : q = p
  ·subst e; exact key.2
  ·exact (Zbe h hp hq e hw true true).2
 ·rw [if_neg h2, Zly h];exact fun _ => ⟨h, by omega, fun _ _ => rfl, fun _ _ _ => rfl, fun _ => rfl⟩
structure Zqz (d e : Dk) (p : Nat) (r : Rec) : Prop where
 fine : e.Fine 0
 low : e.how (p : Int) < 2
 tell : e.tell (p : Int) = r
 other : ∀ q : Nat, q < 6 → q ≠ p → e.how (q : Int) = d.how (q : Int) ∧ e.tell (q : Int) = d.tell (q : Int)
 side : ∀ a : Nat, a < 12 → Yh e (a : Int) = if a / 2 = p then blk r (a : Int) else Yh d (a : Int)
theorem Zp3 {d : Dk} (h : d.Fine 0) {p : Nat} (hp : p < 6) {r : Rec} (hw : Z5 r = 0) : Zqz d (d.pairD (p : Int) r).flush p r := by
 rw [Zbp h hp hw];have hfi := Zcf h hp hw true true;have hn := Zbb hfi.len hp;obtain ⟨⟨a0, -⟩, b0, -⟩ := Zee h hp hw true true;have key : (d.half p r true true).how (p : Int) < 2 ∧ (d.half p r true true).tell (p : Int) = r := by
  by_cases hk : r.kind = 1
  ·obtain ⟨k1, k2⟩ := Zd9 hn (by rw [(a0 rfl).1]; exact hk) (by rw [(b0 rfl).1]; exact hk) (a0 rfl).2 (b0 rfl).2;exact ⟨by omega, by rw [k2, Zby hw hk]⟩
  ·obtain ⟨k1, k2⟩ := Zea hn (a0 rfl).1 (b0 rfl).1 hk;exact ⟨by omega, k2⟩
 refine ⟨hfi, key.1, key.2, fun q hq hne => Zbe h hp hq hne hw true true, fun a ha => ?_⟩;have hs := K9 h hp hw true true a ha;rw [hs];by_cases e1 : a = 2 * p + 1
 ·subst e1;rw [if_pos ⟨rfl, rfl⟩, if_pos (by omega)]
  congr 1
 ·rw [if_neg (fun h => e1 h.1)];by_cases e0 : a = 2 * p
  ·subst e0;rw [if_pos ⟨rfl, rfl⟩, if_pos (by omega)]
   congr 1
  ·rw [if_neg (fun h => e0 h.1), if_neg (by omega)]
def Ko (D : Dk) (tw : List Int) (p : Nat) : Rec := if tw.contains (p : Int) = true then Rec.free else D.tell (p : Int)
theorem Zjs (D : Dk) (tw : List Int) (p : Nat) : Z5 (Ko D tw p) = 0 := by
 unfold Ko;split
 ·exact V7
 ·exact Qv D _
structure Zn3 (D : Dk) (tw : List Int) (n : Nat) (e : Dk) : Prop where
 fine : e.Fine 0
 low : ∀ q : Nat, q < n → q < 6 → e.how (q : Int) < 2
 tell : ∀ q : Nat, q < 6 → e.tell (q : Int) = if q < n then Ko D tw q else D.tell (q : Int)
 side : ∀ a : Nat, a < 12 → Yh e (a : Int) = if a / 2 < n then blk (Ko D tw (a / 2)) (a : Int) else Yh D (a : Int)
theorem Zkg {D : Dk} (h : D.Fine 0) (tw : List Int) : ∀ n, n ≤ 6 → Zn3 D tw n (Q2 D tw n)
 | 0, _ => ⟨h, fun q hq => by omega, fun q hq => by rw [if_neg (by omega)]; rfl, fun a ha => by rw [if_neg (by omega)]; rfl⟩
 | n + 1, hn => by
  have ih := Zkg h tw n (by omega);have hr : (if tw.contains (n : Int) = true then Rec.free else (Q2 D tw n).tell (n : Int)) = Ko D tw n := by
   unfold Ko;rw [ih.tell n (by omega), if_neg (Nat.lt_irrefl n)]
  have hP := Zp3 ih.fine (p := n) (by omega) (Zjs D tw n);have he : Q2 D tw (n + 1) = ((Q2 D tw n).pairD (n : Int) (Ko D tw n)).flush := by
   show ((Q2 D tw n).pairD (n : Int) (if tw.contains (n : Int) = true then Rec.free else (Q2 D tw n).tell (n : Int))).flush = _;rw [hr]
  rw [he];refine ⟨hP.fine, fun q hq h6 => ?_, fun q hq => ?_, fun a ha => ?_⟩
  ·by_cases e : q = n
   ·subst e; exact hP.low
   ·rw [(hP.other q h6 e).1]; exact ih.low q (by omega) h6
  ·by_cases e : q = n
   ·subst e; rw [hP.tell, if_pos (by omega)]
   ·rw [(hP.other q hq e).2, ih.tell q hq];by_cases hl : q < n
    ·rw [if_pos hl, if_pos (by omega)]
    ·rw [if_neg hl, if_neg (by omega)]
  ·rw [hP.side a ha];by_cases e : a / 2 = n
   ·rw [if_pos e, if_pos (by omega), e]
   ·rw [if_neg e, ih.side a ha];by_cases hl : a / 2 < n
    ·rw [if_pos hl, if_pos (by omega)]
    ·rw [if_neg hl, if_neg (by omega)]
theorem Zci (d : Dk) (p : Nat) : ∀ n, Yo d p n = true ↔ ∃ q : Nat, q < n ∧ (d.tell (q : Int)).kind ≠ 1 ∧ (d.tell (q : Int)).ver = (d.tell (p : Int)).ver
 | 0 => by simp [Yo]
 | n + 1 => by
  have ih := Zci d p n;unfold Yo;rw [Bool.or_eq_true, ih, decide_eq_true_eq];constructor
  ·rintro (⟨q, h1, h2⟩ | h)
   ·exact ⟨q, by omega, h2⟩
   ·exact ⟨n, by omega, h⟩
  ·rintro ⟨q, h1, h2⟩;rcases Nat.lt_succ_iff_lt_or_eq.1 h1 with h3 | rfl
   ·exact .inl ⟨q, h3, h2⟩
   ·exact .inr h2
theorem V3 (d : Dk) (p : Nat) : ∀ n, (p : Int) ∈ Z0 d n ↔ p < n ∧ (d.tell (p : Int)).kind ≠ 1 ∧ Yo d p p = true
 | 0 => by simp [Z0]
 | n + 1 => by
  have ih := V3 d p n;unfold Z0;by_cases hc : (d.tell (n : Int)).kind ≠ 1 ∧ Yo d n n = true
  ·rw [if_pos hc, List.mem_append, ih, List.mem_singleton];constructor
   ·rintro (⟨h1, h2⟩ | h)
    ·exact ⟨by omega, h2⟩
    ·have : p = n := by omega
     subst this;exact ⟨by omega, hc⟩
   ·rintro ⟨h1, h2⟩;by_cases e : p = n
    ·exact .inr (by rw [e])
    ·exact .inl ⟨by omega, h2⟩
  ·rw [if_neg hc, ih];constructor
   ·rintro ⟨h1, h2⟩; exact ⟨by omega, h2⟩
   ·rintro ⟨h1, h2⟩;refine ⟨?_, h2⟩;by_cases e : p = n
    ·subst e; exact absurd h2 hc
    ·omega
theorem Znq {d : Dk} (h : d.Fine 0) : d.keep 0 = d := by
 have hl := Vk h;obtain ⟨b, l⟩ := d;simp only at hl;subst hl;rfl
theorem Ja {n : Nat} {d : Dk} (h : d.Fine n) : Zn3 (d.keep 0) (Z0 (d.keep 0) 6) 6 d.clean := Zkg (h.kept 0) _ 6 (Nat.le_refl _)
theorem Jn {n : Nat} {d : Dk} (h : d.Fine n) {p : Nat} (hp : p < 6) : d.clean.tell (p : Int) = Ko (d.keep 0) (Z0 (d.keep 0) 6) p := by
 rw [(Ja h).tell p hp, if_pos hp]
theorem Zbh {n : Nat} {d : Dk} (h : d.Fine n) {p : Nat} (hp : p < 6) (hk : (d.clean.tell (p : Int)).kind ≠ 1) : d.clean.tell (p : Int) = (d.keep 0).tell (p : Int) ∧ ¬ (p : Int) ∈ Z0 (d.keep 0) 6 := by
 rw [Jn h hp] at hk ⊢;unfold Ko at hk ⊢;by_cases hc : (Z0 (d.keep 0) 6).contains (p : Int) = true
 ·rw [if_pos hc] at hk; exact absurd rfl hk
 ·rw [if_neg hc];exact ⟨rfl, fun hm => hc (List.contains_iff_mem.2 hm)⟩
theorem Zbg {n : Nat} {d : Dk} (h : d.Fine n) : ∀ m, m ≤ 6 → Z0 d.clean m = []
 | 0, _ => rfl
 | m + 1, hm => by
  have ih := Zbg h m (by omega);unfold Z0;rw [if_neg, ih];rintro ⟨hk, ha⟩;obtain ⟨q, hq, h1, h2⟩ := (Zci _ _ _).1 ha;obtain ⟨e1, n1⟩ := Zbh h (p := m) (by omega) hk;obtain ⟨e2, -⟩ := Zbh h (p := q) (by omega) h1;refine n1 ((V3 _ _ 6).2 ⟨by omega, by rw [← e1]; exact hk, (Zci _ _ _).2 ⟨q, hq, by rw [← e2]; exact h1, ?_⟩⟩);rw [← e1, ← e2]; exact h2
theorem Zh9 {n : Nat} {d : Dk} (h : d.Fine n) : d.clean.clean.blocks = d.clean.blocks := by
 have h1 := Ja h;have h2 := Ja h1.fine;have hl1 := h1.fine.len;have hl2 := h2.fine.len;apply List.ext_getElem (by omega);intro a ha hb;have ha12 : a < 12 := by omega
 have s1 := h1.side a ha12;have s2 := h2.side a ha12;rw [if_pos (by omega)] at s1 s2;have ek : Ko (d.clean.keep 0) (Z0 (d.clean.keep 0) 6) (a / 2) = Ko (d.keep 0) (Z0 (d.keep 0) 6) (a / 2) := by
  rw [Znq h1.fine, Zbg h 6 (Nat.le_refl _), ← Jn h (p := a / 2) (by omega)];rfl
 rw [ek, ← s1] at s2;have n1 := Ky h1.fine ha12;have n2 := Ky h2.fine ha12;rw [n1, n2] at s2;rw [List.getD_eq_getElem?_getD, List.getD_eq_getElem?_getD, List.getElem?_eq_getElem (by omega), List.getElem?_eq_getElem (by omega)] at s2;exact s2
theorem Zj5 {n : Nat} {d : Dk} (h : d.Fine n) (x : Ent) : x ∈ Yz d.clean 6 ↔ ∃ p : Nat, p < 6 ∧ ((d.keep 0).tell (p : Int)).kind ≠ 1 ∧ Yo (d.keep 0) p p = false ∧ x = ⟨(d.keep 0).tell (p : Int), (p : Int)⟩ := by
 rw [Zbl];constructor
 ·rintro ⟨p, hp, hk, rfl⟩;obtain ⟨e1, n1⟩ := Zbh h hp hk;refine ⟨p, hp, by rw [← e1]; exact hk, ?_, by rw [e1]⟩;cases ha : Yo (d.keep 0) p p with
  | false => rfl
  | true => exact absurd ((V3 _ _ 6).2 ⟨hp, by rw [← e1]; exact hk, ha⟩) n1
 ·rintro ⟨p, hp, hk, ha, rfl⟩;have hn : ¬ (p : Int) ∈ Z0 (d.keep 0) 6 := fun hm => by
   have := ((V3 _ _ 6).1 hm).2.2;rw [ha] at this; cases this
  have e : d.clean.tell (p : Int) = (d.keep 0).tell (p : Int) := by
   rw [Jn h hp];unfold Ko;rw [if_neg (fun hc => hn (List.contains_iff_mem.1 hc))]
  exact ⟨p, hp, by rw [e]; exact hk, by rw [e]⟩
end Go.Proofs.Ytljogbielflgdac
