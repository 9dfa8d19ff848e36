import Derived.Test.YtpdnapbchcdhlacGreatRList
set_option maxHeartbeats 8000000
namespace Go.Proofs.YtpdnapbchcdhlacGreat
set_option maxRecDepth 100000
open Plain
variable {r : Rec}
theorem V8 {d : Dk} (h : d.Fine 0) : d.late = [] := List.eq_nil_of_length_eq_zero (by have := h.few; omega)
theorem Je {d : Dk} (h : d.Fine 0) {a : Nat} (ha : a < 12) : Yp d (a : Int) = d.blocks.getD a [] := by
 unfold Yp Dk.get;rw [if_neg (by have := h.len; omega), V8 h];simp [Qw]
theorem Zcd {d d' : Dk} (hl : d'.blocks.length = d.blocks.length) {p : Int} (h0 : Yp d' (2 * p) = Yp d (2 * p)) (h1 : Yp d' (2 * p + 1) = Yp d (2 * p + 1)) : d'.how p = d.how p ∧ d'.tell p = d.tell p := by
 unfold Dk.how Dk.tell K2 Yt Y5 Z5 Qa Dk.noPair;rw [h0, h1, hl]; exact ⟨rfl, rfl⟩
theorem Zb7 {d d' : Dk} {a : Int} (h : Yp d' a = Yp d a) : Z5 d' a = Z5 d a ∧ Y5 d' a = Y5 d a := by
 unfold Z5 Y5 Qa;rw [h]; exact ⟨rfl, rfl⟩
theorem Xb {d : Dk} (h : d.blocks.length = 12) {p : Nat} (hp : p < 6) : d.noPair (p : Int) = false := Zea (by omega) (by rw [h]; omega)
def Ka (d : Dk) (p : Nat) : Prop :=
 (∃ r : Rec, r.kind ≠ 1 ∧ Z5 d (2 * (p : Int)) = r ∧ Z5 d (2 * (p : Int) + 1) = r) ∨
 (∃ r : Rec, r.kind ≠ 1 ∧ (Z5 d (2 * (p : Int)) = r ∧ (Z5 d (2 * (p : Int) + 1)).kind = 1 ∨ Z5 d (2 * (p : Int) + 1) = r ∧ (Z5 d (2 * (p : Int))).kind = 1)) ∨
 ((Z5 d (2 * (p : Int))).kind = 1 ∧ (Z5 d (2 * (p : Int) + 1)).kind = 1 ∧ Y5 d (2 * (p : Int)) + Y5 d (2 * (p : Int) + 1) ≤ 1)
theorem Vx {d : Dk} {p : Int} (hn : d.noPair p = false) (h0 : (Z5 d (2 * p)).kind = 1) (h1 : (Z5 d (2 * p + 1)).kind = 1) : d.tell p = Rec.free ∧ (Y5 d (2 * p) + Y5 d (2 * p + 1) = 0 → d.how p = 0) ∧ (Y5 d (2 * p) + Y5 d (2 * p + 1) = 1 → d.how p = 3) := by
 have s0 := Qc h0;have s1 := Qc h1;unfold Dk.how Dk.tell;rw [hn, s0, s1];refine ⟨by simp, fun h => ?_, fun h => ?_⟩
 ·rw [h]; simp
 ·rw [h]; simp
theorem Zb4 {d : Dk} {p : Nat} (hn : d.noPair (p : Int) = false) (h : Ka d p) : d.how (p : Int) ≤ 3 := by
 rcases h with ⟨r, hr, h0, h1⟩ | ⟨r, hr, h⟩ | ⟨h0, h1, hb⟩
 ·rw [(Vs hn h0 h1 hr).1]; omega
 ·rw [(Vz hn hr h).1]; omega
 ·obtain ⟨-, k0, k1⟩ := Vx hn h0 h1;have := V0 d (2 * (p : Int));have := V0 d (2 * (p : Int) + 1);by_cases e : Y5 d (2 * (p : Int)) + Y5 d (2 * (p : Int) + 1) = 0
  ·rw [k0 e]; omega
  ·rw [k1 (by omega)]; omega
theorem Zao {d : Dk} {p : Nat} (hn : d.noPair (p : Int) = false) (h : d.how (p : Int) ≤ 3) : Ka d p := by
 unfold Dk.how at h;rw [hn, if_neg (by simp)] at h;by_cases k0 : (Z5 d (2 * (p : Int))).kind = 1
 ·have s0 := Qc k0;by_cases k1 : (Z5 d (2 * (p : Int) + 1)).kind = 1
  ·have s1 := Qc k1;rw [s0, s1, if_neg (by omega), if_neg (by omega)] at h;refine .inr (.inr ⟨k0, k1, ?_⟩);by_cases e0 : Y5 d (2 * (p : Int)) + Y5 d (2 * (p : Int) + 1) = 0
   ·omega
   ·rw [if_neg e0] at h;by_cases e1 : Y5 d (2 * (p : Int)) + Y5 d (2 * (p : Int) + 1) = 1
    ·omega
    ·rw [if_neg e1] at h; omega
  ·exact .inr (.inl ⟨_, k1, .inr ⟨rfl, k0⟩⟩)
 ·have s0 := Kg k0;by_cases k1 : (Z5 d (2 * (p : Int) + 1)).kind = 1
  ·exact .inr (.inl ⟨_, k0, .inl ⟨rfl, k1⟩⟩)
  ·have s1 := Kg k1;rw [s0, s1, if_pos (by omega)] at h;by_cases e : Q6 (Z5 d (2 * (p : Int))) (Z5 d (2 * (p : Int) + 1)) = true
   ·exact .inl ⟨_, k0, rfl, ((Zae _ _).1 e).symm⟩
   ·rw [if_neg e] at h; omega
def Dk.half (d : Dk) (p : Nat) (r : Rec) (x y : Bool) : Dk :=
 ⟨if y = true then (if x = true then d.blocks.set (2 * p) (blk r (2 * (p : Int))) else d.blocks).set (2 * p + 1) (blk r (2 * (p : Int) + 1)) else (if x = true then d.blocks.set (2 * p) (blk r (2 * (p : Int))) else d.blocks), []⟩
theorem Zs3 {d : Dk} (h : d.Fine 0) {p : Nat} (hp : p < 6) (hr : Z9 r = 0) : d.pairD (p : Int) r = ⟨d.blocks, [(2 * (p : Int), blk r (2 * (p : Int))), (2 * (p : Int) + 1, blk r (2 * (p : Int) + 1))]⟩ := by
 have he : d.pairE (p : Int) r = 0 := by rw [Zdd (by omega) (by rw [h.len]; omega), hr]
 unfold Dk.pairD;rw [if_pos he];unfold Dk.pairW;rw [V8 h]; rfl
theorem Zet {d : Dk} (h : d.Fine 0) {p : Nat} (hp : p < 6) (hr : Z9 r = 0) (on : Nat → Bool) : (⟨(d.pairD (p : Int) r).keepTo on (d.pairD (p : Int) r).late.length, []⟩ : Dk) = d.half p r (on 0) (on 1) := by
 rw [Zs3 h hp hr];have e0 : (2 * (p : Int)).toNat = 2 * p := by omega
 have e1 : (2 * (p : Int) + 1).toNat = 2 * p + 1 := by omega
 simp only [Dk.half, Dk.keepTo, List.length_cons, List.length_nil, List.getD_cons_zero, List.getD_cons_succ, e0, e1]
theorem Zhz {d : Dk} (h : d.Fine 0) {p : Nat} (hp : p < 6) (hr : Z9 r = 0) (bits : Int) : (d.pairD (p : Int) r).keep bits = d.half p r (Qb bits 0) (Qb bits 1) := Zet h hp hr _
theorem K9 {d : Dk} (h : d.Fine 0) {p : Nat} (hp : p < 6) (hr : Z9 r = 0) : (d.pairD (p : Int) r).flush = d.half p r true true := Zet h hp hr _
theorem Q0 {d : Dk} (h : d.Fine 0) {p : Nat} (_hp : p < 6) (hr : Z9 r = 0) (x y : Bool) : (d.half p r x y).Fine 0 := by
 have hl := h.len;refine ⟨?_, Nat.le_refl _, ?_, (fun x hx => by cases hx), (fun x hx => by cases hx)⟩
 ·unfold Dk.half;cases x <;> cases y <;> simp [hl]
 ·have key : ∀ (l : List (List UInt8)) (i : Nat) (a : Int), (∀ z ∈ l, z.length = 16) → ∀ z ∈ l.set i (blk r a), z.length = 16 := fun l i a hh z hz => by
   rcases List.mem_or_eq_of_mem_set hz with h1 | h1
   ·exact hh z h1
   ·rw [h1]; exact Zjf r a hr
  unfold Dk.half;cases x <;> cases y
  ·exact h.block
  ·exact key _ _ _ h.block
  ·exact key _ _ _ h.block
  ·exact key _ _ _ (key _ _ _ h.block)
theorem Zef (d : Dk) (h : d.Fine 0) (p : Nat) (r : Rec) : d.half p r false false = d := by
 have := V8 h;obtain ⟨b, l⟩ := d;simp only at this;subst this;rfl
theorem Zap {d : Dk} (h : d.Fine 0) {p : Nat} (hp : p < 6) (hr : Z9 r = 0) (x y : Bool) (a : Nat) (ha : a < 12) :
  Yp (d.half p r x y) (a : Int) = if a = 2 * p + 1 ∧ y = true then blk r (2 * (p : Int) + 1) else if a = 2 * p ∧ x = true then blk r (2 * (p : Int)) else Yp d (a : Int) := by
 have hl := h.len;rw [Je (Q0 h hp hr x y) ha, Je h ha];unfold Dk.half;cases x <;> cases y <;> simp only [Bool.false_eq_true, if_false, if_true, and_false, and_true]
 ·rw [Q8 _ _ _ _ _ (by omega)];by_cases e : 2 * p + 1 = a
  ·rw [if_pos e, if_pos e.symm]
  ·rw [if_neg e, if_neg (fun h => e h.symm)]
 ·rw [Q8 _ _ _ _ _ (by omega)];by_cases e : 2 * p = a
  ·rw [if_pos e, if_pos e.symm]
  ·rw [if_neg e, if_neg (fun h => e h.symm)]
 ·rw [Q8 _ _ _ _ _ (by rw [List.length_set]; omega), Q8 _ _ _ _ _ (by omega)];by_cases e : 2 * p + 1 = a
  ·rw [if_pos e, if_pos e.symm]
  ·have e' : ¬ a = 2 * p + 1 := fun h => e h.symm
   rw [if_neg e, if_neg e'];by_cases e2 : 2 * p = a
   ·rw [if_pos e2, if_pos e2.symm]
   ·have e2' : ¬ a = 2 * p := fun h => e2 h.symm
    rw [if_neg e2, if_neg e2']
theorem Qx {d : Dk} (h : d.Fine 0) {p q : Nat} (hp : p < 6) (hq : q < 6) (hne : q ≠ p) (hr : Z9 r = 0) (x y : Bool) : (d.half p r x y).how (q : Int) = d.how (q : Int) ∧ (d.half p r x y).tell (q : Int) = d.tell (q : Int) := by
 have h0 := Zap h hp hr x y (2 * q) (by omega);have h1 := Zap h hp hr x y (2 * q + 1) (by omega);rw [if_neg (by omega), if_neg (by omega)] at h0 h1;exact Zcd ((Q0 h hp hr x y).len.trans h.len.symm) (by simpa using h0) (by simpa using h1)
theorem Kl {d : Dk} (h : d.Fine 0) {p : Nat} (hp : p < 6) (hr : Z9 r = 0) (x y : Bool) :
  ((x = true → Z5 (d.half p r x y) (2 * (p : Int)) = r ∧ Y5 (d.half p r x y) (2 * (p : Int)) = 0) ∧ (x = false → Z5 (d.half p r x y) (2 * (p : Int)) = Z5 d (2 * (p : Int)) ∧ Y5 (d.half p r x y) (2 * (p : Int)) = Y5 d (2 * (p : Int)))) ∧
  ((y = true → Z5 (d.half p r x y) (2 * (p : Int) + 1) = r ∧ Y5 (d.half p r x y) (2 * (p : Int) + 1) = 0) ∧ (y = false → Z5 (d.half p r x y) (2 * (p : Int) + 1) = Z5 d (2 * (p : Int) + 1) ∧ Y5 (d.half p r x y) (2 * (p : Int) + 1) = Y5 d (2 * (p : Int) + 1))) := by
 have h0 := Zap h hp hr x y (2 * p) (by omega);have h1 := Zap h hp hr x y (2 * p + 1) (by omega);rw [if_neg (by omega)] at h0;have c0 : ((2 * p : Nat) : Int) = 2 * (p : Int) := by omega
 have c1 : ((2 * p + 1 : Nat) : Int) = 2 * (p : Int) + 1 := by omega
 rw [c0] at h0;rw [c1] at h1;have key : ∀ a : Int, 0 ≤ a → a ≤ 255 → Yp (d.half p r x y) a = blk r a → Z5 (d.half p r x y) a = r ∧ Y5 (d.half p r x y) a = 0 := fun a ha ha' hb => by
  obtain ⟨he, hR⟩ := Zkd r a hr ha ha';unfold Y5 Z5 Qa;rw [hb, if_pos he, if_pos he]; exact ⟨hR, rfl⟩
 refine ⟨⟨fun e => ?_, fun e => ?_⟩, fun e => ?_, fun e => ?_⟩
 ·rw [if_pos ⟨rfl, e⟩] at h0; exact key _ (by omega) (by omega) h0
 ·rw [if_neg (by simp [e])] at h0; exact Zb7 h0
 ·rw [if_pos ⟨rfl, e⟩] at h1; exact key _ (by omega) (by omega) h1
 ·rw [if_neg (by simp [e]), if_neg (by omega)] at h1; exact Zb7 h1
theorem Zfg {d : Dk} {p : Nat} (hn : d.noPair (p : Int) = false) (h : Ka d p) (hk : (d.tell (p : Int)).kind = 1) : (Z5 d (2 * (p : Int))).kind = 1 ∧ (Z5 d (2 * (p : Int) + 1)).kind = 1 ∧ Y5 d (2 * (p : Int)) + Y5 d (2 * (p : Int) + 1) ≤ 1 := by
 rcases h with ⟨r, hr, h0, h1⟩ | ⟨r, hr, h⟩ | h
 ·rw [(Vs hn h0 h1 hr).2] at hk; exact absurd hk hr
 ·rw [(Vz hn hr h).2] at hk; exact absurd hk hr
 ·exact h
theorem Zk3 {d : Dk} (h : d.Fine 0) {p : Nat} (hp : p < 6) (hr : Z9 r = 0) (hk : r.kind ≠ 1) (h3 : Ka d p) (ht : (d.tell (p : Int)).kind = 1) (x y : Bool) :
  Ka (d.half p r x y) p ∧ (d.half p r x y).tell (p : Int) = if (x || y) = true then r else d.tell (p : Int) := by
 have hn := Xb h.len hp;have hn' := Xb (Q0 h hp hr x y).len hp;obtain ⟨k0, k1, kb⟩ := Zfg hn h3 ht;obtain ⟨⟨a0, a1⟩, b0, b1⟩ := Kl h hp hr x y;cases x with
 | true =>
  cases y with
  | true => exact ⟨.inl ⟨r, hk, (a0 rfl).1, (b0 rfl).1⟩, (Vs hn' (a0 rfl).1 (b0 rfl).1 hk).2⟩
  | false =>
   have h2 : Z5 (d.half p r true false) (2 * (p : Int)) = r ∧ (Z5 (d.half p r true false) (2 * (p : Int) + 1)).kind = 1 := ⟨(a0 rfl).1, by rw [(b1 rfl).1]; exact k1⟩;exact ⟨.inr (.inl ⟨r, hk, .inl h2⟩), (Vz hn' hk (.inl h2)).2⟩
 | false =>
  cases y with
  | true =>
   have h2 : Z5 (d.half p r false true) (2 * (p : Int) + 1) = r ∧ (Z5 (d.half p r false true) (2 * (p : Int))).kind = 1 := ⟨(b0 rfl).1, by rw [(a1 rfl).1]; exact k0⟩;exact ⟨.inr (.inl ⟨r, hk, .inr h2⟩), (Vz hn' hk (.inr h2)).2⟩
  | false =>
   rw [Zef d h];exact ⟨h3, rfl⟩
theorem Zce {d : Dk} (h : d.Fine 0) {p : Nat} (hp : p < 6) (h3 : Ka d p) (x y : Bool) :
  Ka (d.half p Rec.free x y) p ∧ ((d.half p Rec.free x y).tell (p : Int) = d.tell (p : Int) ∨ (d.half p Rec.free x y).tell (p : Int) = Rec.free) ∧ (x = true → y = true → (d.half p Rec.free x y).tell (p : Int) = Rec.free ∧ (d.half p Rec.free x y).how (p : Int) = 0) := by
 have hn := Xb h.len hp;have hf : Z9 Rec.free = 0 := Q3;have hn' := Xb (Q0 h hp hf x y).len hp;obtain ⟨⟨a0, a1⟩, b0, b1⟩ := Kl h hp hf x y;have kf : Rec.free.kind = 1 := rfl;have bd0 := V0 d (2 * (p : Int));have bd1 := V0 d (2 * (p : Int) + 1);have both : x = true → y = true → Ka (d.half p Rec.free x y) p ∧ (d.half p Rec.free x y).tell (p : Int) = Rec.free ∧ (d.half p Rec.free x y).how (p : Int) = 0 := fun hx hy => by
  have c0 : (Z5 (d.half p Rec.free x y) (2 * (p : Int))).kind = 1 := by rw [(a0 hx).1]; rfl
  have c1 : (Z5 (d.half p Rec.free x y) (2 * (p : Int) + 1)).kind = 1 := by rw [(b0 hy).1]; rfl
  obtain ⟨t, k, -⟩ := Vx hn' c0 c1;exact ⟨.inr (.inr ⟨c0, c1, by rw [(a0 hx).2, (b0 hy).2]; omega⟩), t, k (by rw [(a0 hx).2, (b0 hy).2]; omega)⟩
 have none' : (Z5 (d.half p Rec.free x y) (2 * (p : Int))).kind = 1 → (Z5 (d.half p Rec.free x y) (2 * (p : Int) + 1)).kind = 1 → Y5 (d.half p Rec.free x y) (2 * (p : Int)) + Y5 (d.half p Rec.free x y) (2 * (p : Int) + 1) ≤ 1 → Ka (d.half p Rec.free x y) p ∧ (d.half p Rec.free x y).tell (p : Int) = Rec.free := fun c0 c1 hb => ⟨.inr (.inr ⟨c0, c1, hb⟩), (Vx hn' c0 c1).1⟩
 have one' : ∀ r : Rec, r.kind ≠ 1 → (Z5 (d.half p Rec.free x y) (2 * (p : Int)) = r ∧ (Z5 (d.half p Rec.free x y) (2 * (p : Int) + 1)).kind = 1 ∨ Z5 (d.half p Rec.free x y) (2 * (p : Int) + 1) = r ∧ (Z5 (d.half p Rec.free x y) (2 * (p : Int))).kind = 1) → Ka (d.half p Rec.free x y) p ∧ (d.half p Rec.free x y).tell (p : Int) = r := fun r hr hh => ⟨.inr (.inl ⟨r, hr, hh⟩), (Vz hn' hr hh).2⟩
 refine (fun (k : Ka (d.half p Rec.free x y) p ∧ ((d.half p Rec.free x y).tell (p : Int) = d.tell (p : Int) ∨ (d.half p Rec.free x y).tell (p : Int) = Rec.free)) => ⟨k.1, k.2, fun hx hy => (both hx hy).2⟩) ?_;cases hx : x with
 | false =>
  cases hy : y with
  | false => rw [Zef d h]; exact ⟨h3, .inl rfl⟩
  | true =>
   subst hx; subst hy;rcases h3 with ⟨r, hr, h0, h1⟩ | ⟨r, hr, ⟨h0, h1⟩ | ⟨h1, h0⟩⟩ | ⟨h0, h1, hb⟩
   ·obtain ⟨t1, t2⟩ := one' r hr (.inl ⟨by rw [(a1 rfl).1]; exact h0, by rw [(b0 rfl).1]; rfl⟩);exact ⟨t1, .inl (by rw [t2, (Vs hn h0 h1 hr).2])⟩
   ·obtain ⟨t1, t2⟩ := one' r hr (.inl ⟨by rw [(a1 rfl).1]; exact h0, by rw [(b0 rfl).1]; rfl⟩);exact ⟨t1, .inl (by rw [t2, (Vz hn hr (.inl ⟨h0, h1⟩)).2])⟩
   ·obtain ⟨t1, t2⟩ := none' (by rw [(a1 rfl).1]; exact h0) (by rw [(b0 rfl).1]; rfl) (by rw [(a1 rfl).2, (b0 rfl).2]; omega);exact ⟨t1, .inr t2⟩
   ·obtain ⟨t1, t2⟩ := none' (by rw [(a1 rfl).1]; exact h0) (by rw [(b0 rfl).1]; rfl) (by rw [(a1 rfl).2, (b0 rfl).2]; omega);exact ⟨t1, .inr t2⟩
 | true =>
  cases hy : y with
  | true => subst hx; subst hy; exact ⟨(both rfl rfl).1, .inr (both rfl rfl).2.1⟩
  | false =>
   subst hx; subst hy;rcases h3 with ⟨r, hr, h0, h1⟩ | ⟨r, hr, ⟨h0, h1⟩ | ⟨h1, h0⟩⟩ | ⟨h0, h1, hb⟩
   ·obtain ⟨t1, t2⟩ := one' r hr (.inr ⟨by rw [(b1 rfl).1]; exact h1, by rw [(a0 rfl).1]; rfl⟩);exact ⟨t1, .inl (by rw [t2, (Vs hn h0 h1 hr).2])⟩
   ·obtain ⟨t1, t2⟩ := none' (by rw [(a0 rfl).1]; rfl) (by rw [(b1 rfl).1]; exact h1) (by rw [(a0 rfl).2, (b1 rfl).2]; omega);exact ⟨t1, .inr t2⟩
   ·obtain ⟨t1, t2⟩ := one' r hr (.inr ⟨by rw [(b1 rfl).1]; exact h1, by rw [(a0 rfl).1]; rfl⟩);exact ⟨t1, .inl (by rw [t2, (Vz hn hr (.inr ⟨h1, h0⟩)).2])⟩
   ·obtain ⟨t1, t2⟩ := none' (by rw [(a0 rfl).1]; rfl) (by rw [(b1 rfl).1]; exact h1) (by rw [(a0 rfl).2, (b1 rfl).2]; omega);exact ⟨t1, .inr t2⟩
end Go.Proofs.YtpdnapbchcdhlacGreat
namespace Go.Proofs.YtpdnapbchcdhlacGreat
set_option maxRecDepth 100000
open Go.RowKit
open Plain Reg
variable {d : Dk} {n : Nat} {x : Sp}
def St.step (s : St) (x : Sp) : Zlx :=
 if x.kind = 1 then s.doS x.deed
 else if x.kind = 2 then (if (s.begin x.deed).e ≠ 0 then ⟨s, 0, (s.begin x.deed).e⟩ else ⟨X5 ((s.begin x.deed).st.dk.keep x.n), (s.begin x.deed).n, 0⟩)
 else if x.kind = 3 then (if x.n < 0 ∨ 192 ≤ x.n then ⟨s, 0, 3⟩ else ⟨⟨s.dk.spoil (x.n / 16) (x.n % 16) x.m, s.idx, s.next⟩, 0, 0⟩)
 else if x.kind = 4 then ⟨s.scrub, 0, 0⟩
 else if x.kind = 5 then ⟨X5 s.dk.clean, 0, 0⟩
 else if x.kind = 6 then ⟨X5 s.dk, 0, 0⟩
 else ⟨s, 0, 1⟩
structure St.At (s : St) : Prop where
 ok : s.Ok 0
 low : 0 ≤ s.next
 high : s.next < 6
theorem Zg3 (s : St) (d : Dd) : (s.begin d).st.next = s.next := by
 unfold St.begin;split
 ·rfl
 ·split
  ·rfl
  ·split <;> rfl
theorem Ze9 (s : St) (d : Dd) : (s.doS d).st.next = s.next := by
 unfold St.doS;split
 ·exact Zg3 s d
 ·exact Zg3 s d
theorem Zbo (h : d.Fine n) : (X5 d).At := ⟨Ztf h, Int.le_refl 0, (by decide : (0 : Int) < 6)⟩
theorem Zdv (h : d.Fine n) : d.clean.Fine 0 := Zbm (h.kept 0) _ _
theorem Zc6 {s : St} (h : s.At) : (s.step x).st.At := by
 unfold St.step;split
 ·exact ⟨Zwv h.ok, by rw [Ze9]; exact h.low, by rw [Ze9]; exact h.high⟩
 ·split
  ·split
   ·exact h
   ·exact Zbo ((Zau h.ok).disk.kept x.n)
  ·split
   ·split
    ·exact h
    ·exact ⟨⟨h.ok.disk.spoil _ _ _, h.ok.right, h.ok.six⟩, h.low, h.high⟩
   ·split
    ·refine ⟨Zse h.ok.disk, ?_, ?_⟩
     ·show 0 ≤ (s.next + 1) % 6; omega
     ·show (s.next + 1) % 6 < 6; omega
    ·split
     ·exact Zbo (Zdv h.ok.disk)
     ·split
      ·exact Zbo h.ok.disk
      ·exact h
theorem Zt0 (w : World) (a b : Array Value) (Ta Tb : TypeId) : Zn w (((w.alloc (.cells a Ta)).alloc (.cells b Tb)).alloc Y6) ∧ (((w.alloc (.cells a Ta)).alloc (.cells b Tb)).alloc Y6).heap[w.heap.size]? = some (.cells a Ta (0, 0)) ∧ (((w.alloc (.cells a Ta)).alloc (.cells b Tb)).alloc Y6).heap[w.heap.size + 1]? = some (.cells b Tb (0, 0)) ∧ (((w.alloc (.cells a Ta)).alloc (.cells b Tb)).alloc Y6).heap[w.heap.size + 2]? = some (.cells #[.slice none 0 0, .slice none 0 0, .slice none 0 0, .int .i64 0] 29 (0, 0)) ∧ Hid ((((w.alloc (.cells a Ta)).alloc (.cells b Tb)).alloc Y6).heap.size = w.heap.size + 3) := by
 have hs0 := Zg w a Ta;have hd0 := Zg (w.alloc (.cells a Ta)) b Tb;have hz1 := Zg ((w.alloc (.cells a Ta)).alloc (.cells b Tb)) #[.slice none 0 0, .slice none 0 0, .slice none 0 0, .int .i64 0] 29;have hs1 := ((Zp (w.alloc (.cells a Ta)) (.cells b Tb) Y6).block _ (Za hs0)).trans hs0;have hd1 := ((Zb ((w.alloc (.cells a Ta)).alloc (.cells b Tb)) Y6).block _ (Za hd0)).trans hd0;rw [World.size_alloc] at hd1;rw [World.size_alloc, World.size_alloc] at hz1;exact ⟨(Zp w (.cells a Ta) (.cells b Tb)).trans (Zb _ Y6), hs1, hd1, hz1, by show _ = _; simp⟩
structure Vk (S : Nat → Prop) (s : St) (x : Sp) (v : Value) (ad : Option Addr) (c : Nat) (w : World) : Prop where
 low : ∀ b, S b → b < w.heap.size
 sto : Z8 S s v w
 dat : Z0 S w (.slice ad x.deed.data.length c) x.deed.data
 mid : s.At
 few : x.deed.data.length ≤ 140737488355328
def X9 (F : FuncId) (S : Nat → Prop) (s : St) (x : Sp) (v : Value) (ad : Option Addr) (c : Nat) (w : World) : Prop :=
 Calls Tryz.prog F #[v, .agg #[.int .i64 x.kind, .int .i64 x.n, .int .i64 x.m, .int .i64 x.deed.kind, .int .i64 x.deed.key, .int .i64 x.deed.num, .slice ad x.deed.data.length c]] w fun r w' => ∃ v', r = .returned (.tuple #[v', .int .i64 (s.step x).n, .int .i64 (s.step x).e]) ∧ Z8 (Zs S w.heap.size) (s.step x).st v' w' ∧ Zn w w'
theorem Vk.pre {S : Nat → Prop} {s : St} {v : Value} {ad : Option Addr} {c : Nat} {w : World} (h : Vk S s x v ad c w) : ∃ ab cb al cl ai ci, v = .agg #[.slice ab s.dk.blocks.length cb, .slice al s.dk.late.length cl, .slice ai s.idx.length ci, .int .i64 s.next] ∧ Y0 S w (.slice ab s.dk.blocks.length cb) s.dk.blocks ∧ Xl S w (.slice al s.dk.late.length cl) s.dk.late ∧ Ys S w (.slice ai s.idx.length ci) s.idx ∧ ¬ Zs S (w.heap.size + 3) (w.heap.size + 2) ∧
  let w3 := ((w.alloc (.cells #[.slice ab s.dk.blocks.length cb, .slice al s.dk.late.length cl, .slice ai s.idx.length ci, .int .i64 s.next] 29)).alloc (.cells #[.int .i64 x.kind, .int .i64 x.n, .int .i64 x.m, .int .i64 x.deed.kind, .int .i64 x.deed.key, .int .i64 x.deed.num, .slice ad x.deed.data.length c] 49)).alloc Y6
  Zn w w3 ∧ w3.heap[w.heap.size]? = some (.cells #[.slice ab s.dk.blocks.length cb, .slice al s.dk.late.length cl, .slice ai s.idx.length ci, .int .i64 s.next] 29 (0, 0)) ∧ w3.heap[w.heap.size + 1]? = some (.cells #[.int .i64 x.kind, .int .i64 x.n, .int .i64 x.m, .int .i64 x.deed.kind, .int .i64 x.deed.key, .int .i64 x.deed.num, .slice ad x.deed.data.length c] 49 (0, 0)) ∧ w3.heap[w.heap.size + 2]? = some (.cells #[.slice none 0 0, .slice none 0 0, .slice none 0 0, .int .i64 0] 29 (0, 0)) ∧ Hid (w3.heap.size = w.heap.size + 3) := by
 obtain ⟨ab, cb, al, cl, ai, ci, rfl, hb, hl, hi⟩ := h.sto.form;exact ⟨ab, cb, al, cl, ai, ci, rfl, hb, hl, hi, Ym (fun b hb => by have := h.low b hb; omega) (by omega), Zt0 w _ _ _ _⟩
end Go.Proofs.YtpdnapbchcdhlacGreat
namespace Go.Proofs.YtpdnapbchcdhlacGreat
set_option maxRecDepth 100000
open Plain
variable {r : Rec}
theorem Zv4 {a b : Ent} (h : Y2 a b = true) : Y2 b a = false := by
 unfold Y2 at h ⊢;by_cases k : a.rc.key = b.rc.key
 ·rw [if_pos k] at h;rw [if_pos k.symm];by_cases v : a.rc.ver = b.rc.ver
  ·rw [if_pos v] at h;rw [if_pos v.symm];have := of_decide_eq_true h;exact decide_eq_false (by omega)
  ·rw [if_neg v] at h;rw [if_neg (fun e => v e.symm)];have := of_decide_eq_true h;exact decide_eq_false (by omega)
 ·rw [if_neg k] at h;rw [if_neg (fun e => k e.symm)];have := of_decide_eq_true h;exact decide_eq_false (by omega)
theorem Zik : ∀ l m : List Ent, l.Pairwise Ups → m.Pairwise Ups → (∀ x, x ∈ l ↔ x ∈ m) → l = m
 | [], [], _, _, _ => rfl
 | [], b :: m, _, _, h => absurd ((h b).2 (by simp)) (by simp)
 | a :: l, [], _, _, h => absurd ((h a).1 (by simp)) (by simp)
 | a :: l, b :: m, hl, hm, h => by
  obtain ⟨hl1, hl2⟩ := List.pairwise_cons.1 hl;obtain ⟨hm1, hm2⟩ := List.pairwise_cons.1 hm;have hab : a = b := by
   rcases List.mem_cons.1 ((h a).1 (by simp)) with e | e
   ·exact e
   ·rcases List.mem_cons.1 ((h b).2 (by simp)) with e2 | e2
    ·exact e2.symm
    ·have h1 := (hm1 a e).1;have h2 := (hl1 b e2).1;rw [Zv4 h1] at h2; cases h2
  subst hab
  congr 1
  refine Zik l m hl2 hm2 fun x => ⟨fun hx => ?_, fun hx => ?_⟩
  ·rcases List.mem_cons.1 ((h x).1 (by simp [hx])) with e | e
   ·subst e; exact absurd rfl (hl1 x hx).2
   ·exact e
  ·rcases List.mem_cons.1 ((h x).2 (by simp [hx])) with e | e
   ·subst e; exact absurd rfl (hm1 x hx).2
   ·exact e
theorem Zfs (d : Dk) : (Z3 d 6).Pairwise Ups := ((Xp _).1 (V3 d 6 (by omega))).1
theorem Zad {d d' : Dk} : ∀ n : Nat, (∀ q : Nat, q < n → d'.tell (q : Int) = d.tell (q : Int)) → Z3 d' n = Z3 d n
 | 0, _ => rfl
 | n + 1, h => by
  have ih := Zad n fun q hq => h q (by omega)
  unfold Z3;rw [h n (by omega), ih]
theorem Zsf {d d' : Dk} {p : Nat} (hp : p < 6) (hr : r.kind ≠ 1) (hold : (d.tell (p : Int)).kind = 1) (hnew : d'.tell (p : Int) = r) (hoth : ∀ q, q < 6 → q ≠ p → d'.tell (q : Int) = d.tell (q : Int)) (hwr : Z9 r = 0) : Z3 d' 6 = Xw ⟨r, (p : Int)⟩ (Z3 d 6) := by
 have hne : ∀ x ∈ Z3 d 6, x.pair ≠ (p : Int) := fun x hx => by
  obtain ⟨q, hq, hk, rfl⟩ := (Vq d x 6).1 hx;intro e;have e2 : (q : Int) = (p : Int) := e;have : q = p := by omega
  subst this;exact hk hold
 have hright : Qz (Xw ⟨r, (p : Int)⟩ (Z3 d 6)) = true := J8 (V3 d 6 (by omega)) ⟨hwr, hr, by show (0 : Int) ≤ (p : Int); omega, by show (p : Int) ≤ 1000; omega⟩ hne;refine Zik _ _ (Zfs d') ((Xp _).1 hright).1 fun x => ?_;rw [V6, Vq, Vq];constructor
 ·rintro ⟨q, hq, hk, rfl⟩;by_cases e : q = p
  ·subst e; left; rw [hnew]
  ·right; rw [hoth q hq e] at hk ⊢; exact ⟨q, hq, hk, rfl⟩
 ·rintro (rfl | ⟨q, hq, hk, rfl⟩)
  ·exact ⟨p, hp, by rw [hnew]; exact hr, by rw [hnew]⟩
  ·by_cases e : q = p
   ·subst e; exact absurd hold hk
   ·exact ⟨q, hq, by rw [hoth q hq e]; exact hk, by rw [hoth q hq e]⟩
theorem Zpp {d d' : Dk} {p : Nat} (hnew : (d'.tell (p : Int)).kind = 1) (hoth : ∀ q, q < 6 → q ≠ p → d'.tell (q : Int) = d.tell (q : Int)) : Z3 d' 6 = Q2 (Z3 d 6) (p : Int) := by
 refine Zik _ _ (Zfs d') ((Xp _).1 (Zgx (V3 d 6 (by omega)) (p : Int))).1 fun x => ?_;unfold Q2;rw [List.mem_filter, Vq, Vq];constructor
 ·rintro ⟨q, hq, hk, rfl⟩;by_cases e : q = p
  ·subst e; exact absurd hnew hk
  ·rw [hoth q hq e] at hk ⊢;exact ⟨⟨q, hq, hk, rfl⟩, decide_eq_true (by show (q : Int) ≠ (p : Int); omega)⟩
 ·rintro ⟨⟨q, hq, hk, rfl⟩, hd⟩;have hqp : q ≠ p := fun e => by
   have := of_decide_eq_true hd;exact this (by show (q : Int) = (p : Int); omega)
  exact ⟨q, hq, by rw [hoth q hq hqp]; exact hk, by rw [hoth q hq hqp]⟩
structure St.Inv (s : St) : Prop where
 at' : s.At
 three : ∀ p, p < 6 → Ka s.dk p
 idx : s.idx = Z3 s.dk 6
 once : ∀ p q, p < 6 → q < 6 → (s.dk.tell ((p : Nat) : Int)).kind ≠ 1 → (s.dk.tell ((q : Nat) : Int)).kind ≠ 1 → (s.dk.tell (p : Int)).ver = (s.dk.tell (q : Int)).ver → p = q
structure Dk.Good (d : Dk) : Prop where
 fine : d.Fine 0
 three : ∀ p, p < 6 → Ka d p
 once : ∀ p q, p < 6 → q < 6 → (d.tell ((p : Nat) : Int)).kind ≠ 1 → (d.tell ((q : Nat) : Int)).kind ≠ 1 → (d.tell (p : Int)).ver = (d.tell (q : Int)).ver → p = q
theorem St.Inv.good {s : St} (h : s.Inv) : s.dk.Good := ⟨h.at'.ok.disk, h.three, h.once⟩
theorem Dk.Good.keep0 {d : Dk} (h : d.Good) : d.keep 0 = d := by
 have hb := d.keep_none;have hl := V8 h.fine;obtain ⟨b, l⟩ := d;simp only at hl;subst hl;show (⟨(Dk.keep ⟨b, []⟩ 0).blocks, []⟩ : Dk) = _;rw [hb]
theorem Dk.Good.mount {d : Dk} (h : d.Good) : (X5 d).Inv := by
 have hk := h.keep0;have ha := Zbo h.fine;refine ⟨ha, ?_, rfl, ?_⟩
 ·show ∀ p, p < 6 → Ka (d.keep 0) p;rw [hk]; exact h.three
 ·show ∀ p q, p < 6 → q < 6 → ((d.keep 0).tell ((p : Nat) : Int)).kind ≠ 1 → ((d.keep 0).tell ((q : Nat) : Int)).kind ≠ 1 → ((d.keep 0).tell (p : Int)).ver = ((d.keep 0).tell (q : Int)).ver → p = q;rw [hk]; exact h.once
theorem Dk.Good.mounted {d : Dk} (h : d.Good) : X5 d = ⟨d, Z3 d 6, 0⟩ := by unfold X5; rw [h.keep0]
theorem Dk.Good.of {d d' : Dk} (h : d.Good) (hf : d'.Fine 0) (h3 : ∀ p, p < 6 → Ka d' p) (ht : ∀ p, p < 6 → d'.tell ((p : Nat) : Int) = d.tell (p : Int)) : d'.Good :=
 ⟨hf, h3, fun p q hp hq => by rw [ht p hp, ht q hq]; exact h.once p q hp hq⟩
theorem Dk.Good.put {d : Dk} (h : d.Good) {p : Nat} (hp : p < 6) (hr : Z9 r = 0) (hk : r.kind ≠ 1) (ht : (d.tell (p : Int)).kind = 1) (hv : ∀ q, q < 6 → (d.tell ((q : Nat) : Int)).kind ≠ 1 → (d.tell (q : Int)).ver ≠ r.ver) (x y : Bool) : (d.half p r x y).Good := by
 obtain ⟨h3, htell⟩ := Zk3 h.fine hp hr hk (h.three p hp) ht x y;have hoth : ∀ q, q < 6 → q ≠ p → (d.half p r x y).tell ((q : Nat) : Int) = d.tell (q : Int) := fun q hq hne => (Qx h.fine hp hq hne hr x y).2
 have hthree : ∀ q, q < 6 → Ka (d.half p r x y) q := fun q hq => by
  by_cases e : q = p
  ·subst e; exact h3
  ·have hn := Xb (Q0 h.fine hp hr x y).len hq;exact Zao hn (by rw [(Qx h.fine hp hq e hr x y).1]; exact Zb4 (Xb h.fine.len hq) (h.three q hq))
 refine ⟨Q0 h.fine hp hr x y, hthree, fun a b ha hb => ?_⟩;by_cases ea : a = p
 ·subst ea;by_cases eb : b = a
  ·intro _ _ _; exact eb.symm
  ·rw [hoth b hb eb, htell];intro k1 k2 k3;split at k1
   ·rename_i hxy;rw [if_pos hxy] at k3;exact absurd k3.symm (hv b hb k2)
   ·exact absurd ht k1
 ·by_cases eb : b = p
  ·subst eb;rw [hoth a ha ea, htell];intro k1 k2 k3;split at k2
   ·rename_i hxy;rw [if_pos hxy] at k3;exact absurd k3 (hv a ha k1)
   ·exact absurd ht k2
  ·rw [hoth a ha ea, hoth b hb eb]; exact h.once a b ha hb
theorem Dk.Good.free {d : Dk} (h : d.Good) {p : Nat} (hp : p < 6) (x y : Bool) : (d.half p Rec.free x y).Good := by
 obtain ⟨h3, htell, -⟩ := Zce h.fine hp (h.three p hp) x y;have hf : Z9 Rec.free = 0 := Q3;have hoth : ∀ q, q < 6 → q ≠ p → (d.half p Rec.free x y).tell ((q : Nat) : Int) = d.tell (q : Int) := fun q hq hne => (Qx h.fine hp hq hne hf x y).2
 have hthree : ∀ q, q < 6 → Ka (d.half p Rec.free x y) q := fun q hq => by
  by_cases e : q = p
  ·subst e; exact h3
  ·have hn := Xb (Q0 h.fine hp hf x y).len hq;exact Zao hn (by rw [(Qx h.fine hp hq e hf x y).1]; exact Zb4 (Xb h.fine.len hq) (h.three q hq))
 have hsub : ∀ q, q < 6 → ((d.half p Rec.free x y).tell ((q : Nat) : Int)).kind ≠ 1 → (d.half p Rec.free x y).tell ((q : Nat) : Int) = d.tell (q : Int) := fun q hq hk => by
  by_cases e : q = p
  ·subst e;rcases htell with e1 | e1
   ·exact e1
   ·rw [e1] at hk; exact absurd rfl hk
  ·exact hoth q hq e
 refine ⟨Q0 h.fine hp hf x y, hthree, fun a b ha hb k1 k2 k3 => ?_⟩;have e1 := hsub a ha k1;have e2 := hsub b hb k2;rw [e1] at k1 k3;rw [e2] at k2 k3;exact h.once a b ha hb k1 k2 k3
theorem Dk.Good.again {d : Dk} (h : d.Good) {p : Nat} (hp : p < 6) : (d.pairD (p : Int) (d.tell (p : Int))).flush.Good ∧ ∀ q, q < 6 → (d.pairD (p : Int) (d.tell (p : Int))).flush.tell ((q : Nat) : Int) = d.tell (q : Int) := by
 have hn := Xb h.fine.len hp;rw [K9 h.fine hp (Xt d _)];have key : ∀ q, q < 6 → (d.half p (d.tell (p : Int)) true true).tell ((q : Nat) : Int) = d.tell (q : Int) := fun q hq => by
  by_cases e : q = p
  ·subst e;by_cases hk : (d.tell (q : Int)).kind = 1
   ·have hfree : d.tell (q : Int) = Rec.free := by
     obtain ⟨k0, k1, -⟩ := Zfg hn (h.three q hq) hk;exact (Vx hn k0 k1).1
    rw [hfree];exact ((Zce h.fine hq (h.three q hq) true true).2.2 rfl rfl).1
   ·obtain ⟨⟨a0, -⟩, b0, -⟩ := Kl h.fine hq (Xt d (q : Int)) true true;exact (Vs (Xb (Q0 h.fine hq (Xt d (q : Int)) true true).len hq) (a0 rfl).1 (b0 rfl).1 hk).2
  ·exact (Qx h.fine hp hq e (Xt d (p : Int)) true true).2
 refine ⟨h.of (Q0 h.fine hp (Xt d _) true true) (fun q hq => ?_) key, key⟩;by_cases e : q = p
 ·subst e;obtain ⟨⟨a0, -⟩, b0, -⟩ := Kl h.fine hq (Xt d (q : Int)) true true;by_cases hk : (d.tell (q : Int)).kind = 1
  ·exact .inr (.inr ⟨by rw [(a0 rfl).1]; exact hk, by rw [(b0 rfl).1]; exact hk, by rw [(a0 rfl).2, (b0 rfl).2]; omega⟩)
  ·exact .inl ⟨_, hk, (a0 rfl).1, (b0 rfl).1⟩
 ·have hn' := Xb (Q0 h.fine hp (Xt d (p : Int)) true true).len hq;exact Zao hn' (by rw [(Qx h.fine hp hq e (Xt d (p : Int)) true true).1]; exact Zb4 (Xb h.fine.len hq) (h.three q hq))
theorem Dk.Good.flushed {d : Dk} (h : d.Good) : d.flush = d := by
 have hl := V8 h.fine;obtain ⟨b, l⟩ := d;simp only at hl;subst hl;rfl
theorem Dk.Good.mend {d : Dk} (h : d.Good) {p : Nat} (hp : p < 6) : (d.mendD (p : Int)).flush.Good ∧ ∀ q, q < 6 → (d.mendD (p : Int)).flush.tell ((q : Nat) : Int) = d.tell (q : Int) := by
 unfold Dk.mendD;by_cases h2 : 2 ≤ d.how (p : Int)
 ·rw [if_pos h2]; exact h.again hp
 ·rw [if_neg h2, h.flushed]; exact ⟨h, fun _ _ => rfl⟩
theorem Dk.Good.twice {d : Dk} (h : d.Good) : ∀ n, n ≤ 6 → Yl d n = []
 | 0, _ => rfl
 | n + 1, hn => by
  have ih := twice h n (by omega);unfold Yl;rw [if_neg, ih];rintro ⟨hk, ha⟩;have key : ∀ q, q ≤ n → X4 d n q = true → False := by
   intro q
   induction q with
   | zero => intro _ h; cases h
   | succ q ihq =>
    intro hq hh;unfold X4 at hh;simp only [Bool.or_eq_true] at hh;rcases hh with h1 | h1
    ·exact ihq (by omega) h1
    ·obtain ⟨k1, k2⟩ := of_decide_eq_true h1;have := h.once q n (by omega) (by omega) k1 hk k2;omega
  exact key n (Nat.le_refl _) ha
theorem Dk.Good.tidy {d : Dk} (h : d.Good) : ∀ n, n ≤ 6 → (Vd d [] n).Good ∧ ∀ q, q < 6 → (Vd d [] n).tell ((q : Nat) : Int) = d.tell (q : Int)
 | 0, _ => ⟨h, fun _ _ => rfl⟩
 | n + 1, hn => by
  obtain ⟨h1, h2⟩ := tidy h n (by omega);unfold Vd;rw [if_neg (by simp)];obtain ⟨h3, h4⟩ := h1.again (p := n) (by omega);exact ⟨h3, fun q hq => (h4 q hq).trans (h2 q hq)⟩
theorem Dk.Good.cleaned {d : Dk} (h : d.Good) : d.clean.Good ∧ ∀ q, q < 6 → d.clean.tell ((q : Nat) : Int) = d.tell (q : Int) := by
 unfold Dk.clean;rw [h.keep0, h.twice 6 (by omega)];exact h.tidy 6 (by omega)
theorem Zjp (b : List UInt8) (n y : Int) (hy : y % 256 = 0) : X2 b n y = b := by
 unfold X2;split
 ·rename_i h;have h0 : lo y = 0 := by
   apply UInt8.toNat_inj.1;have := Kk y;show (lo y).toNat = 0;omega
  rw [h0, UInt8.xor_zero, Qp _ _ _ (by omega)];exact List.set_getElem_self _
 ·rfl
theorem Zma {d : Dk} (h : d.Fine 0) (a : Nat) (ha : a < 12) (n m : Int) (b : Nat) (hb : b < 12) : Yp (d.spoil (a : Int) n m) (b : Int) = if b = a then X2 (Yp d (a : Int)) n m else Yp d (b : Int) := by
 have hl := h.len;rw [Je (h.spoil _ _ _) hb, Je h ha, Je h hb];unfold Dk.spoil;rw [if_pos (by omega)];show (d.blocks.set (a : Int).toNat _).getD b [] = _;have e : (a : Int).toNat = a := by omega
 rw [e, Q8 _ _ _ _ _ (by omega)];by_cases h1 : a = b
 ·rw [if_pos h1, if_pos h1.symm]
 ·rw [if_neg h1, if_neg (fun h => h1 h.symm)]
theorem Ztm {d : Dk} {p : Nat} (hn : d.noPair (p : Int) = false) (h3 : Ka d p) (hh : d.how (p : Int) < 2) : Qa d (2 * (p : Int)) = 0 ∧ Qa d (2 * (p : Int) + 1) = 0 := by
 have key : ∀ a, (Z5 d a).kind ≠ 1 → Qa d a = 0 := fun a hk => by
  by_cases e : Qa d a = 0
  ·exact e
  ·exact absurd (by rw [(Zfo e).1]; rfl) hk
 have key2 : ∀ a, Y5 d a = 0 → Qa d a = 0 := fun a hb => by
  by_cases e : Qa d a = 0
  ·exact e
  ·rw [(Zfo e).2] at hb; cases hb
 rcases h3 with ⟨r, hr, h0, h1⟩ | ⟨r, hr, h⟩ | ⟨h0, h1, hb⟩
 ·exact ⟨key _ (by rw [h0]; exact hr), key _ (by rw [h1]; exact hr)⟩
 ·rw [(Vz hn hr h).1] at hh; omega
 ·have b0 := V0 d (2 * (p : Int));have b1 := V0 d (2 * (p : Int) + 1);obtain ⟨-, k0, k1⟩ := Vx hn h0 h1;by_cases e : Y5 d (2 * (p : Int)) + Y5 d (2 * (p : Int) + 1) = 0
  ·exact ⟨key2 _ (by omega), key2 _ (by omega)⟩
  ·rw [k1 (by omega)] at hh; omega
theorem Dk.Good.spoilt {d : Dk} (h : d.Good) {p a : Nat} (hp : p < 6) (ha : a = 2 * p ∨ a = 2 * p + 1) (hh : d.how (p : Int) < 2) (n m : Int) (hn0 : 0 ≤ n) (hn1 : n < 16) : (d.spoil (a : Int) n m).Good ∧ ∀ q, q < 6 → (d.spoil (a : Int) n m).tell ((q : Nat) : Int) = d.tell (q : Int) := by
 have ha12 : a < 12 := by omega
 have hn := Xb h.fine.len hp;have hf := h.fine.spoil (a : Int) n m;have hn' := Xb hf.len hp;have h3 := h.three p hp;obtain ⟨l0, l1⟩ := Ztm hn h3 hh;have hside := fun b hb => Zma h.fine a ha12 n m b hb
 have hoth : ∀ q, q < 6 → q ≠ p → (d.spoil (a : Int) n m).how ((q : Nat) : Int) = d.how (q : Int) ∧ (d.spoil (a : Int) n m).tell ((q : Nat) : Int) = d.tell (q : Int) := fun q hq hne => by
  have h0 := hside (2 * q) (by omega);have h1 := hside (2 * q + 1) (by omega);rw [if_neg (by omega)] at h0 h1;exact Zcd (hf.len.trans h.fine.len.symm) (by simpa using h0) (by simpa using h1)
 have main : Ka (d.spoil (a : Int) n m) p ∧ (d.spoil (a : Int) n m).tell (p : Int) = d.tell (p : Int) := by
  have c0 : ((2 * p : Nat) : Int) = 2 * (p : Int) := by omega
  have c1 : ((2 * p + 1 : Nat) : Int) = 2 * (p : Int) + 1 := by omega
  have s0 := hside (2 * p) (by omega);have s1 := hside (2 * p + 1) (by omega);rw [c0] at s0;rw [c1] at s1;by_cases hm : m % 256 = 0
  ·rw [Zjp _ _ _ hm] at s0 s1;have e0 : Yp (d.spoil (a : Int) n m) (2 * (p : Int)) = Yp d (2 * (p : Int)) := by
    rw [s0]; split
    ·rename_i e; rw [← c0, e]
    ·rfl
   have e1 : Yp (d.spoil (a : Int) n m) (2 * (p : Int) + 1) = Yp d (2 * (p : Int) + 1) := by
    rw [s1]; split
    ·rename_i e; rw [← c1, e]
    ·rfl
   obtain ⟨k1, k2⟩ := Zcd (p := (p : Int)) (hf.len.trans h.fine.len.symm) e0 e1;exact ⟨Zao hn' (by rw [k1]; omega), k2⟩
  ·have bad : Qa d (a : Int) = 0 → Z5 (d.spoil (a : Int) n m) (a : Int) = Rec.free ∧ Y5 (d.spoil (a : Int) n m) (a : Int) = 1 := fun he => by
    obtain ⟨hw, hbk⟩ := Zg2 (Yp d (a : Int)) (a : Int) he;have hs := hside a ha12;rw [if_pos rfl, ← hbk] at hs;refine Zjw (r := Y3 (Yp d (a : Int)) (a : Int)) (n := n) (y := m) ?_ hw hn0 (by rw [Zjf _ _ hw]; exact hn1) hm;have hg : ∃ z, (d.spoil (a : Int) n m).get (a : Int) = some z := by
     unfold Dk.get;rw [if_neg (by have := hf.len; omega)];exact ⟨_, rfl⟩
    obtain ⟨z, hz⟩ := hg;have hz2 : Yp (d.spoil (a : Int) n m) (a : Int) = z := by unfold Yp; rw [hz]; rfl
    rw [hz2] at hs;rw [hz, hs]
   have kf : Rec.free.kind = 1 := rfl;rcases ha with rfl | rfl
   ·have hb := bad (by rw [c0]; exact l0);rw [c0] at hb;rw [if_neg (by omega)] at s1;obtain ⟨t1, t2⟩ := Zb7 s1;rw [c0] at t1 t2;rcases h3 with ⟨r, hr, h0, h1⟩ | ⟨r, hr, hx⟩ | ⟨h0, h1, hbs⟩
    ·have hh2 : Z5 (d.spoil (2 * (p : Int)) n m) (2 * (p : Int) + 1) = r ∧ (Z5 (d.spoil (2 * (p : Int)) n m) (2 * (p : Int))).kind = 1 := ⟨by rw [t1]; exact h1, by rw [hb.1]; rfl⟩;rw [c0] at hn' ⊢;exact ⟨.inr (.inl ⟨r, hr, .inr hh2⟩), by rw [(Vz hn' hr (.inr hh2)).2, (Vs hn h0 h1 hr).2]⟩
    ·rw [(Vz hn hr hx).1] at hh; omega
    ·have b1 : Y5 d (2 * (p : Int) + 1) = 0 := by unfold Y5; rw [if_pos l1]
     rw [c0] at hn' ⊢;have g0 : (Z5 (d.spoil (2 * (p : Int)) n m) (2 * (p : Int))).kind = 1 := by rw [hb.1]; rfl
     have g1 : (Z5 (d.spoil (2 * (p : Int)) n m) (2 * (p : Int) + 1)).kind = 1 := by rw [t1]; exact h1
     exact ⟨.inr (.inr ⟨g0, g1, by rw [hb.2, t2, b1]; omega⟩), by rw [(Vx hn' g0 g1).1, (Vx hn h0 h1).1]⟩
   ·have hb := bad (by rw [c1]; exact l1);rw [c1] at hb;rw [if_neg (by omega)] at s0;obtain ⟨t1, t2⟩ := Zb7 s0;rw [c1] at t1 t2;rcases h3 with ⟨r, hr, h0, h1⟩ | ⟨r, hr, hx⟩ | ⟨h0, h1, hbs⟩
    ·have hh2 : Z5 (d.spoil (2 * (p : Int) + 1) n m) (2 * (p : Int)) = r ∧ (Z5 (d.spoil (2 * (p : Int) + 1) n m) (2 * (p : Int) + 1)).kind = 1 := ⟨by rw [t1]; exact h0, by rw [hb.1]; rfl⟩;rw [c1] at hn' ⊢;exact ⟨.inr (.inl ⟨r, hr, .inl hh2⟩), by rw [(Vz hn' hr (.inl hh2)).2, (Vs hn h0 h1 hr).2]⟩
    ·rw [(Vz hn hr hx).1] at hh; omega
    ·have b1 : Y5 d (2 * (p : Int)) = 0 := by unfold Y5; rw [if_pos l0]
     rw [c1] at hn' ⊢;have g1 : (Z5 (d.spoil (2 * (p : Int) + 1) n m) (2 * (p : Int) + 1)).kind = 1 := by rw [hb.1]; rfl
     have g0 : (Z5 (d.spoil (2 * (p : Int) + 1) n m) (2 * (p : Int))).kind = 1 := by rw [t1]; exact h0
     exact ⟨.inr (.inr ⟨g0, g1, by rw [hb.2, t2, b1]; omega⟩), by rw [(Vx hn' g0 g1).1, (Vx hn h0 h1).1]⟩
 refine ⟨h.of hf (fun q hq => ?_) (fun q hq => ?_), fun q hq => ?_⟩
 ·by_cases e : q = p
  ·subst e; exact main.1
  ·exact Zao (Xb hf.len hq) (by rw [(hoth q hq e).1]; exact Zb4 (Xb h.fine.len hq) (h.three q hq))
 ·by_cases e : q = p
  ·subst e; exact main.2
  ·exact (hoth q hq e).2
 ·by_cases e : q = p
  ·subst e; exact main.2
  ·exact (hoth q hq e).2
variable {d : Dd}
theorem Zk2 (e : Ent) : ∀ l : List Ent, (Zbt e l).length = l.length + 1
 | [] => rfl
 | x :: l => by
  unfold Zbt;split
  ·rfl
  ·simp [Zk2 e l]
theorem Zo6 : ∀ (l : List Ent) (i : Nat) (h : i < l.length), l.Pairwise Ups → Q2 l l[i].pair = l.take i ++ l.drop (i + 1)
 | a :: l, 0, _, hp => by
  obtain ⟨h1, _⟩ := List.pairwise_cons.1 hp;unfold Q2;simp only [List.getElem_cons_zero, List.take_zero, List.nil_append, List.drop_succ_cons, List.drop_zero];rw [List.filter_cons_of_neg (by simp), List.filter_eq_self];intro x hx;exact decide_eq_true (fun e => (h1 x hx).2 e.symm)
 | a :: l, i + 1, h, hp => by
  obtain ⟨h1, h2⟩ := List.pairwise_cons.1 hp;have hi : i < l.length := by simpa using h
  have ih := Zo6 l i hi h2;unfold Q2 at ih ⊢;simp only [List.getElem_cons_succ, List.take_succ_cons, List.drop_succ_cons, List.cons_append];rw [List.filter_cons_of_pos (by exact decide_eq_true (h1 _ (List.getElem_mem hi)).2), ih]
theorem Ze8 {s : St} (h : s.Inv) (x : Ent) : x ∈ s.idx ↔ ∃ p : Nat, p < 6 ∧ (s.dk.tell (p : Int)).kind ≠ 1 ∧ x = ⟨s.dk.tell (p : Int), (p : Int)⟩ := by rw [h.idx]; exact Vq s.dk x 6
theorem Zsn {s : St} (h : s.Inv) (r : Rec) : r ∈ s.recs ↔ ∃ p : Nat, p < 6 ∧ (s.dk.tell (p : Int)).kind ≠ 1 ∧ r = s.dk.tell (p : Int) := by
 unfold St.recs;rw [List.mem_map];constructor
 ·rintro ⟨x, hx, rfl⟩;obtain ⟨p, hp, hk, rfl⟩ := (Ze8 h x).1 hx;exact ⟨p, hp, hk, rfl⟩
 ·rintro ⟨p, hp, hk, rfl⟩;exact ⟨_, (Ze8 h _).2 ⟨p, hp, hk, rfl⟩, rfl⟩
theorem Zv6 {s : St} (h : s.Inv) : s.idx.Pairwise Ups := by rw [h.idx]; exact Zfs s.dk
theorem Zrc {s : St} (h : s.Inv) (hw : Yq d = 0) (hk : d.kind ≠ 3) (he : (doR s.recs d).e = 0) :
  ∃ p : Nat, p < 6 ∧ Xu s.idx = p ∧ doR s.recs d = ⟨s.recs ++ [Y1 d (Xy s.recs)], Xy s.recs, 0⟩ ∧ Z9 (Y1 d (Xy s.recs)) = 0 ∧ (Y1 d (Xy s.recs)).kind ≠ 1 ∧ (s.dk.tell (p : Int)).kind = 1 ∧ ∀ q : Nat, q < 6 → (s.dk.tell (q : Int)).kind ≠ 1 → (s.dk.tell (q : Int)).ver ≠ (Y1 d (Xy s.recs)).ver := by
 obtain ⟨h5, hn, h6⟩ := Zdm hk he;have hl5 : s.idx.length ≤ 5 := by simpa [St.recs] using h5
 obtain ⟨hL, hL5⟩ := Za6 (l := s.idx) (by omega);have hm := Zcx (n := Xy s.recs) hw hk Ze7.1 h6;refine ⟨Xu s.idx, by omega, rfl, ?_, hm.1, hm.2, ?_, fun q hq hkq => ?_⟩
 ·unfold doR;rw [if_neg hk, if_neg (by omega), if_neg (by omega)]
 ·by_cases e : (s.dk.tell ((Xu s.idx : Nat) : Int)).kind = 1
  ·exact e
  ·exact absurd rfl (hL.2 _ ((Ze8 h _).2 ⟨_, by omega, e, rfl⟩))
 ·have := Ze7.2 _ ((Zsn h _).2 ⟨q, hq, hkq, rfl⟩);show _ ≠ Xy s.recs;omega
theorem Zln {s : St} (h : s.Inv) (hk : d.kind = 3) (he : (doR s.recs d).e = 0) :
  ∃ p : Nat, p < 6 ∧ Kb d s.idx = (p : Int) ∧ (doR s.recs d).l = (Q2 s.idx (p : Int)).map Ent.rc ∧ (doR s.recs d).n = d.num ∧ (s.dk.tell (p : Int)).kind ≠ 1 := by
 unfold doR at he ⊢;rw [if_pos hk] at he ⊢;cases hf : s.recs.findIdx? (Q9 d) with
 | none => rw [hf] at he; cases he
 | some i =>
  simp only;obtain ⟨hi, hfi, hlt⟩ := List.findIdx?_eq_some_iff_getElem.1 hf;have hil : i < s.idx.length := by simpa [St.recs] using hi
  have hget : s.recs[i] = s.idx[i].rc := by simp [St.recs]
  have hfind : s.idx.find? (Zba d) = some s.idx[i] := by
   rw [List.find?_eq_some_iff_getElem];refine ⟨?_, i, hil, rfl, fun j hj => ?_⟩
   ·have : Q9 d s.recs[i] = true := hfi;rw [hget] at this; exact this
   ·have hjl : j < s.recs.length := by omega
    have h1 := hlt j hj;have : s.recs[j] = s.idx[j].rc := by simp [St.recs]
    rw [this] at h1;have h2 : ¬ Q9 d s.idx[j].rc = true := h1;show (!Q9 d s.idx[j].rc) = true;simpa using h2
  obtain ⟨p, hp, hkp, hx⟩ := (Ze8 h _).1 (List.getElem_mem hil);have hpair : s.idx[i].pair = (p : Int) := by rw [hx]
  refine ⟨p, hp, ?_, ?_, trivial, hkp⟩
  ·unfold Kb;rw [if_pos hk, hfind];exact hpair
  ·rw [← hpair, Zo6 s.idx i hil (Zv6 h)];simp [St.recs]
structure Zy2 (s : St) (d : Dd) (p : Nat) (r : Rec) : Prop where
 p6 : p < 6
 right : Z9 r = 0
 disk : (s.begin d).st.dk = s.dk.pairD (p : Int) r
 next : (s.begin d).st.next = s.next
 n : (s.begin d).n = (doR s.recs d).n
 good : ∀ x y, (s.dk.half p r x y).Good
 same : ∀ x y, (∀ q : Nat, q < 6 → (s.dk.half p r x y).tell (q : Int) = s.dk.tell (q : Int)) ∨ (Z3 (s.dk.half p r x y) 6 = (s.begin d).st.idx)
 whole : Z3 (s.dk.half p r true true) 6 = (s.begin d).st.idx
 recs : Zdz (s.begin d).st.recs (doR s.recs d).l = true
theorem Zc2 {s : St} (h : s.Inv) (he : (s.begin d).e = 0) : ∃ p r, Zy2 s d p r := by
 have hg := h.good;unfold St.begin at he;by_cases hw : Yq d = 0
 ·rw [if_neg (by simpa using hw)] at he;by_cases hr : (doR s.recs d).e = 0
  ·have hb : s.begin d = if d.kind = 3 then ⟨⟨s.dk.pairD (Kb d s.idx) Rec.free, Q2 s.idx (Kb d s.idx), s.next⟩, (doR s.recs d).n, 0⟩ else ⟨⟨s.dk.pairD (Xu s.idx) (Y1 d (doR s.recs d).n), Xw ⟨Y1 d (doR s.recs d).n, (Xu s.idx : Nat)⟩ s.idx, s.next⟩, (doR s.recs d).n, 0⟩ := by
    unfold St.begin;rw [if_neg (by simpa using hw), if_neg (by simpa using hr)]
   by_cases hk : d.kind = 3
   ·rw [if_pos hk] at hb;obtain ⟨p, hp, hat, hl, hn, hkp⟩ := Zln h hk hr;rw [hat] at hb;have hoth : ∀ x y q, q < 6 → q ≠ p → (s.dk.half p Rec.free x y).tell ((q : Nat) : Int) = s.dk.tell (q : Int) := fun x y q hq hne => (Qx hg.fine hp hq hne Q3 x y).2
    have hdrop : ∀ x y, (s.dk.half p Rec.free x y).tell (p : Int) = Rec.free → Z3 (s.dk.half p Rec.free x y) 6 = Q2 s.idx (p : Int) := fun x y ht => by
     rw [h.idx]; exact Zpp (by rw [ht]; rfl) (hoth x y)
    refine ⟨p, Rec.free, hp, Q3, by rw [hb], by rw [hb], by rw [hb], fun x y => hg.free hp x y, fun x y => ?_, ?_, ?_⟩
    ·rcases (Zce hg.fine hp (hg.three p hp) x y).2.1 with e | e
     ·left; intro q hq;by_cases eq : q = p
      ·subst eq; exact e
      ·exact hoth x y q hq eq
     ·right; rw [hb]; exact hdrop x y e
    ·rw [hb]; exact hdrop true true ((Zce hg.fine hp (hg.three p hp) true true).2.2 rfl rfl).1
    ·rw [hb, hl]; exact Zjz _
   ·rw [if_neg hk] at hb;obtain ⟨p, hp, hlf, hdo, hwm, hkm, ht, hv⟩ := Zrc h hw hk hr;have hn : (doR s.recs d).n = Xy s.recs := by rw [hdo]
    rw [hlf, hn] at hb;have hoth : ∀ x y q, q < 6 → q ≠ p → (s.dk.half p (Y1 d (Xy s.recs)) x y).tell ((q : Nat) : Int) = s.dk.tell (q : Int) := fun x y q hq hne => (Qx hg.fine hp hq hne hwm x y).2
    have hput : ∀ x y, (x || y) = true → Z3 (s.dk.half p (Y1 d (Xy s.recs)) x y) 6 = Xw ⟨Y1 d (Xy s.recs), (p : Int)⟩ s.idx := fun x y hxy => by
     rw [h.idx];refine Zsf hp hkm ht ?_ (hoth x y) hwm;rw [(Zk3 hg.fine hp hwm hkm (hg.three p hp) ht x y).2, if_pos hxy]
    refine ⟨p, Y1 d (Xy s.recs), hp, hwm, by rw [hb], by rw [hb], by rw [hb, hn], fun x y => hg.put hp hwm hkm ht hv x y, fun x y => ?_, ?_, ?_⟩
    ·by_cases hxy : (x || y) = true
     ·right; rw [hb]; exact hput x y hxy
     ·left;obtain ⟨rfl, rfl⟩ : x = false ∧ y = false := by simpa using hxy
      rw [Zef s.dk hg.fine]; intro _ _; rfl
    ·rw [hb]; exact hput true true rfl
    ·rw [hb, hdo];unfold Zdz;rw [Bool.and_eq_true, List.all_eq_true];refine ⟨fun r hr => ?_, decide_eq_true ?_⟩
     ·unfold Zlp;rw [List.any_eq_true];refine ⟨r, ?_, (Zae _ _).2 rfl⟩;obtain ⟨x, hx, rfl⟩ := List.mem_map.1 hr;rcases (V6 _ _ _).1 hx with rfl | hx
      ·exact List.mem_append_right _ (by simp)
      ·exact List.mem_append_left _ (List.mem_map_of_mem hx)
     ·show ((Xw _ s.idx).map Ent.rc).length = (s.recs ++ [_]).length;rw [List.length_map, Jz, Zk2];simp [St.recs]
  ·rw [if_pos (by simpa using hr)] at he; exact absurd he hr
 ·rw [if_pos (by simpa using hw)] at he; exact absurd he hw
theorem Zeh {s : St} (he : (s.begin d).e ≠ 0) : (s.begin d).st = s ∧ (s.begin d).n = 0 ∧ (Yq d = 0 → (s.begin d).e = (doR s.recs d).e ∧ (doR s.recs d).l = s.recs ∧ (doR s.recs d).n = 0) ∧ (Yq d ≠ 0 → (s.begin d).e = Yq d) := by
 unfold St.begin at he ⊢;by_cases hw : Yq d = 0
 ·rw [if_neg (by simpa using hw)] at he ⊢;by_cases hr : (doR s.recs d).e = 0
  ·rw [if_neg (by simpa using hr)] at he;exfalso;split at he <;> exact he rfl
  ·rw [if_pos (by simpa using hr)];refine ⟨rfl, rfl, fun _ => ⟨rfl, ?_⟩, fun h => absurd hw h⟩;unfold doR at hr ⊢;split
   ·split
    ·rename_i h3 _ i hf; rw [if_pos h3, hf] at hr; exact absurd rfl hr
    ·exact ⟨rfl, rfl⟩
   ·rename_i h3;split
    ·exact ⟨rfl, rfl⟩
    ·split
     ·exact ⟨rfl, rfl⟩
     ·rename_i h5 h6; rw [if_neg h3, if_neg h5, if_neg h6] at hr; exact absurd rfl hr
 ·rw [if_pos (by simpa using hw)];exact ⟨rfl, rfl, fun h => absurd h hw, fun _ => rfl⟩
theorem Zg4 {s : St} (he : (s.begin d).e = 0) : Yq d = 0 ∧ (doR s.recs d).e = 0 := by
 unfold St.begin at he;by_cases hw : Yq d = 0
 ·refine ⟨hw, ?_⟩;rw [if_neg (by simpa using hw)] at he;by_cases hr : (doR s.recs d).e = 0
  ·exact hr
  ·rw [if_pos (by simpa using hr)] at he; exact absurd he hr
 ·rw [if_pos (by simpa using hw)] at he; exact absurd he hw
theorem Zt1 {s : St} (h : s.Inv) (d : Dd) : (s.doS d).st.Inv := by
 have hat : (s.doS d).st.At := ⟨Zwv h.at'.ok, by rw [Ze9]; exact h.at'.low, by rw [Ze9]; exact h.at'.high⟩;by_cases he : (s.begin d).e = 0
 ·obtain ⟨p, r, H⟩ := Zc2 h he;have hst : (s.doS d).st = ⟨s.dk.half p r true true, (s.begin d).st.idx, (s.begin d).st.next⟩ := by
   unfold St.doS;rw [if_pos he, H.disk, K9 h.good.fine H.p6 H.right]
  have hg := H.good true true;rw [hst] at hat ⊢;exact ⟨hat, hg.three, H.whole.symm, hg.once⟩
 ·have hst : (s.doS d).st = s := by unfold St.doS; rw [if_neg he]; exact (Zeh he).1
  rw [hst]; exact h
theorem Znp {s : St} (h : s.Inv) (he : (s.begin d).e = 0) (bits : Int) : ((s.begin d).st.dk.keep bits).Good ∧ ((X5 ((s.begin d).st.dk.keep bits)).recs = s.recs ∨ Zdz (X5 ((s.begin d).st.dk.keep bits)).recs (doR s.recs d).l = true) := by
 obtain ⟨p, r, H⟩ := Zc2 h he;have hk : (s.begin d).st.dk.keep bits = s.dk.half p r (Qb bits 0) (Qb bits 1) := by rw [H.disk, Zhz h.good.fine H.p6 H.right]
 rw [hk];have hg := H.good (Qb bits 0) (Qb bits 1);refine ⟨hg, ?_⟩;unfold St.recs;rw [hg.mounted];rcases H.same (Qb bits 0) (Qb bits 1) with e | e
 ·left;show (Z3 _ 6).map Ent.rc = _;rw [Zad 6 e, h.idx]
 ·right;show Zdz ((Z3 _ 6).map Ent.rc) _ = true;rw [e]; exact H.recs
theorem Ztd : Dk.new.Good := by
 have hside : ∀ a : Nat, a < 12 → Z5 Dk.new (a : Int) = Rec.free ∧ Y5 Dk.new (a : Int) = 0 := fun a ha => by
  refine Zfn ?_ Q3 (by omega) (by omega);have h1 := Zvz (a : Int) (by omega) (by omega);unfold Dk.get;rw [if_neg (by show ¬ ((a : Int) < 0 ∨ ((Dk.new.blocks.length : Nat) : Int) ≤ (a : Int)); rw [Zak.len]; omega)];show some ((Qw [] _).getD _) = _;simp only [Qw];rw [← h1]; rfl
 have hfree : ∀ p, p < 6 → Ka Dk.new p ∧ (Dk.new.tell ((p : Nat) : Int)).kind = 1 := fun p hp => by
  have h0 := hside (2 * p) (by omega);have h1 := hside (2 * p + 1) (by omega);rw [show ((2 * p : Nat) : Int) = 2 * (p : Int) by omega] at h0;rw [show ((2 * p + 1 : Nat) : Int) = 2 * (p : Int) + 1 by omega] at h1;have k0 : (Z5 Dk.new (2 * (p : Int))).kind = 1 := by rw [h0.1]; rfl
  have k1 : (Z5 Dk.new (2 * (p : Int) + 1)).kind = 1 := by rw [h1.1]; rfl
  exact ⟨.inr (.inr ⟨k0, k1, by rw [h0.2, h1.2]; omega⟩), by rw [(Vx (Xb Zak.len hp) k0 k1).1]; rfl⟩
 exact ⟨Zak, fun p hp => (hfree p hp).1, fun p q hp _ hk => absurd (hfree p hp).2 hk⟩
theorem Zvy : Xg.Inv := Ztd.mount
theorem Zfj {s : St} (h : s.Inv) {x : Sp} (hx : Vf s x = true) : (s.step x).st.Inv := by
 have hg := h.good;have hat := Zc6 (x := x) h.at';unfold St.step at hat ⊢;split at hat
 ·rw [if_pos (by assumption)]; exact Zt1 h x.deed
 ·rename_i k1;rw [if_neg k1];split at hat
  ·rename_i k2;rw [if_pos k2];by_cases he : (s.begin x.deed).e = 0
   ·rw [if_neg (by simpa using he)];exact (Znp h he x.n).1.mount
   ·rw [if_pos he]; exact h
  ·rename_i k2;rw [if_neg k2];split at hat
   ·rename_i k3;rw [if_pos k3];by_cases hr : x.n < 0 ∨ 192 ≤ x.n
    ·rw [if_pos hr]; exact h
    ·rw [if_neg hr] at hat ⊢;have hlow : s.dk.how (x.n / 32) < 2 := by
      unfold Vf at hx;rw [if_neg (by omega)] at hx;exact of_decide_eq_true hx
     have c1 : (((x.n / 32).toNat : Nat) : Int) = x.n / 32 := by omega
     have c2 : (((x.n / 16).toNat : Nat) : Int) = x.n / 16 := by omega
     obtain ⟨h1, h2⟩ := hg.spoilt (p := (x.n / 32).toNat) (a := (x.n / 16).toNat) (by omega) (by omega) (by rw [c1]; exact hlow) (x.n % 16) x.m (by omega) (by omega);rw [c2] at h1 h2;exact ⟨hat, h1.three, by show s.idx = Z3 _ 6; rw [Zad 6 h2, h.idx], h1.once⟩
   ·rename_i k3;rw [if_neg k3];split at hat
    ·rename_i k4;rw [if_pos k4];have c1 : ((s.next.toNat : Nat) : Int) = s.next := by have := h.at'.low; omega
     obtain ⟨h1, h2⟩ := hg.mend (p := s.next.toNat) (by have := h.at'.high; omega);rw [c1] at h1 h2;exact ⟨hat, h1.three, rfl, h1.once⟩
    ·rename_i k4;rw [if_neg k4];split at hat
     ·rename_i k5;rw [if_pos k5]; exact hg.cleaned.1.mount
     ·rename_i k5;rw [if_neg k5];split at hat
      ·rename_i k6;rw [if_pos k6]; exact hg.mount
      ·rename_i k6;rw [if_neg k6]; exact h
end Go.Proofs.YtpdnapbchcdhlacGreat
