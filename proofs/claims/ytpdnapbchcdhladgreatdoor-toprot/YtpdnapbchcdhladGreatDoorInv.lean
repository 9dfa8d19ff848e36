import Derived.Test.YtpdnapbchcdhladGreatDoorRDo
set_option maxHeartbeats 8000000
namespace Go.Proofs.YtpdnapbchcdhladGreatDoor
set_option maxRecDepth 100000
open Plain
variable {r : Rec}
theorem K0 {d : Dk} (h : d.Fine 0) : d.late = [] := List.eq_nil_of_length_eq_zero (by have := h.few; omega)
theorem Za8 {d : Dk} (h : d.Fine 0) {a : Nat} (ha : a < 12) : Y9 d (a : Int) = d.blocks.getD a [] := by
 unfold Y9 Dk.get;rw [if_neg (by have := h.len; omega), K0 h];simp [Vy]
theorem Zbz {d d' : Dk} (hl : d'.blocks.length = d.blocks.length) {p : Int} (h0 : Y9 d' (2 * p) = Y9 d (2 * p)) (h1 : Y9 d' (2 * p + 1) = Y9 d (2 * p + 1)) : d'.how p = d.how p ∧ d'.tell p = d.tell p := by
 unfold Dk.how Dk.tell Zcw X8 Xi Yb Qq Dk.noPair;rw [h0, h1, hl]; exact ⟨rfl, rfl⟩
theorem Zbs {d d' : Dk} {a : Int} (h : Y9 d' a = Y9 d a) : Yb d' a = Yb d a ∧ Xi d' a = Xi d a := by
 unfold Yb Xi Qq;rw [h]; exact ⟨rfl, rfl⟩
theorem Y0 {d : Dk} (h : d.blocks.length = 12) {p : Nat} (hp : p < 6) : d.noPair (p : Int) = false := Zrs (by omega) (by rw [h]; omega)
def Vn (d : Dk) (p : Nat) : Prop :=
 (∃ r : Rec, r.kind ≠ 1 ∧ Yb d (2 * (p : Int)) = r ∧ Yb d (2 * (p : Int) + 1) = r) ∨
 (∃ r : Rec, r.kind ≠ 1 ∧ (Yb d (2 * (p : Int)) = r ∧ (Yb d (2 * (p : Int) + 1)).kind = 1 ∨ Yb d (2 * (p : Int) + 1) = r ∧ (Yb d (2 * (p : Int))).kind = 1)) ∨
 ((Yb d (2 * (p : Int))).kind = 1 ∧ (Yb d (2 * (p : Int) + 1)).kind = 1 ∧ Xi d (2 * (p : Int)) + Xi d (2 * (p : Int) + 1) ≤ 1)
theorem Va {d : Dk} {p : Int} (hn : d.noPair p = false) (h0 : (Yb d (2 * p)).kind = 1) (h1 : (Yb d (2 * p + 1)).kind = 1) : d.tell p = Rec.free ∧ (Xi d (2 * p) + Xi d (2 * p + 1) = 0 → d.how p = 0) ∧ (Xi d (2 * p) + Xi d (2 * p + 1) = 1 → d.how p = 3) := by
 have s0 := Qy h0;have s1 := Qy h1;unfold Dk.how Dk.tell;rw [hn, s0, s1];refine ⟨by simp, fun h => ?_, fun h => ?_⟩
 ·rw [h]; simp
 ·rw [h]; simp
theorem Zbr {d : Dk} {p : Nat} (hn : d.noPair (p : Int) = false) (h : Vn d p) : d.how (p : Int) ≤ 3 := by
 rcases h with ⟨r, hr, h0, h1⟩ | ⟨r, hr, h⟩ | ⟨h0, h1, hb⟩
 ·rw [(Vu hn h0 h1 hr).1]; omega
 ·rw [(Ve hn hr h).1]; omega
 ·obtain ⟨-, k0, k1⟩ := Va hn h0 h1;have := Zav d (2 * (p : Int));have := Zav d (2 * (p : Int) + 1);by_cases e : Xi d (2 * (p : Int)) + Xi d (2 * (p : Int) + 1) = 0
  ·rw [k0 e]; omega
  ·rw [k1 (by omega)]; omega
theorem Zac {d : Dk} {p : Nat} (hn : d.noPair (p : Int) = false) (h : d.how (p : Int) ≤ 3) : Vn d p := by
 unfold Dk.how at h;rw [hn, if_neg (by simp)] at h;by_cases k0 : (Yb d (2 * (p : Int))).kind = 1
 ·have s0 := Qy k0;by_cases k1 : (Yb d (2 * (p : Int) + 1)).kind = 1
  ·have s1 := Qy k1;rw [s0, s1, if_neg (by omega), if_neg (by omega)] at h;refine .inr (.inr ⟨k0, k1, ?_⟩);by_cases e0 : Xi d (2 * (p : Int)) + Xi d (2 * (p : Int) + 1) = 0
   ·omega
   ·rw [if_neg e0] at h;by_cases e1 : Xi d (2 * (p : Int)) + Xi d (2 * (p : Int) + 1) = 1
    ·omega
    ·rw [if_neg e1] at h; omega
  ·exact .inr (.inl ⟨_, k1, .inr ⟨rfl, k0⟩⟩)
 ·have s0 := Ky k0;by_cases k1 : (Yb d (2 * (p : Int) + 1)).kind = 1
  ·exact .inr (.inl ⟨_, k0, .inl ⟨rfl, k1⟩⟩)
  ·have s1 := Ky k1;rw [s0, s1, if_pos (by omega)] at h;by_cases e : Kb (Yb d (2 * (p : Int))) (Yb d (2 * (p : Int) + 1)) = true
   ·exact .inl ⟨_, k0, rfl, ((J8 _ _).1 e).symm⟩
   ·rw [if_neg e] at h; omega
def Dk.half (d : Dk) (p : Nat) (r : Rec) (x y : Bool) : Dk :=
 ⟨if y = true then (if x = true then d.blocks.set (2 * p) (blk r (2 * (p : Int))) else d.blocks).set (2 * p + 1) (blk r (2 * (p : Int) + 1)) else (if x = true then d.blocks.set (2 * p) (blk r (2 * (p : Int))) else d.blocks), []⟩
theorem Zvc {d : Dk} (h : d.Fine 0) {p : Nat} (hp : p < 6) (hr : Z6 r = 0) : d.pairD (p : Int) r = ⟨d.blocks, [(2 * (p : Int), blk r (2 * (p : Int))), (2 * (p : Int) + 1, blk r (2 * (p : Int) + 1))]⟩ := by
 have he : d.pairE (p : Int) r = 0 := by rw [Zlh (by omega) (by rw [h.len]; omega), hr]
 unfold Dk.pairD;rw [if_pos he];unfold Dk.pairW;rw [K0 h]; rfl
theorem Ze0 {d : Dk} (h : d.Fine 0) {p : Nat} (hp : p < 6) (hr : Z6 r = 0) (on : Nat → Bool) : (⟨(d.pairD (p : Int) r).keepTo on (d.pairD (p : Int) r).late.length, []⟩ : Dk) = d.half p r (on 0) (on 1) := by
 rw [Zvc h hp hr];have e0 : (2 * (p : Int)).toNat = 2 * p := by omega
 have e1 : (2 * (p : Int) + 1).toNat = 2 * p + 1 := by omega
 simp only [Dk.half, Dk.keepTo, List.length_cons, List.length_nil, List.getD_cons_zero, List.getD_cons_succ, e0, e1]
theorem Zib {d : Dk} (h : d.Fine 0) {p : Nat} (hp : p < 6) (hr : Z6 r = 0) (bits : Int) : (d.pairD (p : Int) r).keep bits = d.half p r (Qr bits 0) (Qr bits 1) := Ze0 h hp hr _
theorem Zal {d : Dk} (h : d.Fine 0) {p : Nat} (hp : p < 6) (hr : Z6 r = 0) : (d.pairD (p : Int) r).flush = d.half p r true true := Ze0 h hp hr _
theorem X9 {d : Dk} (h : d.Fine 0) {p : Nat} (_hp : p < 6) (hr : Z6 r = 0) (x y : Bool) : (d.half p r x y).Fine 0 := by
 have hl := h.len;refine ⟨?_, Nat.le_refl _, ?_, (fun x hx => by cases hx), (fun x hx => by cases hx)⟩
 ·unfold Dk.half;cases x <;> cases y <;> simp [hl]
 ·have key : ∀ (l : List (List UInt8)) (i : Nat) (a : Int), (∀ z ∈ l, z.length = 16) → ∀ z ∈ l.set i (blk r a), z.length = 16 := fun l i a hh z hz => by
   rcases List.mem_or_eq_of_mem_set hz with h1 | h1
   ·exact hh z h1
   ·rw [h1]; exact Zke r a hr
  unfold Dk.half;cases x <;> cases y
  ·exact h.block
  ·exact key _ _ _ h.block
  ·exact key _ _ _ h.block
  ·exact key _ _ _ (key _ _ _ h.block)
theorem Zem (d : Dk) (h : d.Fine 0) (p : Nat) (r : Rec) : d.half p r false false = d := by
 have := K0 h;obtain ⟨b, l⟩ := d;simp only at this;subst this;rfl
theorem Zb1 {d : Dk} (h : d.Fine 0) {p : Nat} (hp : p < 6) (hr : Z6 r = 0) (x y : Bool) (a : Nat) (ha : a < 12) :
  Y9 (d.half p r x y) (a : Int) = if a = 2 * p + 1 ∧ y = true then blk r (2 * (p : Int) + 1) else if a = 2 * p ∧ x = true then blk r (2 * (p : Int)) else Y9 d (a : Int) := by
 have hl := h.len;rw [Za8 (X9 h hp hr x y) ha, Za8 h ha];unfold Dk.half;cases x <;> cases y <;> simp only [Bool.false_eq_true, if_false, if_true, and_false, and_true]
 ·rw [Qk _ _ _ _ _ (by omega)];by_cases e : 2 * p + 1 = a
  ·rw [if_pos e, if_pos e.symm]
  ·rw [if_neg e, if_neg (fun h => e h.symm)]
 ·rw [Qk _ _ _ _ _ (by omega)];by_cases e : 2 * p = a
  ·rw [if_pos e, if_pos e.symm]
  ·rw [if_neg e, if_neg (fun h => e h.symm)]
 ·rw [Qk _ _ _ _ _ (by rw [List.length_set]; omega), Qk _ _ _ _ _ (by omega)];by_cases e : 2 * p + 1 = a
  ·rw [if_pos e, if_pos e.symm]
  ·have e' : ¬ a = 2 * p + 1 := fun h => e h.symm
   rw [if_neg e, if_neg e'];by_cases e2 : 2 * p = a
   ·rw [if_pos e2, if_pos e2.symm]
   ·have e2' : ¬ a = 2 * p := fun h => e2 h.symm
    rw [if_neg e2, if_neg e2']
theorem X5 {d : Dk} (h : d.Fine 0) {p q : Nat} (hp : p < 6) (hq : q < 6) (hne : q ≠ p) (hr : Z6 r = 0) (x y : Bool) : (d.half p r x y).how (q : Int) = d.how (q : Int) ∧ (d.half p r x y).tell (q : Int) = d.tell (q : Int) := by
 have h0 := Zb1 h hp hr x y (2 * q) (by omega);have h1 := Zb1 h hp hr x y (2 * q + 1) (by omega);rw [if_neg (by omega), if_neg (by omega)] at h0 h1;exact Zbz ((X9 h hp hr x y).len.trans h.len.symm) (by simpa using h0) (by simpa using h1)
theorem K8 {d : Dk} (h : d.Fine 0) {p : Nat} (hp : p < 6) (hr : Z6 r = 0) (x y : Bool) :
  ((x = true → Yb (d.half p r x y) (2 * (p : Int)) = r ∧ Xi (d.half p r x y) (2 * (p : Int)) = 0) ∧ (x = false → Yb (d.half p r x y) (2 * (p : Int)) = Yb d (2 * (p : Int)) ∧ Xi (d.half p r x y) (2 * (p : Int)) = Xi d (2 * (p : Int)))) ∧
  ((y = true → Yb (d.half p r x y) (2 * (p : Int) + 1) = r ∧ Xi (d.half p r x y) (2 * (p : Int) + 1) = 0) ∧ (y = false → Yb (d.half p r x y) (2 * (p : Int) + 1) = Yb d (2 * (p : Int) + 1) ∧ Xi (d.half p r x y) (2 * (p : Int) + 1) = Xi d (2 * (p : Int) + 1))) := by
 have h0 := Zb1 h hp hr x y (2 * p) (by omega);have h1 := Zb1 h hp hr x y (2 * p + 1) (by omega);rw [if_neg (by omega)] at h0;have c0 : ((2 * p : Nat) : Int) = 2 * (p : Int) := by omega
 have c1 : ((2 * p + 1 : Nat) : Int) = 2 * (p : Int) + 1 := by omega
 rw [c0] at h0;rw [c1] at h1;have key : ∀ a : Int, 0 ≤ a → a ≤ 255 → Y9 (d.half p r x y) a = blk r a → Yb (d.half p r x y) a = r ∧ Xi (d.half p r x y) a = 0 := fun a ha ha' hb => by
  obtain ⟨he, hR⟩ := Zla r a hr ha ha';unfold Xi Yb Qq;rw [hb, if_pos he, if_pos he]; exact ⟨hR, rfl⟩
 refine ⟨⟨fun e => ?_, fun e => ?_⟩, fun e => ?_, fun e => ?_⟩
 ·rw [if_pos ⟨rfl, e⟩] at h0; exact key _ (by omega) (by omega) h0
 ·rw [if_neg (by simp [e])] at h0; exact Zbs h0
 ·rw [if_pos ⟨rfl, e⟩] at h1; exact key _ (by omega) (by omega) h1
 ·rw [if_neg (by simp [e]), if_neg (by omega)] at h1; exact Zbs h1
theorem Zfq {d : Dk} {p : Nat} (hn : d.noPair (p : Int) = false) (h : Vn d p) (hk : (d.tell (p : Int)).kind = 1) : (Yb d (2 * (p : Int))).kind = 1 ∧ (Yb d (2 * (p : Int) + 1)).kind = 1 ∧ Xi d (2 * (p : Int)) + Xi d (2 * (p : Int) + 1) ≤ 1 := by
 rcases h with ⟨r, hr, h0, h1⟩ | ⟨r, hr, h⟩ | h
 ·rw [(Vu hn h0 h1 hr).2] at hk; exact absurd hk hr
 ·rw [(Ve hn hr h).2] at hk; exact absurd hk hr
 ·exact h
theorem Zl4 {d : Dk} (h : d.Fine 0) {p : Nat} (hp : p < 6) (hr : Z6 r = 0) (hk : r.kind ≠ 1) (h3 : Vn d p) (ht : (d.tell (p : Int)).kind = 1) (x y : Bool) :
  Vn (d.half p r x y) p ∧ (d.half p r x y).tell (p : Int) = if (x || y) = true then r else d.tell (p : Int) := by
 have hn := Y0 h.len hp;have hn' := Y0 (X9 h hp hr x y).len hp;obtain ⟨k0, k1, kb⟩ := Zfq hn h3 ht;obtain ⟨⟨a0, a1⟩, b0, b1⟩ := K8 h hp hr x y;cases x with
 | true =>
  cases y with
  | true => exact ⟨.inl ⟨r, hk, (a0 rfl).1, (b0 rfl).1⟩, (Vu hn' (a0 rfl).1 (b0 rfl).1 hk).2⟩
  | false =>
   have h2 : Yb (d.half p r true false) (2 * (p : Int)) = r ∧ (Yb (d.half p r true false) (2 * (p : Int) + 1)).kind = 1 := ⟨(a0 rfl).1, by rw [(b1 rfl).1]; exact k1⟩;exact ⟨.inr (.inl ⟨r, hk, .inl h2⟩), (Ve hn' hk (.inl h2)).2⟩
 | false =>
  cases y with
  | true =>
   have h2 : Yb (d.half p r false true) (2 * (p : Int) + 1) = r ∧ (Yb (d.half p r false true) (2 * (p : Int))).kind = 1 := ⟨(b0 rfl).1, by rw [(a1 rfl).1]; exact k0⟩;exact ⟨.inr (.inl ⟨r, hk, .inr h2⟩), (Ve hn' hk (.inr h2)).2⟩
  | false =>
   rw [Zem d h];exact ⟨h3, rfl⟩
theorem Zb2 {d : Dk} (h : d.Fine 0) {p : Nat} (hp : p < 6) (h3 : Vn d p) (x y : Bool) :
  Vn (d.half p Rec.free x y) p ∧ ((d.half p Rec.free x y).tell (p : Int) = d.tell (p : Int) ∨ (d.half p Rec.free x y).tell (p : Int) = Rec.free) ∧ (x = true → y = true → (d.half p Rec.free x y).tell (p : Int) = Rec.free ∧ (d.half p Rec.free x y).how (p : Int) = 0) := by
 have hn := Y0 h.len hp;have hf : Z6 Rec.free = 0 := Qv;have hn' := Y0 (X9 h hp hf x y).len hp;obtain ⟨⟨a0, a1⟩, b0, b1⟩ := K8 h hp hf x y;have kf : Rec.free.kind = 1 := rfl;have bd0 := Zav d (2 * (p : Int));have bd1 := Zav d (2 * (p : Int) + 1);have both : x = true → y = true → Vn (d.half p Rec.free x y) p ∧ (d.half p Rec.free x y).tell (p : Int) = Rec.free ∧ (d.half p Rec.free x y).how (p : Int) = 0 := fun hx hy => by
  have c0 : (Yb (d.half p Rec.free x y) (2 * (p : Int))).kind = 1 := by rw [(a0 hx).1]; rfl
  have c1 : (Yb (d.half p Rec.free x y) (2 * (p : Int) + 1)).kind = 1 := by rw [(b0 hy).1]; rfl
  obtain ⟨t, k, -⟩ := Va hn' c0 c1;exact ⟨.inr (.inr ⟨c0, c1, by rw [(a0 hx).2, (b0 hy).2]; omega⟩), t, k (by rw [(a0 hx).2, (b0 hy).2]; omega)⟩
 have none' : (Yb (d.half p Rec.free x y) (2 * (p : Int))).kind = 1 → (Yb (d.half p Rec.free x y) (2 * (p : Int) + 1)).kind = 1 → Xi (d.half p Rec.free x y) (2 * (p : Int)) + Xi (d.half p Rec.free x y) (2 * (p : Int) + 1) ≤ 1 → Vn (d.half p Rec.free x y) p ∧ (d.half p Rec.free x y).tell (p : Int) = Rec.free := fun c0 c1 hb => ⟨.inr (.inr ⟨c0, c1, hb⟩), (Va hn' c0 c1).1⟩
 have one' : ∀ r : Rec, r.kind ≠ 1 → (Yb (d.half p Rec.free x y) (2 * (p : Int)) = r ∧ (Yb (d.half p Rec.free x y) (2 * (p : Int) + 1)).kind = 1 ∨ Yb (d.half p Rec.free x y) (2 * (p : Int) + 1) = r ∧ (Yb (d.half p Rec.free x y) (2 * (p : Int))).kind = 1) → Vn (d.half p Rec.free x y) p ∧ (d.half p Rec.free x y).tell (p : Int) = r := fun r hr hh => ⟨.inr (.inl ⟨r, hr, hh⟩), (Ve hn' hr hh).2⟩
 refine (fun (k : Vn (d.half p Rec.free x y) p ∧ ((d.half p Rec.free x y).tell (p : Int) = d.tell (p : Int) ∨ (d.half p Rec.free x y).tell (p : Int) = Rec.free)) => ⟨k.1, k.2, fun hx hy => (both hx hy).2⟩) ?_;cases hx : x with
 | false =>
  cases hy : y with
  | false => rw [Zem d h]; exact ⟨h3, .inl rfl⟩
  | true =>
   subst hx; subst hy;rcases h3 with ⟨r, hr, h0, h1⟩ | ⟨r, hr, ⟨h0, h1⟩ | ⟨h1, h0⟩⟩ | ⟨h0, h1, hb⟩
   ·obtain ⟨t1, t2⟩ := one' r hr (.inl ⟨by rw [(a1 rfl).1]; exact h0, by rw [(b0 rfl).1]; rfl⟩);exact ⟨t1, .inl (by rw [t2, (Vu hn h0 h1 hr).2])⟩
   ·obtain ⟨t1, t2⟩ := one' r hr (.inl ⟨by rw [(a1 rfl).1]; exact h0, by rw [(b0 rfl).1]; rfl⟩);exact ⟨t1, .inl (by rw [t2, (Ve hn hr (.inl ⟨h0, h1⟩)).2])⟩
   ·obtain ⟨t1, t2⟩ := none' (by rw [(a1 rfl).1]; exact h0) (by rw [(b0 rfl).1]; rfl) (by rw [(a1 rfl).2, (b0 rfl).2]; omega);exact ⟨t1, .inr t2⟩
   ·obtain ⟨t1, t2⟩ := none' (by rw [(a1 rfl).1]; exact h0) (by rw [(b0 rfl).1]; rfl) (by rw [(a1 rfl).2, (b0 rfl).2]; omega);exact ⟨t1, .inr t2⟩
 | true =>
  cases hy : y with
  | true => subst hx; subst hy; exact ⟨(both rfl rfl).1, .inr (both rfl rfl).2.1⟩
  | false =>
   subst hx; subst hy;rcases h3 with ⟨r, hr, h0, h1⟩ | ⟨r, hr, ⟨h0, h1⟩ | ⟨h1, h0⟩⟩ | ⟨h0, h1, hb⟩
   ·obtain ⟨t1, t2⟩ := one' r hr (.inr ⟨by rw [(b1 rfl).1]; exact h1, by rw [(a0 rfl).1]; rfl⟩);exact ⟨t1, .inl (by rw [t2, (Vu hn h0 h1 hr).2])⟩
   ·obtain ⟨t1, t2⟩ := none' (by rw [(a0 rfl).1]; rfl) (by rw [(b1 rfl).1]; exact h1) (by rw [(a0 rfl).2, (b1 rfl).2]; omega);exact ⟨t1, .inr t2⟩
   ·obtain ⟨t1, t2⟩ := one' r hr (.inr ⟨by rw [(b1 rfl).1]; exact h1, by rw [(a0 rfl).1]; rfl⟩);exact ⟨t1, .inl (by rw [t2, (Ve hn hr (.inr ⟨h1, h0⟩)).2])⟩
   ·obtain ⟨t1, t2⟩ := none' (by rw [(a0 rfl).1]; rfl) (by rw [(b1 rfl).1]; exact h1) (by rw [(a0 rfl).2, (b1 rfl).2]; omega);exact ⟨t1, .inr t2⟩
end Go.Proofs.YtpdnapbchcdhladGreatDoor
namespace Go.Proofs.YtpdnapbchcdhladGreatDoor
set_option maxRecDepth 100000
open Go.RowKit
open Plain Reg
variable {d : Dk} {n : Nat} {x : Sp}
def St.step (s : St) (x : Sp) : Zm9 :=
 if x.kind = 1 then s.doS x.deed
 else if x.kind = 2 then (if (s.begin x.deed).e ≠ 0 then ⟨s, 0, (s.begin x.deed).e⟩ else ⟨Xs ((s.begin x.deed).st.dk.keep x.n), (s.begin x.deed).n, 0⟩)
 else if x.kind = 3 then (if x.n < 0 ∨ 192 ≤ x.n then ⟨s, 0, 3⟩ else ⟨⟨s.dk.spoil (x.n / 16) (x.n % 16) x.m, s.idx, s.next⟩, 0, 0⟩)
 else if x.kind = 4 then ⟨s.scrub, 0, 0⟩
 else if x.kind = 5 then ⟨Xs s.dk.clean, 0, 0⟩
 else if x.kind = 6 then ⟨Xs s.dk, 0, 0⟩
 else ⟨s, 0, 1⟩
structure St.At (s : St) : Prop where
 ok : s.Ok 0
 low : 0 ≤ s.next
 high : s.next < 6
theorem Zg9 (s : St) (d : Dd) : (s.begin d).st.next = s.next := by
 unfold St.begin;split
 ·rfl
 ·split
  ·rfl
  ·split <;> rfl
theorem Zfg (s : St) (d : Dd) : (s.doS d).st.next = s.next := by
 unfold St.doS;split
 ·exact Zg9 s d
 ·exact Zg9 s d
theorem Zdh (h : d.Fine n) : (Xs d).At := ⟨Zvr h, Int.le_refl 0, (by decide : (0 : Int) < 6)⟩
theorem Zqu (h : d.Fine n) : d.clean.Fine 0 := Zev (h.kept 0) _ _
theorem Zxg {s : St} (h : s.At) : (s.step x).st.At := by
 unfold St.step;split
 ·exact ⟨Zy4 h.ok, by rw [Zfg]; exact h.low, by rw [Zfg]; exact h.high⟩
 ·split
  ·split
   ·exact h
   ·exact Zdh ((Zd0 h.ok).disk.kept x.n)
  ·split
   ·split
    ·exact h
    ·exact ⟨⟨h.ok.disk.spoil _ _ _, h.ok.right, h.ok.six⟩, h.low, h.high⟩
   ·split
    ·refine ⟨Zk3 h.ok.disk, ?_, ?_⟩
     ·show 0 ≤ (s.next + 1) % 6; omega
     ·show (s.next + 1) % 6 < 6; omega
    ·split
     ·exact Zdh (Zqu h.ok.disk)
     ·split
      ·exact Zdh h.ok.disk
      ·exact h
theorem Zo2 (w : World) (a b : Array Value) (Ta Tb : TypeId) : Zj w (((w.alloc (.cells a Ta)).alloc (.cells b Tb)).alloc Yy) ∧ (((w.alloc (.cells a Ta)).alloc (.cells b Tb)).alloc Yy).heap[w.heap.size]? = some (.cells a Ta (0, 0)) ∧ (((w.alloc (.cells a Ta)).alloc (.cells b Tb)).alloc Yy).heap[w.heap.size + 1]? = some (.cells b Tb (0, 0)) ∧ (((w.alloc (.cells a Ta)).alloc (.cells b Tb)).alloc Yy).heap[w.heap.size + 2]? = some (.cells #[.slice none 0 0, .slice none 0 0, .slice none 0 0, .int .i64 0] 30 (0, 0)) ∧ Hid ((((w.alloc (.cells a Ta)).alloc (.cells b Tb)).alloc Yy).heap.size = w.heap.size + 3) := by
 have hs0 := Zk w a Ta;have hd0 := Zk (w.alloc (.cells a Ta)) b Tb;have hz1 := Zk ((w.alloc (.cells a Ta)).alloc (.cells b Tb)) #[.slice none 0 0, .slice none 0 0, .slice none 0 0, .int .i64 0] 30;have hs1 := ((Zx (w.alloc (.cells a Ta)) (.cells b Tb) Yy).block _ (Za hs0)).trans hs0;have hd1 := ((Zd ((w.alloc (.cells a Ta)).alloc (.cells b Tb)) Yy).block _ (Za hd0)).trans hd0;rw [World.size_alloc] at hd1;rw [World.size_alloc, World.size_alloc] at hz1;exact ⟨(Zx w (.cells a Ta) (.cells b Tb)).trans (Zd _ Yy), hs1, hd1, hz1, by show _ = _; simp⟩
structure Zep (S : Nat → Prop) (s : St) (x : Sp) (v : Value) (ad : Option Addr) (c : Nat) (w : World) : Prop where
 low : ∀ b, S b → b < w.heap.size
 sto : Zw S s v w
 dat : Z0 S w (.slice ad x.deed.data.length c) x.deed.data
 mid : s.At
 few : x.deed.data.length ≤ 140737488355328
def Zbk (F : FuncId) (S : Nat → Prop) (s : St) (x : Sp) (v : Value) (ad : Option Addr) (c : Nat) (w : World) : Prop :=
 Calls Tryz.prog F #[v, .agg #[.int .i64 x.kind, .int .i64 x.n, .int .i64 x.m, .int .i64 x.deed.kind, .int .i64 x.deed.key, .int .i64 x.deed.num, .slice ad x.deed.data.length c]] w fun r w' => ∃ v', r = .returned (.tuple #[v', .int .i64 (s.step x).n, .int .i64 (s.step x).e]) ∧ Zw (Z7 S w.heap.size) (s.step x).st v' w' ∧ Zj w w'
theorem Zep.pre {S : Nat → Prop} {s : St} {v : Value} {ad : Option Addr} {c : Nat} {w : World} (h : Zep S s x v ad c w) : ∃ ab cb al cl ai ci, v = .agg #[.slice ab s.dk.blocks.length cb, .slice al s.dk.late.length cl, .slice ai s.idx.length ci, .int .i64 s.next] ∧ Xc S w (.slice ab s.dk.blocks.length cb) s.dk.blocks ∧ Q4 S w (.slice al s.dk.late.length cl) s.dk.late ∧ Yn S w (.slice ai s.idx.length ci) s.idx ∧ ¬ Z7 S (w.heap.size + 3) (w.heap.size + 2) ∧
  let w3 := ((w.alloc (.cells #[.slice ab s.dk.blocks.length cb, .slice al s.dk.late.length cl, .slice ai s.idx.length ci, .int .i64 s.next] 30)).alloc (.cells #[.int .i64 x.kind, .int .i64 x.n, .int .i64 x.m, .int .i64 x.deed.kind, .int .i64 x.deed.key, .int .i64 x.deed.num, .slice ad x.deed.data.length c] 42)).alloc Yy
  Zj w w3 ∧ w3.heap[w.heap.size]? = some (.cells #[.slice ab s.dk.blocks.length cb, .slice al s.dk.late.length cl, .slice ai s.idx.length ci, .int .i64 s.next] 30 (0, 0)) ∧ w3.heap[w.heap.size + 1]? = some (.cells #[.int .i64 x.kind, .int .i64 x.n, .int .i64 x.m, .int .i64 x.deed.kind, .int .i64 x.deed.key, .int .i64 x.deed.num, .slice ad x.deed.data.length c] 42 (0, 0)) ∧ w3.heap[w.heap.size + 2]? = some (.cells #[.slice none 0 0, .slice none 0 0, .slice none 0 0, .int .i64 0] 30 (0, 0)) ∧ Hid (w3.heap.size = w.heap.size + 3) := by
 obtain ⟨ab, cb, al, cl, ai, ci, rfl, hb, hl, hi⟩ := h.sto.form;exact ⟨ab, cb, al, cl, ai, ci, rfl, hb, hl, hi, Xg (fun b hb => by have := h.low b hb; omega) (by omega), Zo2 w _ _ _ _⟩
end Go.Proofs.YtpdnapbchcdhladGreatDoor
