import Derived.Test.YtpdnapbchcdhlacGreatRList
set_option maxHeartbeats 8000000
namespace Go.Proofs.YtpdnapbchcdhlacGreat
set_option maxRecDepth 100000
open Plain
variable {r : Rec}
theorem Ka {d : Dk} (h : d.Fine 0) : d.late = [] := List.eq_nil_of_length_eq_zero (by have := h.few; omega)
theorem Ji {d : Dk} (h : d.Fine 0) {a : Nat} (ha : a < 12) : Yp d (a : Int) = d.blocks.getD a [] := by
 unfold Yp Dk.get;rw [if_neg (by have := h.len; omega), Ka h];simp [Qx]
theorem Zci {d d' : Dk} (hl : d'.blocks.length = d.blocks.length) {p : Int} (h0 : Yp d' (2 * p) = Yp d (2 * p)) (h1 : Yp d' (2 * p + 1) = Yp d (2 * p + 1)) : d'.how p = d.how p ∧ d'.tell p = d.tell p := by
 unfold Dk.how Dk.tell K7 Yt Y8 Z7 Qd Dk.noPair;rw [h0, h1, hl]; exact ⟨rfl, rfl⟩
theorem Zcc {d d' : Dk} {a : Int} (h : Yp d' a = Yp d a) : Z7 d' a = Z7 d a ∧ Y8 d' a = Y8 d a := by
 unfold Z7 Y8 Qd;rw [h]; exact ⟨rfl, rfl⟩
theorem Xd {d : Dk} (h : d.blocks.length = 12) {p : Nat} (hp : p < 6) : d.noPair (p : Int) = false := Zem (by omega) (by rw [h]; omega)
def Kc (d : Dk) (p : Nat) : Prop :=
 (∃ r : Rec, r.kind ≠ 1 ∧ Z7 d (2 * (p : Int)) = r ∧ Z7 d (2 * (p : Int) + 1) = r) ∨
 (∃ r : Rec, r.kind ≠ 1 ∧ (Z7 d (2 * (p : Int)) = r ∧ (Z7 d (2 * (p : Int) + 1)).kind = 1 ∨ Z7 d (2 * (p : Int) + 1) = r ∧ (Z7 d (2 * (p : Int))).kind = 1)) ∨
 ((Z7 d (2 * (p : Int))).kind = 1 ∧ (Z7 d (2 * (p : Int) + 1)).kind = 1 ∧ Y8 d (2 * (p : Int)) + Y8 d (2 * (p : Int) + 1) ≤ 1)
theorem Vx {d : Dk} {p : Int} (hn : d.noPair p = false) (h0 : (Z7 d (2 * p)).kind = 1) (h1 : (Z7 d (2 * p + 1)).kind = 1) : d.tell p = Rec.free ∧ (Y8 d (2 * p) + Y8 d (2 * p + 1) = 0 → d.how p = 0) ∧ (Y8 d (2 * p) + Y8 d (2 * p + 1) = 1 → d.how p = 3) := by
 have s0 := Qe h0;have s1 := Qe h1;unfold Dk.how Dk.tell;rw [hn, s0, s1];refine ⟨by simp, fun h => ?_, fun h => ?_⟩
 ·rw [h]; simp
 ·rw [h]; simp
theorem Zb9 {d : Dk} {p : Nat} (hn : d.noPair (p : Int) = false) (h : Kc d p) : d.how (p : Int) ≤ 3 := by
 rcases h with ⟨r, hr, h0, h1⟩ | ⟨r, hr, h⟩ | ⟨h0, h1, hb⟩
 ·rw [(Vs hn h0 h1 hr).1]; omega
 ·rw [(Vz hn hr h).1]; omega
 ·obtain ⟨-, k0, k1⟩ := Vx hn h0 h1;have := V1 d (2 * (p : Int));have := V1 d (2 * (p : Int) + 1);by_cases e : Y8 d (2 * (p : Int)) + Y8 d (2 * (p : Int) + 1) = 0
  ·rw [k0 e]; omega
  ·rw [k1 (by omega)]; omega
theorem Zat {d : Dk} {p : Nat} (hn : d.noPair (p : Int) = false) (h : d.how (p : Int) ≤ 3) : Kc d p := by
 unfold Dk.how at h;rw [hn, if_neg (by simp)] at h;by_cases k0 : (Z7 d (2 * (p : Int))).kind = 1
 ·have s0 := Qe k0;by_cases k1 : (Z7 d (2 * (p : Int) + 1)).kind = 1
  ·have s1 := Qe k1;rw [s0, s1, if_neg (by omega), if_neg (by omega)] at h;refine .inr (.inr ⟨k0, k1, ?_⟩);by_cases e0 : Y8 d (2 * (p : Int)) + Y8 d (2 * (p : Int) + 1) = 0
   ·omega
   ·rw [if_neg e0] at h;by_cases e1 : Y8 d (2 * (p : Int)) + Y8 d (2 * (p : Int) + 1) = 1
    ·omega
    ·rw [if_neg e1] at h; omega
  ·exact .inr (.inl ⟨_, k1, .inr ⟨rfl, k0⟩⟩)
 ·have s0 := Kk k0;by_cases k1 : (Z7 d (2 * (p : Int) + 1)).kind = 1
  ·exact .inr (.inl ⟨_, k0, .inl ⟨rfl, k1⟩⟩)
  ·have s1 := Kk k1;rw [s0, s1, if_pos (by omega)] at h;by_cases e : Qw (Z7 d (2 * (p : Int))) (Z7 d (2 * (p : Int) + 1)) = true
   ·exact .inl ⟨_, k0, rfl, ((V6 _ _).1 e).symm⟩
   ·rw [if_neg e] at h; omega
def Dk.half (d : Dk) (p : Nat) (r : Rec) (x y : Bool) : Dk :=
 ⟨if y = true then (if x = true then d.blocks.set (2 * p) (blk r (2 * (p : Int))) else d.blocks).set (2 * p + 1) (blk r (2 * (p : Int) + 1)) else (if x = true then d.blocks.set (2 * p) (blk r (2 * (p : Int))) else d.blocks), []⟩
theorem Zto {d : Dk} (h : d.Fine 0) {p : Nat} (hp : p < 6) (hr : Yd r = 0) : d.pairD (p : Int) r = ⟨d.blocks, [(2 * (p : Int), blk r (2 * (p : Int))), (2 * (p : Int) + 1, blk r (2 * (p : Int) + 1))]⟩ := by
 have he : d.pairE (p : Int) r = 0 := by rw [Zdj (by omega) (by rw [h.len]; omega), hr]
 unfold Dk.pairD;rw [if_pos he];unfold Dk.pairW;rw [Ka h]; rfl
theorem Ze5 {d : Dk} (h : d.Fine 0) {p : Nat} (hp : p < 6) (hr : Yd r = 0) (on : Nat → Bool) : (⟨(d.pairD (p : Int) r).keepTo on (d.pairD (p : Int) r).late.length, []⟩ : Dk) = d.half p r (on 0) (on 1) := by
 rw [Zto h hp hr];have e0 : (2 * (p : Int)).toNat = 2 * p := by omega
 have e1 : (2 * (p : Int) + 1).toNat = 2 * p + 1 := by omega
 simp only [Dk.half, Dk.keepTo, List.length_cons, List.length_nil, List.getD_cons_zero, List.getD_cons_succ, e0, e1]
theorem Zqp {d : Dk} (h : d.Fine 0) {p : Nat} (hp : p < 6) (hr : Yd r = 0) (bits : Int) : (d.pairD (p : Int) r).keep bits = d.half p r (Qz bits 0) (Qz bits 1) := Ze5 h hp hr _
theorem Jd {d : Dk} (h : d.Fine 0) {p : Nat} (hp : p < 6) (hr : Yd r = 0) : (d.pairD (p : Int) r).flush = d.half p r true true := Ze5 h hp hr _
theorem Q2 {d : Dk} (h : d.Fine 0) {p : Nat} (_hp : p < 6) (hr : Yd r = 0) (x y : Bool) : (d.half p r x y).Fine 0 := by
 have hl := h.len;refine ⟨?_, Nat.le_refl _, ?_, (fun x hx => by cases hx), (fun x hx => by cases hx)⟩
 ·unfold Dk.half;cases x <;> cases y <;> simp [hl]
 ·have key : ∀ (l : List (List UInt8)) (i : Nat) (a : Int), (∀ z ∈ l, z.length = 16) → ∀ z ∈ l.set i (blk r a), z.length = 16 := fun l i a hh z hz => by
   rcases List.mem_or_eq_of_mem_set hz with h1 | h1
   ·exact hh z h1
   ·rw [h1]; exact Zj0 r a hr
  unfold Dk.half;cases x <;> cases y
  ·exact h.block
  ·exact key _ _ _ h.block
  ·exact key _ _ _ h.block
  ·exact key _ _ _ (key _ _ _ h.block)
theorem Zeq (d : Dk) (h : d.Fine 0) (p : Nat) (r : Rec) : d.half p r false false = d := by
 have := Ka h;obtain ⟨b, l⟩ := d;simp only at this;subst this;rfl
theorem Zau {d : Dk} (h : d.Fine 0) {p : Nat} (hp : p < 6) (hr : Yd r = 0) (x y : Bool) (a : Nat) (ha : a < 12) :
  Yp (d.half p r x y) (a : Int) = if a = 2 * p + 1 ∧ y = true then blk r (2 * (p : Int) + 1) else if a = 2 * p ∧ x = true then blk r (2 * (p : Int)) else Yp d (a : Int) := by
 have hl := h.len;rw [Ji (Q2 h hp hr x y) ha, Ji h ha];unfold Dk.half;cases x <;> cases y <;> simp only [Bool.false_eq_true, if_false, if_true, and_false, and_true]
 ·rw [Va _ _ _ _ _ (by omega)];by_cases e : 2 * p + 1 = a
  ·rw [if_pos e, if_pos e.symm]
  ·rw [if_neg e, if_neg (fun h => e h.symm)]
 ·rw [Va _ _ _ _ _ (by omega)];by_cases e : 2 * p = a
  ·rw [if_pos e, if_pos e.symm]
  ·rw [if_neg e, if_neg (fun h => e h.symm)]
 ·rw [Va _ _ _ _ _ (by rw [List.length_set]; omega), Va _ _ _ _ _ (by omega)];by_cases e : 2 * p + 1 = a
  ·rw [if_pos e, if_pos e.symm]
  ·have e' : ¬ a = 2 * p + 1 := fun h => e h.symm
   rw [if_neg e, if_neg e'];by_cases e2 : 2 * p = a
   ·rw [if_pos e2, if_pos e2.symm]
   ·have e2' : ¬ a = 2 * p := fun h => e2 h.symm
    rw [if_neg e2, if_neg e2']
theorem Qy {d : Dk} (h : d.Fine 0) {p q : Nat} (hp : p < 6) (hq : q < 6) (hne : q ≠ p) (hr : Yd r = 0) (x y : Bool) : (d.half p r x y).how (q : Int) = d.how (q : Int) ∧ (d.half p r x y).tell (q : Int) = d.tell (q : Int) := by
 have h0 := Zau h hp hr x y (2 * q) (by omega);have h1 := Zau h hp hr x y (2 * q + 1) (by omega);rw [if_neg (by omega), if_neg (by omega)] at h0 h1;exact Zci ((Q2 h hp hr x y).len.trans h.len.symm) (by simpa using h0) (by simpa using h1)
theorem Ko {d : Dk} (h : d.Fine 0) {p : Nat} (hp : p < 6) (hr : Yd r = 0) (x y : Bool) :
  ((x = true → Z7 (d.half p r x y) (2 * (p : Int)) = r ∧ Y8 (d.half p r x y) (2 * (p : Int)) = 0) ∧ (x = false → Z7 (d.half p r x y) (2 * (p : Int)) = Z7 d (2 * (p : Int)) ∧ Y8 (d.half p r x y) (2 * (p : Int)) = Y8 d (2 * (p : Int)))) ∧
  ((y = true → Z7 (d.half p r x y) (2 * (p : Int) + 1) = r ∧ Y8 (d.half p r x y) (2 * (p : Int) + 1) = 0) ∧ (y = false → Z7 (d.half p r x y) (2 * (p : Int) + 1) = Z7 d (2 * (p : Int) + 1) ∧ Y8 (d.half p r x y) (2 * (p : Int) + 1) = Y8 d (2 * (p : Int) + 1))) := by
 have h0 := Zau h hp hr x y (2 * p) (by omega);have h1 := Zau h hp hr x y (2 * p + 1) (by omega);rw [if_neg (by omega)] at h0;have c0 : ((2 * p : Nat) : Int) = 2 * (p : Int) := by omega
 have c1 : ((2 * p + 1 : Nat) : Int) = 2 * (p : Int) + 1 := by omega
 rw [c0] at h0;rw [c1] at h1;have key : ∀ a : Int, 0 ≤ a → a ≤ 255 → Yp (d.half p r x y) a = blk r a → Z7 (d.half p r x y) a = r ∧ Y8 (d.half p r x y) a = 0 := fun a ha ha' hb => by
  obtain ⟨he, hR⟩ := Zkz r a hr ha ha';unfold Y8 Z7 Qd;rw [hb, if_pos he, if_pos he]; exact ⟨hR, rfl⟩
 refine ⟨⟨fun e => ?_, fun e => ?_⟩, fun e => ?_, fun e => ?_⟩
 ·rw [if_pos ⟨rfl, e⟩] at h0; exact key _ (by omega) (by omega) h0
 ·rw [if_neg (by simp [e])] at h0; exact Zcc h0
 ·rw [if_pos ⟨rfl, e⟩] at h1; exact key _ (by omega) (by omega) h1
 ·rw [if_neg (by simp [e]), if_neg (by omega)] at h1; exact Zcc h1
theorem Zfs {d : Dk} {p : Nat} (hn : d.noPair (p : Int) = false) (h : Kc d p) (hk : (d.tell (p : Int)).kind = 1) : (Z7 d (2 * (p : Int))).kind = 1 ∧ (Z7 d (2 * (p : Int) + 1)).kind = 1 ∧ Y8 d (2 * (p : Int)) + Y8 d (2 * (p : Int) + 1) ≤ 1 := by
 rcases h with ⟨r, hr, h0, h1⟩ | ⟨r, hr, h⟩ | h
 ·rw [(Vs hn h0 h1 hr).2] at hk; exact absurd hk hr
 ·rw [(Vz hn hr h).2] at hk; exact absurd hk hr
 ·exact h
theorem Zlp {d : Dk} (h : d.Fine 0) {p : Nat} (hp : p < 6) (hr : Yd r = 0) (hk : r.kind ≠ 1) (h3 : Kc d p) (ht : (d.tell (p : Int)).kind = 1) (x y : Bool) :
  Kc (d.half p r x y) p ∧ (d.half p r x y).tell (p : Int) = if (x || y) = true then r else d.tell (p : Int) := by
 have hn := Xd h.len hp;have hn' := Xd (Q2 h hp hr x y).len hp;obtain ⟨k0, k1, kb⟩ := Zfs hn h3 ht;obtain ⟨⟨a0, a1⟩, b0, b1⟩ := Ko h hp hr x y;cases x with
 | true =>
  cases y with
  | true => exact ⟨.inl ⟨r, hk, (a0 rfl).1, (b0 rfl).1⟩, (Vs hn' (a0 rfl).1 (b0 rfl).1 hk).2⟩
  | false =>
   have h2 : Z7 (d.half p r true false) (2 * (p : Int)) = r ∧ (Z7 (d.half p r true false) (2 * (p : Int) + 1)).kind = 1 := ⟨(a0 rfl).1, by rw [(b1 rfl).1]; exact k1⟩;exact ⟨.inr (.inl ⟨r, hk, .inl h2⟩), (Vz hn' hk (.inl h2)).2⟩
 | false =>
  cases y with
  | true =>
   have h2 : Z7 (d.half p r false true) (2 * (p : Int) + 1) = r ∧ (Z7 (d.half p r false true) (2 * (p : Int))).kind = 1 := ⟨(b0 rfl).1, by rw [(a1 rfl).1]; exact k0⟩;exact ⟨.inr (.inl ⟨r, hk, .inr h2⟩), (Vz hn' hk (.inr h2)).2⟩
  | false =>
   rw [Zeq d h];exact ⟨h3, rfl⟩
theorem Zck {d : Dk} (h : d.Fine 0) {p : Nat} (hp : p < 6) (h3 : Kc d p) (x y : Bool) :
  Kc (d.half p Rec.free x y) p ∧ ((d.half p Rec.free x y).tell (p : Int) = d.tell (p : Int) ∨ (d.half p Rec.free x y).tell (p : Int) = Rec.free) ∧ (x = true → y = true → (d.half p Rec.free x y).tell (p : Int) = Rec.free ∧ (d.half p Rec.free x y).how (p : Int) = 0) := by
 have hn := Xd h.len hp;have hf : Yd Rec.free = 0 := Q5;have hn' := Xd (Q2 h hp hf x y).len hp;obtain ⟨⟨a0, a1⟩, b0, b1⟩ := Ko h hp hf x y;have kf : Rec.free.kind = 1 := rfl;have bd0 := V1 d (2 * (p : Int));have bd1 := V1 d (2 * (p : Int) + 1);have both : x = true → y = true → Kc (d.half p Rec.free x y) p ∧ (d.half p Rec.free x y).tell (p : Int) = Rec.free ∧ (d.half p Rec.free x y).how (p : Int) = 0 := fun hx hy => by
  have c0 : (Z7 (d.half p Rec.free x y) (2 * (p : Int))).kind = 1 := by rw [(a0 hx).1]; rfl
  have c1 : (Z7 (d.half p Rec.free x y) (2 * (p : Int) + 1)).kind = 1 := by rw [(b0 hy).1]; rfl
  obtain ⟨t, k, -⟩ := Vx hn' c0 c1;exact ⟨.inr (.inr ⟨c0, c1, by rw [(a0 hx).2, (b0 hy).2]; omega⟩), t, k (by rw [(a0 hx).2, (b0 hy).2]; omega)⟩
 have none' : (Z7 (d.half p Rec.free x y) (2 * (p : Int))).kind = 1 → (Z7 (d.half p Rec.free x y) (2 * (p : Int) + 1)).kind = 1 → Y8 (d.half p Rec.free x y) (2 * (p : Int)) + Y8 (d.half p Rec.free x y) (2 * (p : Int) + 1) ≤ 1 → Kc (d.half p Rec.free x y) p ∧ (d.half p Rec.free x y).tell (p : Int) = Rec.free := fun c0 c1 hb => ⟨.inr (.inr ⟨c0, c1, hb⟩), (Vx hn' c0 c1).1⟩
 have one' : ∀ r : Rec, r.kind ≠ 1 → (Z7 (d.half p Rec.free x y) (2 * (p : Int)) = r ∧ (Z7 (d.half p Rec.free x y) (2 * (p : Int) + 1)).kind = 1 ∨ Z7 (d.half p Rec.free x y) (2 * (p : Int) + 1) = r ∧ (Z7 (d.half p Rec.free x y) (2 * (p : Int))).kind = 1) → Kc (d.half p Rec.free x y) p ∧ (d.half p Rec.free x y).tell (p : Int) = r := fun r hr hh => ⟨.inr (.inl ⟨r, hr, hh⟩), (Vz hn' hr hh).2⟩
 refine (fun (k : Kc (d.half p Rec.free x y) p ∧ ((d.half p Rec.free x y).tell (p : Int) = d.tell (p : Int) ∨ (d.half p Rec.free x y).tell (p : Int) = Rec.free)) => ⟨k.1, k.2, fun hx hy => (both hx hy).2⟩) ?_;cases hx : x with
 | false =>
  cases hy : y with
  | false => rw [Zeq d h]; exact ⟨h3, .inl rfl⟩
  | true =>
   subst hx; subst hy;rcases h3 with ⟨r, hr, h0, h1⟩ | ⟨r, hr, ⟨h0, h1⟩ | ⟨h1, h0⟩⟩ | ⟨h0, h1, hb⟩
   ·obtain ⟨t1, t2⟩ := one' r hr (.inl ⟨by rw [(a1 rfl).1]; exact h0, by rw [(b0 rfl).1]; rfl⟩);exact ⟨t1, .inl (by rw [t2, (Vs hn h0 h1 hr).2])⟩
   ·obtain ⟨t1, t2⟩ := one' r hr (.inl ⟨by rw [(a1 rfl).1]; exact h0, by rw [(b0 rfl).1]; rfl⟩);exact ⟨t1, .inl (by rw [t2, (Vz hn hr (.inl ⟨h0, h1⟩)).2])⟩
   ·obtain ⟨t1, t2⟩ := none' (by rw [(a1 rfl).1]; exact h0) (by rw [(b0 rfl).1]; rfl) (by rw [(a1 rfl).2, (b0 rfl).2]; omega);exact ⟨t1, .inr t2⟩
   ·obtain ⟨t1, t2⟩ := none' (by rw [(a1 rfl).1]; exact h0) (by rw [(b0 rfl).1]; rfl) (by rw [(a1 rfl).2, (b0 rfl).2]; omega);exact ⟨t1, .inr t2⟩
 | true =>
  cases hy : y with
  | true => subst hx; subst hy; exact ⟨(both rfl rfl).1, .inr (both rfl rfl).2.1⟩
  | false =>
   subst hx; subst hy;rcases h3 with ⟨r, hr, h0, h1⟩ | ⟨r, hr, ⟨h0, h1⟩ | ⟨h1, h0⟩⟩ | ⟨h0, h1, hb⟩
   ·obtain ⟨t1, t2⟩ := one' r hr (.inr ⟨by rw [(b1 rfl).1]; exact h1, by rw [(a0 rfl).1]; rfl⟩);exact ⟨t1, .inl (by rw [t2, (Vs hn h0 h1 hr).2])⟩
   ·obtain ⟨t1, t2⟩ := none' (by rw [(a0 rfl).1]; rfl) (by rw [(b1 rfl).1]; exact h1) (by rw [(a0 rfl).2, (b1 rfl).2]; omega);exact ⟨t1, .inr t2⟩
   ·obtain ⟨t1, t2⟩ := one' r hr (.inr ⟨by rw [(b1 rfl).1]; exact h1, by rw [(a0 rfl).1]; rfl⟩);exact ⟨t1, .inl (by rw [t2, (Vz hn hr (.inr ⟨h1, h0⟩)).2])⟩
   ·obtain ⟨t1, t2⟩ := none' (by rw [(a0 rfl).1]; rfl) (by rw [(b1 rfl).1]; exact h1) (by rw [(a0 rfl).2, (b1 rfl).2]; omega);exact ⟨t1, .inr t2⟩
end Go.Proofs.YtpdnapbchcdhlacGreat
namespace Go.Proofs.YtpdnapbchcdhlacGreat
set_option maxRecDepth 100000
open Go.RowKit
open Plain Reg
variable {d : Dk} {n : Nat} {x : Sp}
def St.step (s : St) (x : Sp) : Zmi :=
 if x.kind = 1 then s.doS x.deed
 else if x.kind = 2 then (if (s.begin x.deed).e ≠ 0 then ⟨s, 0, (s.begin x.deed).e⟩ else ⟨X2 ((s.begin x.deed).st.dk.keep x.n), (s.begin x.deed).n, 0⟩)
 else if x.kind = 3 then (if x.n < 0 ∨ 192 ≤ x.n then ⟨s, 0, 3⟩ else ⟨⟨s.dk.spoil (x.n / 16) (x.n % 16) x.m, s.idx, s.next⟩, 0, 0⟩)
 else if x.kind = 4 then ⟨s.scrub, 0, 0⟩
 else if x.kind = 5 then ⟨X2 s.dk.clean, 0, 0⟩
 else if x.kind = 6 then ⟨X2 s.dk, 0, 0⟩
 else ⟨s, 0, 1⟩
structure St.At (s : St) : Prop where
 ok : s.Ok 0
 low : 0 ≤ s.next
 high : s.next < 6
theorem Zhi (s : St) (d : Dd) : (s.begin d).st.next = s.next := by
 unfold St.begin;split
 ·rfl
 ·split
  ·rfl
  ·split <;> rfl
theorem Zfl (s : St) (d : Dd) : (s.doS d).st.next = s.next := by
 unfold St.doS;split
 ·exact Zhi s d
 ·exact Zhi s d
theorem Zbt (h : d.Fine n) : (X2 d).At := ⟨Zt0 h, Int.le_refl 0, (by decide : (0 : Int) < 6)⟩
theorem Zd3 (h : d.Fine n) : d.clean.Fine 0 := Zbr (h.kept 0) _ _
theorem Za5 {s : St} (h : s.At) : (s.step x).st.At := by
 unfold St.step;split
 ·exact ⟨Zxd h.ok, by rw [Zfl]; exact h.low, by rw [Zfl]; exact h.high⟩
 ·split
  ·split
   ·exact h
   ·exact Zbt ((Zaz h.ok).disk.kept x.n)
  ·split
   ·split
    ·exact h
    ·exact ⟨⟨h.ok.disk.spoil _ _ _, h.ok.right, h.ok.six⟩, h.low, h.high⟩
   ·split
    ·refine ⟨Zsx h.ok.disk, ?_, ?_⟩
     ·show 0 ≤ (s.next + 1) % 6; omega
     ·show (s.next + 1) % 6 < 6; omega
    ·split
     ·exact Zbt (Zd3 h.ok.disk)
     ·split
      ·exact Zbt h.ok.disk
      ·exact h
theorem Zuk (w : World) (a b : Array Value) (Ta Tb : TypeId) : Zp w (((w.alloc (.cells a Ta)).alloc (.cells b Tb)).alloc Y4) ∧ (((w.alloc (.cells a Ta)).alloc (.cells b Tb)).alloc Y4).heap[w.heap.size]? = some (.cells a Ta (0, 0)) ∧ (((w.alloc (.cells a Ta)).alloc (.cells b Tb)).alloc Y4).heap[w.heap.size + 1]? = some (.cells b Tb (0, 0)) ∧ (((w.alloc (.cells a Ta)).alloc (.cells b Tb)).alloc Y4).heap[w.heap.size + 2]? = some (.cells #[.slice none 0 0, .slice none 0 0, .slice none 0 0, .int .i64 0] 29 (0, 0)) ∧ Hid ((((w.alloc (.cells a Ta)).alloc (.cells b Tb)).alloc Y4).heap.size = w.heap.size + 3) := by
 have hs0 := Zj w a Ta;have hd0 := Zj (w.alloc (.cells a Ta)) b Tb;have hz1 := Zj ((w.alloc (.cells a Ta)).alloc (.cells b Tb)) #[.slice none 0 0, .slice none 0 0, .slice none 0 0, .int .i64 0] 29;have hs1 := ((Zr (w.alloc (.cells a Ta)) (.cells b Tb) Y4).block _ (Za hs0)).trans hs0;have hd1 := ((Zc ((w.alloc (.cells a Ta)).alloc (.cells b Tb)) Y4).block _ (Za hd0)).trans hd0;rw [World.size_alloc] at hd1;rw [World.size_alloc, World.size_alloc] at hz1;exact ⟨(Zr w (.cells a Ta) (.cells b Tb)).trans (Zc _ Y4), hs1, hd1, hz1, by show _ = _; simp⟩
structure Vj (S : Nat → Prop) (s : St) (x : Sp) (v : Value) (ad : Option Addr) (c : Nat) (w : World) : Prop where
 low : ∀ b, S b → b < w.heap.size
 sto : Yb S s v w
 dat : Z3 S w (.slice ad x.deed.data.length c) x.deed.data
 mid : s.At
 few : x.deed.data.length ≤ 140737488355328
def Qc (F : FuncId) (S : Nat → Prop) (s : St) (x : Sp) (v : Value) (ad : Option Addr) (c : Nat) (w : World) : Prop :=
 Calls Tryz.prog F #[v, .agg #[.int .i64 x.kind, .int .i64 x.n, .int .i64 x.m, .int .i64 x.deed.kind, .int .i64 x.deed.key, .int .i64 x.deed.num, .slice ad x.deed.data.length c]] w fun r w' => ∃ v', r = .returned (.tuple #[v', .int .i64 (s.step x).n, .int .i64 (s.step x).e]) ∧ Yb (Zw S w.heap.size) (s.step x).st v' w' ∧ Zp w w'
theorem Vj.pre {S : Nat → Prop} {s : St} {v : Value} {ad : Option Addr} {c : Nat} {w : World} (h : Vj S s x v ad c w) : ∃ ab cb al cl ai ci, v = .agg #[.slice ab s.dk.blocks.length cb, .slice al s.dk.late.length cl, .slice ai s.idx.length ci, .int .i64 s.next] ∧ Y2 S w (.slice ab s.dk.blocks.length cb) s.dk.blocks ∧ Xm S w (.slice al s.dk.late.length cl) s.dk.late ∧ Yr S w (.slice ai s.idx.length ci) s.idx ∧ ¬ Zw S (w.heap.size + 3) (w.heap.size + 2) ∧
  let w3 := ((w.alloc (.cells #[.slice ab s.dk.blocks.length cb, .slice al s.dk.late.length cl, .slice ai s.idx.length ci, .int .i64 s.next] 29)).alloc (.cells #[.int .i64 x.kind, .int .i64 x.n, .int .i64 x.m, .int .i64 x.deed.kind, .int .i64 x.deed.key, .int .i64 x.deed.num, .slice ad x.deed.data.length c] 49)).alloc Y4
  Zp w w3 ∧ w3.heap[w.heap.size]? = some (.cells #[.slice ab s.dk.blocks.length cb, .slice al s.dk.late.length cl, .slice ai s.idx.length ci, .int .i64 s.next] 29 (0, 0)) ∧ w3.heap[w.heap.size + 1]? = some (.cells #[.int .i64 x.kind, .int .i64 x.n, .int .i64 x.m, .int .i64 x.deed.kind, .int .i64 x.deed.key, .int .i64 x.deed.num, .slice ad x.deed.data.length c] 49 (0, 0)) ∧ w3.heap[w.heap.size + 2]? = some (.cells #[.slice none 0 0, .slice none 0 0, .slice none 0 0, .int .i64 0] 29 (0, 0)) ∧ Hid (w3.heap.size = w.heap.size + 3) := by
 obtain ⟨ab, cb, al, cl, ai, ci, rfl, hb, hl, hi⟩ := h.sto.form;exact ⟨ab, cb, al, cl, ai, ci, rfl, hb, hl, hi, Yn (fun b hb => by have := h.low b hb; omega) (by omega), Zuk w _ _ _ _⟩
end Go.Proofs.YtpdnapbchcdhlacGreat
namespace Go.Proofs.YtpdnapbchcdhlacGreat
set_option maxRecDepth 100000
open Plain
variable {r : Rec}
theorem Zwp {a b : Ent} (h : Y5 a b = true) : Y5 b a = false := by
 unfold Y5 at h ⊢;by_cases k : a.rc.key = b.rc.key
 ·rw [if_pos k] at h;rw [if_pos k.symm];by_cases v : a.rc.ver = b.rc.ver
  ·rw [if_pos v] at h;rw [if_pos v.symm];have := of_decide_eq_true h;exact decide_eq_false (by omega)
  ·rw [if_neg v] at h;rw [if_neg (fun e => v e.symm)];have := of_decide_eq_true h;exact decide_eq_false (by omega)
 ·rw [if_neg k] at h;rw [if_neg (fun e => k e.symm)];have := of_decide_eq_true h;exact decide_eq_false (by omega)
theorem Zi3 : ∀ l m : List Ent, l.Pairwise Ups → m.Pairwise Ups → (∀ x, x ∈ l ↔ x ∈ m) → l = m
 | [], [], _, _, _ => rfl
 | [], b :: m, _, _, h => absurd ((h b).2 (by simp)) (by simp)
 | a :: l, [], _, _, h => absurd ((h a).1 (by simp)) (by simp)
 | a :: l, b :: m, hl, hm, h => by
  obtain ⟨hl1, hl2⟩ := List.pairwise_cons.1 hl;obtain ⟨hm1, hm2⟩ := List.pairwise_cons.1 hm;have hab : a = b := by
   rcases List.mem_cons.1 ((h a).1 (by simp)) with e | e
   ·exact e
   ·rcases List.mem_cons.1 ((h b).2 (by simp)) with e2 | e2
    ·exact e2.symm
    ·have h1 := (hm1 a e).1;have h2 := (hl1 b e2).1;rw [Zwp h1] at h2; cases h2
  subst hab
  congr 1
  refine Zi3 l m hl2 hm2 fun x => ⟨fun hx => ?_, fun hx => ?_⟩
  ·rcases List.mem_cons.1 ((h x).1 (by simp [hx])) with e | e
   ·subst e; exact absurd rfl (hl1 x hx).2
   ·exact e
  ·rcases List.mem_cons.1 ((h x).2 (by simp [hx])) with e | e
   ·subst e; exact absurd rfl (hm1 x hx).2
   ·exact e
theorem Zf4 (d : Dk) : (Z5 d 6).Pairwise Ups := ((Xv _).1 (V4 d 6 (by omega))).1
theorem Zd7 {d d' : Dk} : ∀ n : Nat, (∀ q : Nat, q < n → d'.tell (q : Int) = d.tell (q : Int)) → Z5 d' n = Z5 d n
 | 0, _ => rfl
 | n + 1, h => by
  have ih := Zd7 n fun q hq => h q (by omega)
  unfold Z5;rw [h n (by omega), ih]
theorem Zsy {d d' : Dk} {p : Nat} (hp : p < 6) (hr : r.kind ≠ 1) (hold : (d.tell (p : Int)).kind = 1) (hnew : d'.tell (p : Int) = r) (hoth : ∀ q, q < 6 → q ≠ p → d'.tell (q : Int) = d.tell (q : Int)) (hwr : Yd r = 0) : Z5 d' 6 = X5 ⟨r, (p : Int)⟩ (Z5 d 6) := by
 have hne : ∀ x ∈ Z5 d 6, x.pair ≠ (p : Int) := fun x hx => by
  obtain ⟨q, hq, hk, rfl⟩ := (Vq d x 6).1 hx;intro e;have e2 : (q : Int) = (p : Int) := e;have : q = p := by omega
  subst this;exact hk hold
 have hright : Q1 (X5 ⟨r, (p : Int)⟩ (Z5 d 6)) = true := Zad (V4 d 6 (by omega)) ⟨hwr, hr, by show (0 : Int) ≤ (p : Int); omega, by show (p : Int) ≤ 1000; omega⟩ hne;refine Zi3 _ _ (Zf4 d') ((Xv _).1 hright).1 fun x => ?_;rw [J4, Vq, Vq];constructor
 ·rintro ⟨q, hq, hk, rfl⟩;by_cases e : q = p
  ·subst e; left; rw [hnew]
  ·right; rw [hoth q hq e] at hk ⊢; exact ⟨q, hq, hk, rfl⟩
 ·rintro (rfl | ⟨q, hq, hk, rfl⟩)
  ·exact ⟨p, hp, by rw [hnew]; exact hr, by rw [hnew]⟩
  ·by_cases e : q = p
   ·subst e; exact absurd hold hk
   ·exact ⟨q, hq, by rw [hoth q hq e]; exact hk, by rw [hoth q hq e]⟩
theorem Zp8 {d d' : Dk} {p : Nat} (hnew : (d'.tell (p : Int)).kind = 1) (hoth : ∀ q, q < 6 → q ≠ p → d'.tell (q : Int) = d.tell (q : Int)) : Z5 d' 6 = Q6 (Z5 d 6) (p : Int) := by
 refine Zi3 _ _ (Zf4 d') ((Xv _).1 (Zhc (V4 d 6 (by omega)) (p : Int))).1 fun x => ?_;unfold Q6;rw [List.mem_filter, Vq, Vq];constructor
 ·rintro ⟨q, hq, hk, rfl⟩;by_cases e : q = p
  ·subst e; exact absurd hnew hk
  ·rw [hoth q hq e] at hk ⊢;exact ⟨⟨q, hq, hk, rfl⟩, decide_eq_true (by show (q : Int) ≠ (p : Int); omega)⟩
 ·rintro ⟨⟨q, hq, hk, rfl⟩, hd⟩;have hqp : q ≠ p := fun e => by
   have := of_decide_eq_true hd;exact this (by show (q : Int) = (p : Int); omega)
  exact ⟨q, hq, by rw [hoth q hq hqp]; exact hk, by rw [hoth q hq hqp]⟩
structure St.Inv (s : St) : Prop where
 at' : s.At
 three : ∀ p, p < 6 → Kc s.dk p
 idx : s.idx = Z5 s.dk 6
 once : ∀ p q, p < 6 → q < 6 → (s.dk.tell ((p : Nat) : Int)).kind ≠ 1 → (s.dk.tell ((q : Nat) : Int)).kind ≠ 1 → (s.dk.tell (p : Int)).ver = (s.dk.tell (q : Int)).ver → p = q
structure Dk.Good (d : Dk) : Prop where
 fine : d.Fine 0
 three : ∀ p, p < 6 → Kc d p
 once : ∀ p q, p < 6 → q < 6 → (d.tell ((p : Nat) : Int)).kind ≠ 1 → (d.tell ((q : Nat) : Int)).kind ≠ 1 → (d.tell (p : Int)).ver = (d.tell (q : Int)).ver → p = q
theorem St.Inv.good {s : St} (h : s.Inv) : s.dk.Good := ⟨h.at'.ok.disk, h.three, h.once⟩
theorem Dk.Good.keep0 {d : Dk} (h : d.Good) : d.keep 0 = d := by
 have hb := d.keep_none;have hl := Ka h.fine;obtain ⟨b, l⟩ := d;simp only at hl;subst hl;show (⟨(Dk.keep ⟨b, []⟩ 0).blocks, []⟩ : Dk) = _;rw [hb]
theorem Dk.Good.mount {d : Dk} (h : d.Good) : (X2 d).Inv := by
 have hk := h.keep0;have ha := Zbt h.fine;refine ⟨ha, ?_, rfl, ?_⟩
 ·show ∀ p, p < 6 → Kc (d.keep 0) p;rw [hk]; exact h.three
 ·show ∀ p q, p < 6 → q < 6 → ((d.keep 0).tell ((p : Nat) : Int)).kind ≠ 1 → ((d.keep 0).tell ((q : Nat) : Int)).kind ≠ 1 → ((d.keep 0).tell (p : Int)).ver = ((d.keep 0).tell (q : Int)).ver → p = q;rw [hk]; exact h.once
theorem Dk.Good.mounted {d : Dk} (h : d.Good) : X2 d = ⟨d, Z5 d 6, 0⟩ := by unfold X2; rw [h.keep0]
theorem Dk.Good.of {d d' : Dk} (h : d.Good) (hf : d'.Fine 0) (h3 : ∀ p, p < 6 → Kc d' p) (ht : ∀ p, p < 6 → d'.tell ((p : Nat) : Int) = d.tell (p : Int)) : d'.Good :=
 ⟨hf, h3, fun p q hp hq => by rw [ht p hp, ht q hq]; exact h.once p q hp hq⟩
theorem Dk.Good.put {d : Dk} (h : d.Good) {p : Nat} (hp : p < 6) (hr : Yd r = 0) (hk : r.kind ≠ 1) (ht : (d.tell (p : Int)).kind = 1) (hv : ∀ q, q < 6 → (d.tell ((q : Nat) : Int)).kind ≠ 1 → (d.tell (q : Int)).ver ≠ r.ver) (x y : Bool) : (d.half p r x y).Good := by
 obtain ⟨h3, htell⟩ := Zlp h.fine hp hr hk (h.three p hp) ht x y;have hoth : ∀ q, q < 6 → q ≠ p → (d.half p r x y).tell ((q : Nat) : Int) = d.tell (q : Int) := fun q hq hne => (Qy h.fine hp hq hne hr x y).2
 have hthree : ∀ q, q < 6 → Kc (d.half p r x y) q := fun q hq => by
  by_cases e : q = p
  ·subst e; exact h3
  ·have hn := Xd (Q2 h.fine hp hr x y).len hq;exact Zat hn (by rw [(Qy h.fine hp hq e hr x y).1]; exact Zb9 (Xd h.fine.len hq) (h.three q hq))
 refine ⟨Q2 h.fine hp hr x y, hthree, fun a b ha hb => ?_⟩;by_cases ea : a = p
 ·subst ea;by_cases eb : b = a
  ·intro _ _ _; exact eb.symm
  ·rw [hoth b hb eb, htell];intro k1 k2 k3;split at k1
   ·rename_i hxy;rw [if_pos hxy] at k3;exact absurd k3.symm (hv b hb k2)
   ·exact absurd ht k1
 ·by_cases eb : b = p
  ·subst eb;rw [hoth a ha ea, htell];intro k1 k2 k3;split at k2
   ·rename_i hxy;rw [if_pos hxy] at k3;exact absurd k3 (hv a ha k1)
   ·exact absurd ht k2
  ·rw [hoth a ha ea, hoth b hb eb]; exact h.once a b ha hb
theorem Dk.Good.free {d : Dk} (h : d.Good) {p : Nat} (hp : p < 6) (x y : Bool) : (d.half p Rec.free x y).Good := by
 obtain ⟨h3, htell, -⟩ := Zck h.fine hp (h.three p hp) x y;have hf : Yd Rec.free = 0 := Q5;have hoth : ∀ q, q < 6 → q ≠ p → (d.half p Rec.free x y).tell ((q : Nat) : Int) = d.tell (q : Int) := fun q hq hne => (Qy h.fine hp hq hne hf x y).2
 have hthree : ∀ q, q < 6 → Kc (d.half p Rec.free x y) q := fun q hq => by
  by_cases e : q = p
  ·subst e; exact h3
  ·have hn := Xd (Q2 h.fine hp hf x y).len hq;exact Zat hn (by rw [(Qy h.fine hp hq e hf x y).1]; exact Zb9 (Xd h.fine.len hq) (h.three q hq))
 have hsub : ∀ q, q < 6 → ((d.half p Rec.free x y).tell ((q : Nat) : Int)).kind ≠ 1 → (d.half p Rec.free x y).tell ((q : Nat) : Int) = d.tell (q : Int) := fun q hq hk => by
  by_cases e : q = p
  ·subst e;rcases htell with e1 | e1
   ·exact e1
   ·rw [e1] at hk; exact absurd rfl hk
  ·exact hoth q hq e
 refine ⟨Q2 h.fine hp hf x y, hthree, fun a b ha hb k1 k2 k3 => ?_⟩;have e1 := hsub a ha k1;have e2 := hsub b hb k2;rw [e1] at k1 k3;rw [e2] at k2 k3;exact h.once a b ha hb k1 k2 k3
theorem Dk.Good.again {d : Dk} (h : d.Good) {p : Nat} (hp : p < 6) : (d.pairD (p : Int) (d.tell (p : Int))).flush.Good ∧ ∀ q, q < 6 → (d.pairD (p : Int) (d.tell (p : Int))).flush.tell ((q : Nat) : Int) = d.tell (q : Int) := by
 have hn := Xd h.fine.len hp;rw [Jd h.fine hp (Xu d _)];have key : ∀ q, q < 6 → (d.half p (d.tell (p : Int)) true true).tell ((q : Nat) : Int) = d.tell (q : Int) := fun q hq => by
  by_cases e : q = p
  ·subst e;by_cases hk : (d.tell (q : Int)).kind = 1
   ·have hfree : d.tell (q : Int) = Rec.free := by
     obtain ⟨k0, k1, -⟩ := Zfs hn (h.three q hq) hk;exact (Vx hn k0 k1).1
    rw [hfree];exact ((Zck h.fine hq (h.three q hq) true true).2.2 rfl rfl).1
   ·obtain ⟨⟨a0, -⟩, b0, -⟩ := Ko h.fine hq (Xu d (q : Int)) true true;exact (Vs (Xd (Q2 h.fine hq (Xu d (q : Int)) true true).len hq) (a0 rfl).1 (b0 rfl).1 hk).2
  ·exact (Qy h.fine hp hq e (Xu d (p : Int)) true true).2
 refine ⟨h.of (Q2 h.fine hp (Xu d _) true true) (fun q hq => ?_) key, key⟩;by_cases e : q = p
 ·subst e;obtain ⟨⟨a0, -⟩, b0, -⟩ := Ko h.fine hq (Xu d (q : Int)) true true;by_cases hk : (d.tell (q : Int)).kind = 1
  ·exact .inr (.inr ⟨by rw [(a0 rfl).1]; exact hk, by rw [(b0 rfl).1]; exact hk, by rw [(a0 rfl).2, (b0 rfl).2]; omega⟩)
  ·exact .inl ⟨_, hk, (a0 rfl).1, (b0 rfl).1⟩
 ·have hn' := Xd (Q2 h.fine hp (Xu d (p : Int)) true true).len hq;exact Zat hn' (by rw [(Qy h.fine hp hq e (Xu d (p : Int)) true true).1]; exact Zb9 (Xd h.fine.len hq) (h.three q hq))
theorem Dk.Good.flushed {d : Dk} (h : d.Good) : d.flush = d := by
 have hl := Ka h.fine;obtain ⟨b, l⟩ := d;simp only at hl;subst hl;rfl
theorem Dk.Good.mend {d : Dk} (h : d.Good) {p : Nat} (hp : p < 6) : (d.mendD (p : Int)).flush.Good ∧ ∀ q, q < 6 → (d.mendD (p : Int)).flush.tell ((q : Nat) : Int) = d.tell (q : Int) := by
 unfold Dk.mendD;by_cases h2 : 2 ≤ d.how (p : Int)
 ·rw [if_pos h2]; exact h.again hp
 ·rw [if_neg h2, h.flushed]; exact ⟨h, fun _ _ => rfl⟩
theorem Dk.Good.twice {d : Dk} (h : d.Good) : ∀ n, n ≤ 6 → Ym d n = []
 | 0, _ => rfl
 | n + 1, hn => by
  have ih := twice h n (by omega);unfold Ym;rw [if_neg, ih];rintro ⟨hk, ha⟩;have key : ∀ q, q ≤ n → X6 d n q = true → False := by
   intro q
   induction q with
   | zero => intro _ h; cases h
   | succ q ihq =>
    intro hq hh;unfold X6 at hh;simp only [Bool.or_eq_true] at hh;rcases hh with h1 | h1
    ·exact ihq (by omega) h1
    ·obtain ⟨k1, k2⟩ := of_decide_eq_true h1;have := h.once q n (by omega) (by omega) k1 hk k2;omega
  exact key n (Nat.le_refl _) ha
theorem Dk.Good.tidy {d : Dk} (h : d.Good) : ∀ n, n ≤ 6 → (Ve d [] n).Good ∧ ∀ q, q < 6 → (Ve d [] n).tell ((q : Nat) : Int) = d.tell (q : Int)
 | 0, _ => ⟨h, fun _ _ => rfl⟩
 | n + 1, hn => by
  obtain ⟨h1, h2⟩ := tidy h n (by omega);unfold Ve;rw [if_neg (by simp)];obtain ⟨h3, h4⟩ := h1.again (p := n) (by omega);exact ⟨h3, fun q hq => (h4 q hq).trans (h2 q hq)⟩
theorem Dk.Good.cleaned {d : Dk} (h : d.Good) : d.clean.Good ∧ ∀ q, q < 6 → d.clean.tell ((q : Nat) : Int) = d.tell (q : Int) := by
 unfold Dk.clean;rw [h.keep0, h.twice 6 (by omega)];exact h.tidy 6 (by omega)
theorem Zkb (b : List UInt8) (n y : Int) (hy : y % 256 = 0) : X1 b n y = b := by
 unfold X1;split
 ·rename_i h;have h0 : lo y = 0 := by
   apply UInt8.toNat_inj.1;have := Kn y;show (lo y).toNat = 0;omega
  rw [h0, UInt8.xor_zero, Qp _ _ _ (by omega)];exact List.set_getElem_self _
 ·rfl
theorem Zmt {d : Dk} (h : d.Fine 0) (a : Nat) (ha : a < 12) (n m : Int) (b : Nat) (hb : b < 12) : Yp (d.spoil (a : Int) n m) (b : Int) = if b = a then X1 (Yp d (a : Int)) n m else Yp d (b : Int) := by
 have hl := h.len;rw [Ji (h.spoil _ _ _) hb, Ji h ha, Ji h hb];unfold Dk.spoil;rw [if_pos (by omega)];show (d.blocks.set (a : Int).toNat _).getD b [] = _;have e : (a : Int).toNat = a := by omega
 rw [e, Va _ _ _ _ _ (by omega)];by_cases h1 : a = b
 ·rw [if_pos h1, if_pos h1.symm]
 ·rw [if_neg h1, if_neg (fun h => h1 h.symm)]
theorem Zt6 {d : Dk} {p : Nat} (hn : d.noPair (p : Int) = false) (h3 : Kc d p) (hh : d.how (p : Int) < 2) : Qd d (2 * (p : Int)) = 0 ∧ Qd d (2 * (p : Int) + 1) = 0 := by
 have key : ∀ a, (Z7 d a).kind ≠ 1 → Qd d a = 0 := fun a hk => by
  by_cases e : Qd d a = 0
  ·exact e
  ·exact absurd (by rw [(Zf0 e).1]; rfl) hk
 have key2 : ∀ a, Y8 d a = 0 → Qd d a = 0 := fun a hb => by
  by_cases e : Qd d a = 0
  ·exact e
  ·rw [(Zf0 e).2] at hb; cases hb
 rcases h3 with ⟨r, hr, h0, h1⟩ | ⟨r, hr, h⟩ | ⟨h0, h1, hb⟩
 ·exact ⟨key _ (by rw [h0]; exact hr), key _ (by rw [h1]; exact hr)⟩
 ·rw [(Vz hn hr h).1] at hh; omega
 ·have b0 := V1 d (2 * (p : Int));have b1 := V1 d (2 * (p : Int) + 1);obtain ⟨-, k0, k1⟩ := Vx hn h0 h1;by_cases e : Y8 d (2 * (p : Int)) + Y8 d (2 * (p : Int) + 1) = 0
  ·exact ⟨key2 _ (by omega), key2 _ (by omega)⟩
  ·rw [k1 (by omega)] at hh; omega
theorem Dk.Good.spoilt {d : Dk} (h : d.Good) {p a : Nat} (hp : p < 6) (ha : a = 2 * p ∨ a = 2 * p + 1) (hh : d.how (p : Int) < 2) (n m : Int) (hn0 : 0 ≤ n) (hn1 : n < 16) : (d.spoil (a : Int) n m).Good ∧ ∀ q, q < 6 → (d.spoil (a : Int) n m).tell ((q : Nat) : Int) = d.tell (q : Int) := by
 have ha12 : a < 12 := by omega
 have hn := Xd h.fine.len hp;have hf := h.fine.spoil (a : Int) n m;have hn' := Xd hf.len hp;have h3 := h.three p hp;obtain ⟨l0, l1⟩ := Zt6 hn h3 hh;have hside := fun b hb => Zmt h.fine a ha12 n m b hb
 have hoth : ∀ q, q < 6 → q ≠ p → (d.spoil (a : Int) n m).how ((q : Nat) : Int) = d.how (q : Int) ∧ (d.spoil (a : Int) n m).tell ((q : Nat) : Int) = d.tell (q : Int) := fun q hq hne => by
  have h0 := hside (2 * q) (by omega);have h1 := hside (2 * q + 1) (by omega);rw [if_neg (by omega)] at h0 h1;exact Zci (hf.len.trans h.fine.len.symm) (by simpa using h0) (by simpa using h1)
 have main : Kc (d.spoil (a : Int) n m) p ∧ (d.spoil (a : Int) n m).tell (p : Int) = d.tell (p : Int) := by
  have c0 : ((2 * p : Nat) : Int) = 2 * (p : Int) := by omega
  have c1 : ((2 * p + 1 : Nat) : Int) = 2 * (p : Int) + 1 := by omega
  have s0 := hside (2 * p) (by omega);have s1 := hside (2 * p + 1) (by omega);rw [c0] at s0;rw [c1] at s1;by_cases hm : m % 256 = 0
  ·rw [Zkb _ _ _ hm] at s0 s1;have e0 : Yp (d.spoil (a : Int) n m) (2 * (p : Int)) = Yp d (2 * (p : Int)) := by
    rw [s0]; split
    ·rename_i e; rw [← c0, e]
    ·rfl
   have e1 : Yp (d.spoil (a : Int) n m) (2 * (p : Int) + 1) = Yp d (2 * (p : Int) + 1) := by
    rw [s1]; split
    ·rename_i e; rw [← c1, e]
    ·rfl
   obtain ⟨k1, k2⟩ := Zci (p := (p : Int)) (hf.len.trans h.fine.len.symm) e0 e1;exact ⟨Zat hn' (by rw [k1]; omega), k2⟩
  ·have bad : Qd d (a : Int) = 0 → Z7 (d.spoil (a : Int) n m) (a : Int) = Rec.free ∧ Y8 (d.spoil (a : Int) n m) (a : Int) = 1 := fun he => by
    obtain ⟨hw, hbk⟩ := Zhh (Yp d (a : Int)) (a : Int) he;have hs := hside a ha12;rw [if_pos rfl, ← hbk] at hs;refine Zkj (r := Y6 (Yp d (a : Int)) (a : Int)) (n := n) (y := m) ?_ hw hn0 (by rw [Zj0 _ _ hw]; exact hn1) hm;have hg : ∃ z, (d.spoil (a : Int) n m).get (a : Int) = some z := by
     unfold Dk.get;rw [if_neg (by have := hf.len; omega)];exact ⟨_, rfl⟩
    obtain ⟨z, hz⟩ := hg;have hz2 : Yp (d.spoil (a : Int) n m) (a : Int) = z := by unfold Yp; rw [hz]; rfl
    rw [hz2] at hs;rw [hz, hs]
   have kf : Rec.free.kind = 1 := rfl;rcases ha with rfl | rfl
   ·have hb := bad (by rw [c0]; exact l0);rw [c0] at hb;rw [if_neg (by omega)] at s1;obtain ⟨t1, t2⟩ := Zcc s1;rw [c0] at t1 t2;rcases h3 with ⟨r, hr, h0, h1⟩ | ⟨r, hr, hx⟩ | ⟨h0, h1, hbs⟩
    ·have hh2 : Z7 (d.spoil (2 * (p : Int)) n m) (2 * (p : Int) + 1) = r ∧ (Z7 (d.spoil (2 * (p : Int)) n m) (2 * (p : Int))).kind = 1 := ⟨by rw [t1]; exact h1, by rw [hb.1]; rfl⟩;rw [c0] at hn' ⊢;exact ⟨.inr (.inl ⟨r, hr, .inr hh2⟩), by rw [(Vz hn' hr (.inr hh2)).2, (Vs hn h0 h1 hr).2]⟩
    ·rw [(Vz hn hr hx).1] at hh; omega
    ·have b1 : Y8 d (2 * (p : Int) + 1) = 0 := by unfold Y8; rw [if_pos l1]
     rw [c0] at hn' ⊢;have g0 : (Z7 (d.spoil (2 * (p : Int)) n m) (2 * (p : Int))).kind = 1 := by rw [hb.1]; rfl
     have g1 : (Z7 (d.spoil (2 * (p : Int)) n m) (2 * (p : Int) + 1)).kind = 1 := by rw [t1]; exact h1
     exact ⟨.inr (.inr ⟨g0, g1, by rw [hb.2, t2, b1]; omega⟩), by rw [(Vx hn' g0 g1).1, (Vx hn h0 h1).1]⟩
   ·have hb := bad (by rw [c1]; exact l1);rw [c1] at hb;rw [if_neg (by omega)] at s0;obtain ⟨t1, t2⟩ := Zcc s0;rw [c1] at t1 t2;rcases h3 with ⟨r, hr, h0, h1⟩ | ⟨r, hr, hx⟩ | ⟨h0, h1, hbs⟩
    ·have hh2 : Z7 (d.spoil (2 * (p : Int) + 1) n m) (2 * (p : Int)) = r ∧ (Z7 (d.spoil (2 * (p : Int) + 1) n m) (2 * (p : Int) + 1)).kind = 1 := ⟨by rw [t1]; exact h0, by rw [hb.1]; rfl⟩;rw [c1] at hn' ⊢;exact ⟨.inr (.inl ⟨r, hr, .inl hh2⟩), by rw [(Vz hn' hr (.inl hh2)).2, (Vs hn h0 h1 hr).2]⟩
    ·rw [(Vz hn hr hx).1] at hh; omega
    ·have b1 : Y8 d (2 * (p : Int)) = 0 := by unfold Y8; rw [if_pos l0]
     rw [c1] at hn' ⊢;have g1 : (Z7 (d.spoil (2 * (p : Int) + 1) n m) (2 * (p : Int) + 1)).kind = 1 := by rw [hb.1]; rfl
     have g0 : (Z7 (d.spoil (2 * (p : Int) + 1) n m) (2 * (p : Int))).kind = 1 := by rw [t1]; exact h0
     exact ⟨.inr (.inr ⟨g0, g1, by rw [hb.2, t2, b1]; omega⟩), by rw [(Vx hn' g0 g1).1, (Vx hn h0 h1).1]⟩
 refine ⟨h.of hf (fun q hq => ?_) (fun q hq => ?_), fun q hq => ?_⟩
 ·by_cases e : q = p
  ·subst e; exact main.1
  ·exact Zat (Xd hf.len hq) (by rw [(hoth q hq e).1]; exact Zb9 (Xd h.fine.len hq) (h.three q hq))
 ·by_cases e : q = p
  ·subst e; exact main.2
  ·exact (hoth q hq e).2
 ·by_cases e : q = p
  ·subst e; exact main.2
  ·exact (hoth q hq e).2
end Go.Proofs.YtpdnapbchcdhlacGreat
