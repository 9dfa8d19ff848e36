import Derived.Test.YtikhknkpndhakabGreatRScrub
import Derived.Test.YtikhknkpndhakabGreatRClean
set_option maxHeartbeats 8000000
namespace Go.Proofs.YtikhknkpndhakabGreat
set_option maxRecDepth 100000
open Plain
theorem Zb8 {d : Dk} (h : d.Fine 0) : d.late = [] := List.eq_nil_of_length_eq_zero (by have := h.few; omega)
theorem Zjq {d : Dk} (h : d.Fine 0) {a : Nat} (ha : a < 12) : Xg d (a : Int) = d.blocks.getD a [] := by
 unfold Xg Dk.get;rw [if_neg (by have := h.len; omega), Zb8 h];simp [Qk]
theorem Zp0 {d d' : Dk} (hl : d'.blocks.length = d.blocks.length) {p : Int} (h0 : Xg d' (2 * p) = Xg d (2 * p)) (h1 : Xg d' (2 * p + 1) = Xg d (2 * p + 1)) : d'.how p = d.how p ∧ d'.tell p = d.tell p := by
 unfold Dk.how Dk.tell Zbr Y0 Xd Yf Vf Dk.noPair;rw [h0, h1, hl]; exact ⟨rfl, rfl⟩
theorem Zhg {d d' : Dk} {a : Int} (h : Xg d' a = Xg d a) : Yf d' a = Yf d a ∧ Xd d' a = Xd d a := by
 unfold Yf Xd Vf;rw [h]; exact ⟨rfl, rfl⟩
theorem Qz {d : Dk} (h : d.blocks.length = 12) {p : Nat} (hp : p < 6) : d.noPair (p : Int) = false := Zps (by omega) (by rw [h]; omega)
def Kr (d : Dk) (p : Nat) : Prop :=
 (∃ r : Rec, r.kind ≠ 1 ∧ Yf d (2 * (p : Int)) = r ∧ Yf d (2 * (p : Int) + 1) = r) ∨
 (∃ r : Rec, r.kind ≠ 1 ∧ (Yf d (2 * (p : Int)) = r ∧ (Yf d (2 * (p : Int) + 1)).kind = 1 ∨ Yf d (2 * (p : Int) + 1) = r ∧ (Yf d (2 * (p : Int))).kind = 1)) ∨
 ((Yf d (2 * (p : Int))).kind = 1 ∧ (Yf d (2 * (p : Int) + 1)).kind = 1 ∧ Xd d (2 * (p : Int)) + Xd d (2 * (p : Int) + 1) ≤ 1)
theorem Zc5 {d : Dk} {p : Int} (hn : d.noPair p = false) (h0 : (Yf d (2 * p)).kind = 1) (h1 : (Yf d (2 * p + 1)).kind = 1) : d.tell p = Rec.free ∧ (Xd d (2 * p) + Xd d (2 * p + 1) = 0 → d.how p = 0) ∧ (Xd d (2 * p) + Xd d (2 * p + 1) = 1 → d.how p = 3) := by
 have s0 := Ka h0;have s1 := Ka h1;unfold Dk.how Dk.tell;rw [hn, s0, s1];refine ⟨by simp, fun h => ?_, fun h => ?_⟩
 ·rw [h]; simp
 ·rw [h]; simp
theorem Zhb {d : Dk} {p : Nat} (hn : d.noPair (p : Int) = false) (h : Kr d p) : d.how (p : Int) ≤ 3 := by
 rcases h with ⟨r, hr, h0, h1⟩ | ⟨r, hr, h⟩ | ⟨h0, h1, hb⟩
 ·rw [(Zbp hn h0 h1 hr).1]; omega
 ·rw [(Za1 hn hr h).1]; omega
 ·obtain ⟨-, k0, k1⟩ := Zc5 hn h0 h1;have := Jx d (2 * (p : Int));have := Jx d (2 * (p : Int) + 1);by_cases e : Xd d (2 * (p : Int)) + Xd d (2 * (p : Int) + 1) = 0
  ·rw [k0 e]; omega
  ·rw [k1 (by omega)]; omega
theorem Zhx {d : Dk} {p : Nat} (hn : d.noPair (p : Int) = false) (h : d.how (p : Int) ≤ 3) : Kr d p := by
 unfold Dk.how at h;rw [hn, if_neg (by simp)] at h;by_cases k0 : (Yf d (2 * (p : Int))).kind = 1
 ·have s0 := Ka k0;by_cases k1 : (Yf d (2 * (p : Int) + 1)).kind = 1
  ·have s1 := Ka k1;rw [s0, s1, if_neg (by omega), if_neg (by omega)] at h;refine .inr (.inr ⟨k0, k1, ?_⟩);by_cases e0 : Xd d (2 * (p : Int)) + Xd d (2 * (p : Int) + 1) = 0
   ·omega
   ·rw [if_neg e0] at h;by_cases e1 : Xd d (2 * (p : Int)) + Xd d (2 * (p : Int) + 1) = 1
    ·omega
    ·rw [if_neg e1] at h; omega
  ·exact .inr (.inl ⟨_, k1, .inr ⟨rfl, k0⟩⟩)
 ·have s0 := K1 k0;by_cases k1 : (Yf d (2 * (p : Int) + 1)).kind = 1
  ·exact .inr (.inl ⟨_, k0, .inl ⟨rfl, k1⟩⟩)
  ·have s1 := K1 k1;rw [s0, s1, if_pos (by omega)] at h;by_cases e : Q5 (Yf d (2 * (p : Int))) (Yf d (2 * (p : Int) + 1)) = true
   ·exact .inl ⟨_, k0, rfl, ((Zbz _ _).1 e).symm⟩
   ·rw [if_neg e] at h; omega
def Dk.half (d : Dk) (p : Nat) (r : Rec) (x y : Bool) : Dk :=
 ⟨if y = true then (if x = true then d.blocks.set (2 * p) (blk r (2 * (p : Int))) else d.blocks).set (2 * p + 1) (blk r (2 * (p : Int) + 1)) else (if x = true then d.blocks.set (2 * p) (blk r (2 * (p : Int))) else d.blocks), []⟩
theorem Zkd {d : Dk} (h : d.Fine 0) {p : Nat} (hp : p < 6) {r : Rec} (hr : Yb r = 0) : d.pairD (p : Int) r = ⟨d.blocks, [(2 * (p : Int), blk r (2 * (p : Int))), (2 * (p : Int) + 1, blk r (2 * (p : Int) + 1))]⟩ := by
 have he : d.pairE (p : Int) r = 0 := by rw [Zkc (by omega) (by rw [h.len]; omega), hr]
 unfold Dk.pairD;rw [if_pos he];unfold Dk.pairW;rw [Zb8 h]; rfl
theorem Zd2 {d : Dk} (h : d.Fine 0) {p : Nat} (hp : p < 6) {r : Rec} (hr : Yb r = 0) (on : Nat → Bool) : (⟨(d.pairD (p : Int) r).keepTo on (d.pairD (p : Int) r).late.length, []⟩ : Dk) = d.half p r (on 0) (on 1) := by
 rw [Zkd h hp hr];have e0 : (2 * (p : Int)).toNat = 2 * p := by omega
 have e1 : (2 * (p : Int) + 1).toNat = 2 * p + 1 := by omega
 simp only [Dk.half, Dk.keepTo, List.length_cons, List.length_nil, List.getD_cons_zero, List.getD_cons_succ, e0, e1]
theorem Zpp {d : Dk} (h : d.Fine 0) {p : Nat} (hp : p < 6) {r : Rec} (hr : Yb r = 0) (bits : Int) : (d.pairD (p : Int) r).keep bits = d.half p r (Q6 bits 0) (Q6 bits 1) := Zd2 h hp hr _
theorem Zin {d : Dk} (h : d.Fine 0) {p : Nat} (hp : p < 6) {r : Rec} (hr : Yb r = 0) : (d.pairD (p : Int) r).flush = d.half p r true true := Zd2 h hp hr _
theorem V1 {d : Dk} (h : d.Fine 0) {p : Nat} (_hp : p < 6) {r : Rec} (hr : Yb r = 0) (x y : Bool) : (d.half p r x y).Fine 0 := by
 have hl := h.len;refine ⟨?_, Nat.le_refl _, ?_, (fun x hx => by cases hx), (fun x hx => by cases hx)⟩
 ·unfold Dk.half;cases x <;> cases y <;> simp [hl]
 ·have key : ∀ (l : List (List UInt8)) (i : Nat) (a : Int), (∀ z ∈ l, z.length = 16) → ∀ z ∈ l.set i (blk r a), z.length = 16 := fun l i a hh z hz => by
   rcases List.mem_or_eq_of_mem_set hz with h1 | h1
   ·exact hh z h1
   ·rw [h1]; exact Znh r a hr
  unfold Dk.half;cases x <;> cases y
  ·exact h.block
  ·exact key _ _ _ h.block
  ·exact key _ _ _ h.block
  ·exact key _ _ _ (key _ _ _ h.block)
theorem Zb6 (d : Dk) (h : d.Fine 0) (p : Nat) (r : Rec) : d.half p r false false = d := by
 have := Zb8 h;obtain ⟨b, l⟩ := d;simp only at this;subst this;rfl
theorem Zb5 {d : Dk} (h : d.Fine 0) {p : Nat} (hp : p < 6) {r : Rec} (hr : Yb r = 0) (x y : Bool) (a : Nat) (ha : a < 12) :
  Xg (d.half p r x y) (a : Int) = if a = 2 * p + 1 ∧ y = true then blk r (2 * (p : Int) + 1) else if a = 2 * p ∧ x = true then blk r (2 * (p : Int)) else Xg d (a : Int) := by
 have hl := h.len;rw [Zjq (V1 h hp hr x y) ha, Zjq h ha];unfold Dk.half;cases x <;> cases y <;> simp only [Bool.false_eq_true, if_false, if_true, and_false, and_true]
 ·rw [Y6 _ _ _ _ _ (by omega)];by_cases e : 2 * p + 1 = a
  ·rw [if_pos e, if_pos e.symm]
  ·rw [if_neg e, if_neg (fun h => e h.symm)]
 ·rw [Y6 _ _ _ _ _ (by omega)];by_cases e : 2 * p = a
  ·rw [if_pos e, if_pos e.symm]
  ·rw [if_neg e, if_neg (fun h => e h.symm)]
 ·rw [Y6 _ _ _ _ _ (by rw [List.length_set]; omega), Y6 _ _ _ _ _ (by omega)];by_cases e : 2 * p + 1 = a
  ·rw [if_pos e, if_pos e.symm]
  ·have e' : ¬ a = 2 * p + 1 := fun h => e h.symm
   rw [if_neg e, if_neg e'];by_cases e2 : 2 * p = a
   ·rw [if_pos e2, if_pos e2.symm]
   ·have e2' : ¬ a = 2 * p := fun h => e2 h.symm
    rw [if_neg e2, if_neg e2']
theorem Kf {d : Dk} (h : d.Fine 0) {p q : Nat} (hp : p < 6) (hq : q < 6) (hne : q ≠ p) {r : Rec} (hr : Yb r = 0) (x y : Bool) : (d.half p r x y).how (q : Int) = d.how (q : Int) ∧ (d.half p r x y).tell (q : Int) = d.tell (q : Int) := by
 have h0 := Zb5 h hp hr x y (2 * q) (by omega);have h1 := Zb5 h hp hr x y (2 * q + 1) (by omega);rw [if_neg (by omega), if_neg (by omega)] at h0 h1;exact Zp0 ((V1 h hp hr x y).len.trans h.len.symm) (by simpa using h0) (by simpa using h1)
theorem Zf6 {d : Dk} (h : d.Fine 0) {p : Nat} (hp : p < 6) {r : Rec} (hr : Yb r = 0) (x y : Bool) :
  ((x = true → Yf (d.half p r x y) (2 * (p : Int)) = r ∧ Xd (d.half p r x y) (2 * (p : Int)) = 0) ∧ (x = false → Yf (d.half p r x y) (2 * (p : Int)) = Yf d (2 * (p : Int)) ∧ Xd (d.half p r x y) (2 * (p : Int)) = Xd d (2 * (p : Int)))) ∧
  ((y = true → Yf (d.half p r x y) (2 * (p : Int) + 1) = r ∧ Xd (d.half p r x y) (2 * (p : Int) + 1) = 0) ∧ (y = false → Yf (d.half p r x y) (2 * (p : Int) + 1) = Yf d (2 * (p : Int) + 1) ∧ Xd (d.half p r x y) (2 * (p : Int) + 1) = Xd d (2 * (p : Int) + 1))) := by
 have h0 := Zb5 h hp hr x y (2 * p) (by omega);have h1 := Zb5 h hp hr x y (2 * p + 1) (by omega);rw [if_neg (by omega)] at h0;have c0 : ((2 * p : Nat) : Int) = 2 * (p : Int) := by omega
 have c1 : ((2 * p + 1 : Nat) : Int) = 2 * (p : Int) + 1 := by omega
 rw [c0] at h0;rw [c1] at h1;have key : ∀ a : Int, 0 ≤ a → a ≤ 255 → Xg (d.half p r x y) a = blk r a → Yf (d.half p r x y) a = r ∧ Xd (d.half p r x y) a = 0 := fun a ha ha' hb => by
  obtain ⟨he, hR⟩ := Zj3 r a hr ha ha';unfold Xd Yf Vf;rw [hb, if_pos he, if_pos he]; exact ⟨hR, rfl⟩
 refine ⟨⟨fun e => ?_, fun e => ?_⟩, fun e => ?_, fun e => ?_⟩
 ·rw [if_pos ⟨rfl, e⟩] at h0; exact key _ (by omega) (by omega) h0
 ·rw [if_neg (by simp [e])] at h0; exact Zhg h0
 ·rw [if_pos ⟨rfl, e⟩] at h1; exact key _ (by omega) (by omega) h1
 ·rw [if_neg (by simp [e]), if_neg (by omega)] at h1; exact Zhg h1
theorem Zlq {d : Dk} {p : Nat} (hn : d.noPair (p : Int) = false) (h : Kr d p) (hk : (d.tell (p : Int)).kind = 1) : (Yf d (2 * (p : Int))).kind = 1 ∧ (Yf d (2 * (p : Int) + 1)).kind = 1 ∧ Xd d (2 * (p : Int)) + Xd d (2 * (p : Int) + 1) ≤ 1 := by
 rcases h with ⟨r, hr, h0, h1⟩ | ⟨r, hr, h⟩ | h
 ·rw [(Zbp hn h0 h1 hr).2] at hk; exact absurd hk hr
 ·rw [(Za1 hn hr h).2] at hk; exact absurd hk hr
 ·exact h
theorem Zkq {d : Dk} (h : d.Fine 0) {p : Nat} (hp : p < 6) {r : Rec} (hr : Yb r = 0) (hk : r.kind ≠ 1) (h3 : Kr d p) (ht : (d.tell (p : Int)).kind = 1) (x y : Bool) :
  Kr (d.half p r x y) p ∧ (d.half p r x y).tell (p : Int) = if (x || y) = true then r else d.tell (p : Int) := by
 have hn := Qz h.len hp;have hn' := Qz (V1 h hp hr x y).len hp;obtain ⟨k0, k1, kb⟩ := Zlq hn h3 ht;obtain ⟨⟨a0, a1⟩, b0, b1⟩ := Zf6 h hp hr x y;cases x with
 | true =>
  cases y with
  | true => exact ⟨.inl ⟨r, hk, (a0 rfl).1, (b0 rfl).1⟩, (Zbp hn' (a0 rfl).1 (b0 rfl).1 hk).2⟩
  | false =>
   have h2 : Yf (d.half p r true false) (2 * (p : Int)) = r ∧ (Yf (d.half p r true false) (2 * (p : Int) + 1)).kind = 1 := ⟨(a0 rfl).1, by rw [(b1 rfl).1]; exact k1⟩;exact ⟨.inr (.inl ⟨r, hk, .inl h2⟩), (Za1 hn' hk (.inl h2)).2⟩
 | false =>
  cases y with
  | true =>
   have h2 : Yf (d.half p r false true) (2 * (p : Int) + 1) = r ∧ (Yf (d.half p r false true) (2 * (p : Int))).kind = 1 := ⟨(b0 rfl).1, by rw [(a1 rfl).1]; exact k0⟩;exact ⟨.inr (.inl ⟨r, hk, .inr h2⟩), (Za1 hn' hk (.inr h2)).2⟩
  | false =>
   rw [Zb6 d h];exact ⟨h3, rfl⟩
theorem Zdu {d : Dk} (h : d.Fine 0) {p : Nat} (hp : p < 6) (h3 : Kr d p) (x y : Bool) :
  Kr (d.half p Rec.free x y) p ∧ ((d.half p Rec.free x y).tell (p : Int) = d.tell (p : Int) ∨ (d.half p Rec.free x y).tell (p : Int) = Rec.free) ∧ (x = true → y = true → (d.half p Rec.free x y).tell (p : Int) = Rec.free ∧ (d.half p Rec.free x y).how (p : Int) = 0) := by
 have hn := Qz h.len hp;have hf : Yb Rec.free = 0 := Vd;have hn' := Qz (V1 h hp hf x y).len hp;obtain ⟨⟨a0, a1⟩, b0, b1⟩ := Zf6 h hp hf x y;have kf : Rec.free.kind = 1 := rfl;have bd0 := Jx d (2 * (p : Int));have bd1 := Jx d (2 * (p : Int) + 1);have both : x = true → y = true → Kr (d.half p Rec.free x y) p ∧ (d.half p Rec.free x y).tell (p : Int) = Rec.free ∧ (d.half p Rec.free x y).how (p : Int) = 0 := fun hx hy => by
  have c0 : (Yf (d.half p Rec.free x y) (2 * (p : Int))).kind = 1 := by rw [(a0 hx).1]; rfl
  have c1 : (Yf (d.half p Rec.free x y) (2 * (p : Int) + 1)).kind = 1 := by rw [(b0 hy).1]; rfl
  obtain ⟨t, k, -⟩ := Zc5 hn' c0 c1;exact ⟨.inr (.inr ⟨c0, c1, by rw [(a0 hx).2, (b0 hy).2]; omega⟩), t, k (by rw [(a0 hx).2, (b0 hy).2]; omega)⟩
 have none' : (Yf (d.half p Rec.free x y) (2 * (p : Int))).kind = 1 → (Yf (d.half p Rec.free x y) (2 * (p : Int) + 1)).kind = 1 → Xd (d.half p Rec.free x y) (2 * (p : Int)) + Xd (d.half p Rec.free x y) (2 * (p : Int) + 1) ≤ 1 → Kr (d.half p Rec.free x y) p ∧ (d.half p Rec.free x y).tell (p : Int) = Rec.free := fun c0 c1 hb => ⟨.inr (.inr ⟨c0, c1, hb⟩), (Zc5 hn' c0 c1).1⟩
 have one' : ∀ r : Rec, r.kind ≠ 1 → (Yf (d.half p Rec.free x y) (2 * (p : Int)) = r ∧ (Yf (d.half p Rec.free x y) (2 * (p : Int) + 1)).kind = 1 ∨ Yf (d.half p Rec.free x y) (2 * (p : Int) + 1) = r ∧ (Yf (d.half p Rec.free x y) (2 * (p : Int))).kind = 1) → Kr (d.half p Rec.free x y) p ∧ (d.half p Rec.free x y).tell (p : Int) = r := fun r hr hh => ⟨.inr (.inl ⟨r, hr, hh⟩), (Za1 hn' hr hh).2⟩
 refine (fun (k : Kr (d.half p Rec.free x y) p ∧ ((d.half p Rec.free x y).tell (p : Int) = d.tell (p : Int) ∨ (d.half p Rec.free x y).tell (p : Int) = Rec.free)) => ⟨k.1, k.2, fun hx hy => (both hx hy).2⟩) ?_;cases hx : x with
 | false =>
  cases hy : y with
  | false => rw [Zb6 d h]; exact ⟨h3, .inl rfl⟩
  | true =>
   subst hx; subst hy;rcases h3 with ⟨r, hr, h0, h1⟩ | ⟨r, hr, ⟨h0, h1⟩ | ⟨h1, h0⟩⟩ | ⟨h0, h1, hb⟩
   ·obtain ⟨t1, t2⟩ := one' r hr (.inl ⟨by rw [(a1 rfl).1]; exact h0, by rw [(b0 rfl).1]; rfl⟩);exact ⟨t1, .inl (by rw [t2, (Zbp hn h0 h1 hr).2])⟩
   ·obtain ⟨t1, t2⟩ := one' r hr (.inl ⟨by rw [(a1 rfl).1]; exact h0, by rw [(b0 rfl).1]; rfl⟩);exact ⟨t1, .inl (by rw [t2, (Za1 hn hr (.inl ⟨h0, h1⟩)).2])⟩
   ·obtain ⟨t1, t2⟩ := none' (by rw [(a1 rfl).1]; exact h0) (by rw [(b0 rfl).1]; rfl) (by rw [(a1 rfl).2, (b0 rfl).2]; omega);exact ⟨t1, .inr t2⟩
   ·obtain ⟨t1, t2⟩ := none' (by rw [(a1 rfl).1]; exact h0) (by rw [(b0 rfl).1]; rfl) (by rw [(a1 rfl).2, (b0 rfl).2]; omega);exact ⟨t1, .inr t2⟩
 | true =>
  cases hy : y with
  | true => subst hx; subst hy; exact ⟨(both rfl rfl).1, .inr (both rfl rfl).2.1⟩
  | false =>
   subst hx; subst hy;rcases h3 with ⟨r, hr, h0, h1⟩ | ⟨r, hr, ⟨h0, h1⟩ | ⟨h1, h0⟩⟩ | ⟨h0, h1, hb⟩
   ·obtain ⟨t1, t2⟩ := one' r hr (.inr ⟨by rw [(b1 rfl).1]; exact h1, by rw [(a0 rfl).1]; rfl⟩);exact ⟨t1, .inl (by rw [t2, (Zbp hn h0 h1 hr).2])⟩
   ·obtain ⟨t1, t2⟩ := none' (by rw [(a0 rfl).1]; rfl) (by rw [(b1 rfl).1]; exact h1) (by rw [(a0 rfl).2, (b1 rfl).2]; omega);exact ⟨t1, .inr t2⟩
   ·obtain ⟨t1, t2⟩ := one' r hr (.inr ⟨by rw [(b1 rfl).1]; exact h1, by rw [(a0 rfl).1]; rfl⟩);exact ⟨t1, .inl (by rw [t2, (Za1 hn hr (.inr ⟨h1, h0⟩)).2])⟩
   ·obtain ⟨t1, t2⟩ := none' (by rw [(a0 rfl).1]; rfl) (by rw [(b1 rfl).1]; exact h1) (by rw [(a0 rfl).2, (b1 rfl).2]; omega);exact ⟨t1, .inr t2⟩
end Go.Proofs.YtikhknkpndhakabGreat
