import Derived.Test.YtpdnapbchcdhlacGreatMdlC
set_option maxHeartbeats 8000000
namespace Go.Proofs.YtpdnapbchcdhlacGreat
set_option maxRecDepth 100000
open Plain
variable {r : Rec}
theorem Vt {d : Dk} (h : d.Fine 0) : d.late = [] := List.eq_nil_of_length_eq_zero (by have := h.few; omega)
theorem Ky {d : Dk} (h : d.Fine 0) {a : Nat} (ha : a < 12) : Yf d (a : Int) = d.blocks.getD a [] := by
 unfold Yf Dk.get;rw [if_neg (by have := h.len; omega), Vt h];simp [Qj]
theorem Zbo {d d' : Dk} (hl : d'.blocks.length = d.blocks.length) {p : Int} (h0 : Yf d' (2 * p) = Yf d (2 * p)) (h1 : Yf d' (2 * p + 1) = Yf d (2 * p + 1)) : d'.how p = d.how p ∧ d'.tell p = d.tell p := by
 unfold Dk.how Dk.tell Km Yl Yy Z0 Xu Dk.noPair;rw [h0, h1, hl]; exact ⟨rfl, rfl⟩
theorem Zbi {d d' : Dk} {a : Int} (h : Yf d' a = Yf d a) : Z0 d' a = Z0 d a ∧ Yy d' a = Yy d a := by
 unfold Z0 Yy Xu;rw [h]; exact ⟨rfl, rfl⟩
theorem Y7 {d : Dk} (h : d.blocks.length = 12) {p : Nat} (hp : p < 6) : d.noPair (p : Int) = false := Zdt (by omega) (by rw [h]; omega)
def Vv (d : Dk) (p : Nat) : Prop :=
 (∃ r : Rec, r.kind ≠ 1 ∧ Z0 d (2 * (p : Int)) = r ∧ Z0 d (2 * (p : Int) + 1) = r) ∨
 (∃ r : Rec, r.kind ≠ 1 ∧ (Z0 d (2 * (p : Int)) = r ∧ (Z0 d (2 * (p : Int) + 1)).kind = 1 ∨ Z0 d (2 * (p : Int) + 1) = r ∧ (Z0 d (2 * (p : Int))).kind = 1)) ∨
 ((Z0 d (2 * (p : Int))).kind = 1 ∧ (Z0 d (2 * (p : Int) + 1)).kind = 1 ∧ Yy d (2 * (p : Int)) + Yy d (2 * (p : Int) + 1) ≤ 1)
theorem Vj {d : Dk} {p : Int} (hn : d.noPair p = false) (h0 : (Z0 d (2 * p)).kind = 1) (h1 : (Z0 d (2 * p + 1)).kind = 1) : d.tell p = Rec.free ∧ (Yy d (2 * p) + Yy d (2 * p + 1) = 0 → d.how p = 0) ∧ (Yy d (2 * p) + Yy d (2 * p + 1) = 1 → d.how p = 3) := by
 have s0 := Xw h0;have s1 := Xw h1;unfold Dk.how Dk.tell;rw [hn, s0, s1];refine ⟨by simp, fun h => ?_, fun h => ?_⟩
 ·rw [h]; simp
 ·rw [h]; simp
theorem Zbf {d : Dk} {p : Nat} (hn : d.noPair (p : Int) = false) (h : Vv d p) : d.how (p : Int) ≤ 3 := by
 rcases h with ⟨r, hr, h0, h1⟩ | ⟨r, hr, h⟩ | ⟨h0, h1, hb⟩
 ·rw [(Vb hn h0 h1 hr).1]; omega
 ·rw [(Vl hn hr h).1]; omega
 ·obtain ⟨-, k0, k1⟩ := Vj hn h0 h1;have := Vm d (2 * (p : Int));have := Vm d (2 * (p : Int) + 1);by_cases e : Yy d (2 * (p : Int)) + Yy d (2 * (p : Int) + 1) = 0
  ·rw [k0 e]; omega
  ·rw [k1 (by omega)]; omega
theorem J6 {d : Dk} {p : Nat} (hn : d.noPair (p : Int) = false) (h : d.how (p : Int) ≤ 3) : Vv d p := by
 unfold Dk.how at h;rw [hn, if_neg (by simp)] at h;by_cases k0 : (Z0 d (2 * (p : Int))).kind = 1
 ·have s0 := Xw k0;by_cases k1 : (Z0 d (2 * (p : Int) + 1)).kind = 1
  ·have s1 := Xw k1;rw [s0, s1, if_neg (by omega), if_neg (by omega)] at h;refine .inr (.inr ⟨k0, k1, ?_⟩);by_cases e0 : Yy d (2 * (p : Int)) + Yy d (2 * (p : Int) + 1) = 0
   ·omega
   ·rw [if_neg e0] at h;by_cases e1 : Yy d (2 * (p : Int)) + Yy d (2 * (p : Int) + 1) = 1
    ·omega
    ·rw [if_neg e1] at h; omega
  ·exact .inr (.inl ⟨_, k1, .inr ⟨rfl, k0⟩⟩)
 ·have s0 := V3 k0;by_cases k1 : (Z0 d (2 * (p : Int) + 1)).kind = 1
  ·exact .inr (.inl ⟨_, k0, .inl ⟨rfl, k1⟩⟩)
  ·have s1 := V3 k1;rw [s0, s1, if_pos (by omega)] at h;by_cases e : Xr (Z0 d (2 * (p : Int))) (Z0 d (2 * (p : Int) + 1)) = true
   ·exact .inl ⟨_, k0, rfl, ((J0 _ _).1 e).symm⟩
   ·rw [if_neg e] at h; omega
def Dk.half (d : Dk) (p : Nat) (r : Rec) (x y : Bool) : Dk :=
 ⟨if y = true then (if x = true then d.blocks.set (2 * p) (blk r (2 * (p : Int))) else d.blocks).set (2 * p + 1) (blk r (2 * (p : Int) + 1)) else (if x = true then d.blocks.set (2 * p) (blk r (2 * (p : Int))) else d.blocks), []⟩
theorem Zse {d : Dk} (h : d.Fine 0) {p : Nat} (hp : p < 6) (hr : Z3 r = 0) : d.pairD (p : Int) r = ⟨d.blocks, [(2 * (p : Int), blk r (2 * (p : Int))), (2 * (p : Int) + 1, blk r (2 * (p : Int) + 1))]⟩ := by
 have he : d.pairE (p : Int) r = 0 := by rw [Zct (by omega) (by rw [h.len]; omega), hr]
 unfold Dk.pairD;rw [if_pos he];unfold Dk.pairW;rw [Vt h]; rfl
theorem Zd9 {d : Dk} (h : d.Fine 0) {p : Nat} (hp : p < 6) (hr : Z3 r = 0) (on : Nat → Bool) : (⟨(d.pairD (p : Int) r).keepTo on (d.pairD (p : Int) r).late.length, []⟩ : Dk) = d.half p r (on 0) (on 1) := by
 rw [Zse h hp hr];have e0 : (2 * (p : Int)).toNat = 2 * p := by omega
 have e1 : (2 * (p : Int) + 1).toNat = 2 * p + 1 := by omega
 simp only [Dk.half, Dk.keepTo, List.length_cons, List.length_nil, List.getD_cons_zero, List.getD_cons_succ, e0, e1]
theorem Zg6 {d : Dk} (h : d.Fine 0) {p : Nat} (hp : p < 6) (hr : Z3 r = 0) (bits : Int) : (d.pairD (p : Int) r).keep bits = d.half p r (Xv bits 0) (Xv bits 1) := Zd9 h hp hr _
theorem Kv {d : Dk} (h : d.Fine 0) {p : Nat} (hp : p < 6) (hr : Z3 r = 0) : (d.pairD (p : Int) r).flush = d.half p r true true := Zd9 h hp hr _
theorem Qm {d : Dk} (h : d.Fine 0) {p : Nat} (_hp : p < 6) (hr : Z3 r = 0) (x y : Bool) : (d.half p r x y).Fine 0 := by
 have hl := h.len;refine ⟨?_, Nat.le_refl _, ?_, (fun x hx => by cases hx), (fun x hx => by cases hx)⟩
 ·unfold Dk.half;cases x <;> cases y <;> simp [hl]
 ·have key : ∀ (l : List (List UInt8)) (i : Nat) (a : Int), (∀ z ∈ l, z.length = 16) → ∀ z ∈ l.set i (blk r a), z.length = 16 := fun l i a hh z hz => by
   rcases List.mem_or_eq_of_mem_set hz with h1 | h1
   ·exact hh z h1
   ·rw [h1]; exact Ziq r a hr
  unfold Dk.half;cases x <;> cases y
  ·exact h.block
  ·exact key _ _ _ h.block
  ·exact key _ _ _ h.block
  ·exact key _ _ _ (key _ _ _ h.block)
theorem Zdy (d : Dk) (h : d.Fine 0) (p : Nat) (r : Rec) : d.half p r false false = d := by
 have := Vt h;obtain ⟨b, l⟩ := d;simp only at this;subst this;rfl
theorem J7 {d : Dk} (h : d.Fine 0) {p : Nat} (hp : p < 6) (hr : Z3 r = 0) (x y : Bool) (a : Nat) (ha : a < 12) :
  Yf (d.half p r x y) (a : Int) = if a = 2 * p + 1 ∧ y = true then blk r (2 * (p : Int) + 1) else if a = 2 * p ∧ x = true then blk r (2 * (p : Int)) else Yf d (a : Int) := by
 have hl := h.len;rw [Ky (Qm h hp hr x y) ha, Ky h ha];unfold Dk.half;cases x <;> cases y <;> simp only [Bool.false_eq_true, if_false, if_true, and_false, and_true]
 ·rw [Qu _ _ _ _ _ (by omega)];by_cases e : 2 * p + 1 = a
  ·rw [if_pos e, if_pos e.symm]
  ·rw [if_neg e, if_neg (fun h => e h.symm)]
 ·rw [Qu _ _ _ _ _ (by omega)];by_cases e : 2 * p = a
  ·rw [if_pos e, if_pos e.symm]
  ·rw [if_neg e, if_neg (fun h => e h.symm)]
 ·rw [Qu _ _ _ _ _ (by rw [List.length_set]; omega), Qu _ _ _ _ _ (by omega)];by_cases e : 2 * p + 1 = a
  ·rw [if_pos e, if_pos e.symm]
  ·have e' : ¬ a = 2 * p + 1 := fun h => e h.symm
   rw [if_neg e, if_neg e'];by_cases e2 : 2 * p = a
   ·rw [if_pos e2, if_pos e2.symm]
   ·have e2' : ¬ a = 2 * p := fun h => e2 h.symm
    rw [if_neg e2, if_neg e2']
theorem Qf {d : Dk} (h : d.Fine 0) {p q : Nat} (hp : p < 6) (hq : q < 6) (hne : q ≠ p) (hr : Z3 r = 0) (x y : Bool) : (d.half p r x y).how (q : Int) = d.how (q : Int) ∧ (d.half p r x y).tell (q : Int) = d.tell (q : Int) := by
 have h0 := J7 h hp hr x y (2 * q) (by omega);have h1 := J7 h hp hr x y (2 * q + 1) (by omega);rw [if_neg (by omega), if_neg (by omega)] at h0 h1;exact Zbo ((Qm h hp hr x y).len.trans h.len.symm) (by simpa using h0) (by simpa using h1)
theorem V8 {d : Dk} (h : d.Fine 0) {p : Nat} (hp : p < 6) (hr : Z3 r = 0) (x y : Bool) :
  ((x = true → Z0 (d.half p r x y) (2 * (p : Int)) = r ∧ Yy (d.half p r x y) (2 * (p : Int)) = 0) ∧ (x = false → Z0 (d.half p r x y) (2 * (p : Int)) = Z0 d (2 * (p : Int)) ∧ Yy (d.half p r x y) (2 * (p : Int)) = Yy d (2 * (p : Int)))) ∧
  ((y = true → Z0 (d.half p r x y) (2 * (p : Int) + 1) = r ∧ Yy (d.half p r x y) (2 * (p : Int) + 1) = 0) ∧ (y = false → Z0 (d.half p r x y) (2 * (p : Int) + 1) = Z0 d (2 * (p : Int) + 1) ∧ Yy (d.half p r x y) (2 * (p : Int) + 1) = Yy d (2 * (p : Int) + 1))) := by
 have h0 := J7 h hp hr x y (2 * p) (by omega);have h1 := J7 h hp hr x y (2 * p + 1) (by omega);rw [if_neg (by omega)] at h0;have c0 : ((2 * p : Nat) : Int) = 2 * (p : Int) := by omega
 have c1 : ((2 * p + 1 : Nat) : Int) = 2 * (p : Int) + 1 := by omega
 rw [c0] at h0;rw [c1] at h1;have key : ∀ a : Int, 0 ≤ a → a ≤ 255 → Yf (d.half p r x y) a = blk r a → Z0 (d.half p r x y) a = r ∧ Yy (d.half p r x y) a = 0 := fun a ha ha' hb => by
  obtain ⟨he, hR⟩ := Zjq r a hr ha ha';unfold Yy Z0 Xu;rw [hb, if_pos he, if_pos he]; exact ⟨hR, rfl⟩
 refine ⟨⟨fun e => ?_, fun e => ?_⟩, fun e => ?_, fun e => ?_⟩
 ·rw [if_pos ⟨rfl, e⟩] at h0; exact key _ (by omega) (by omega) h0
 ·rw [if_neg (by simp [e])] at h0; exact Zbi h0
 ·rw [if_pos ⟨rfl, e⟩] at h1; exact key _ (by omega) (by omega) h1
 ·rw [if_neg (by simp [e]), if_neg (by omega)] at h1; exact Zbi h1
theorem Zew {d : Dk} {p : Nat} (hn : d.noPair (p : Int) = false) (h : Vv d p) (hk : (d.tell (p : Int)).kind = 1) : (Z0 d (2 * (p : Int))).kind = 1 ∧ (Z0 d (2 * (p : Int) + 1)).kind = 1 ∧ Yy d (2 * (p : Int)) + Yy d (2 * (p : Int) + 1) ≤ 1 := by
 rcases h with ⟨r, hr, h0, h1⟩ | ⟨r, hr, h⟩ | h
 ·rw [(Vb hn h0 h1 hr).2] at hk; exact absurd hk hr
 ·rw [(Vl hn hr h).2] at hk; exact absurd hk hr
 ·exact h
theorem Zkh {d : Dk} (h : d.Fine 0) {p : Nat} (hp : p < 6) (hr : Z3 r = 0) (hk : r.kind ≠ 1) (h3 : Vv d p) (ht : (d.tell (p : Int)).kind = 1) (x y : Bool) :
  Vv (d.half p r x y) p ∧ (d.half p r x y).tell (p : Int) = if (x || y) = true then r else d.tell (p : Int) := by
 have hn := Y7 h.len hp;have hn' := Y7 (Qm h hp hr x y).len hp;obtain ⟨k0, k1, kb⟩ := Zew hn h3 ht;obtain ⟨⟨a0, a1⟩, b0, b1⟩ := V8 h hp hr x y;cases x with
 | true =>
  cases y with
  | true => exact ⟨.inl ⟨r, hk, (a0 rfl).1, (b0 rfl).1⟩, (Vb hn' (a0 rfl).1 (b0 rfl).1 hk).2⟩
  | false =>
   have h2 : Z0 (d.half p r true false) (2 * (p : Int)) = r ∧ (Z0 (d.half p r true false) (2 * (p : Int) + 1)).kind = 1 := ⟨(a0 rfl).1, by rw [(b1 rfl).1]; exact k1⟩;exact ⟨.inr (.inl ⟨r, hk, .inl h2⟩), (Vl hn' hk (.inl h2)).2⟩
 | false =>
  cases y with
  | true =>
   have h2 : Z0 (d.half p r false true) (2 * (p : Int) + 1) = r ∧ (Z0 (d.half p r false true) (2 * (p : Int))).kind = 1 := ⟨(b0 rfl).1, by rw [(a1 rfl).1]; exact k0⟩;exact ⟨.inr (.inl ⟨r, hk, .inr h2⟩), (Vl hn' hk (.inr h2)).2⟩
  | false =>
   rw [Zdy d h];exact ⟨h3, rfl⟩
theorem Zbp {d : Dk} (h : d.Fine 0) {p : Nat} (hp : p < 6) (h3 : Vv d p) (x y : Bool) :
  Vv (d.half p Rec.free x y) p ∧ ((d.half p Rec.free x y).tell (p : Int) = d.tell (p : Int) ∨ (d.half p Rec.free x y).tell (p : Int) = Rec.free) ∧ (x = true → y = true → (d.half p Rec.free x y).tell (p : Int) = Rec.free ∧ (d.half p Rec.free x y).how (p : Int) = 0) := by
 have hn := Y7 h.len hp;have hf : Z3 Rec.free = 0 := Qn;have hn' := Y7 (Qm h hp hf x y).len hp;obtain ⟨⟨a0, a1⟩, b0, b1⟩ := V8 h hp hf x y;have kf : Rec.free.kind = 1 := rfl;have bd0 := Vm d (2 * (p : Int));have bd1 := Vm d (2 * (p : Int) + 1);have both : x = true → y = true → Vv (d.half p Rec.free x y) p ∧ (d.half p Rec.free x y).tell (p : Int) = Rec.free ∧ (d.half p Rec.free x y).how (p : Int) = 0 := fun hx hy => by
  have c0 : (Z0 (d.half p Rec.free x y) (2 * (p : Int))).kind = 1 := by rw [(a0 hx).1]; rfl
  have c1 : (Z0 (d.half p Rec.free x y) (2 * (p : Int) + 1)).kind = 1 := by rw [(b0 hy).1]; rfl
  obtain ⟨t, k, -⟩ := Vj hn' c0 c1;exact ⟨.inr (.inr ⟨c0, c1, by rw [(a0 hx).2, (b0 hy).2]; omega⟩), t, k (by rw [(a0 hx).2, (b0 hy).2]; omega)⟩
 have none' : (Z0 (d.half p Rec.free x y) (2 * (p : Int))).kind = 1 → (Z0 (d.half p Rec.free x y) (2 * (p : Int) + 1)).kind = 1 → Yy (d.half p Rec.free x y) (2 * (p : Int)) + Yy (d.half p Rec.free x y) (2 * (p : Int) + 1) ≤ 1 → Vv (d.half p Rec.free x y) p ∧ (d.half p Rec.free x y).tell (p : Int) = Rec.free := fun c0 c1 hb => ⟨.inr (.inr ⟨c0, c1, hb⟩), (Vj hn' c0 c1).1⟩
 have one' : ∀ r : Rec, r.kind ≠ 1 → (Z0 (d.half p Rec.free x y) (2 * (p : Int)) = r ∧ (Z0 (d.half p Rec.free x y) (2 * (p : Int) + 1)).kind = 1 ∨ Z0 (d.half p Rec.free x y) (2 * (p : Int) + 1) = r ∧ (Z0 (d.half p Rec.free x y) (2 * (p : Int))).kind = 1) → Vv (d.half p Rec.free x y) p ∧ (d.half p Rec.free x y).tell (p : Int) = r := fun r hr hh => ⟨.inr (.inl ⟨r, hr, hh⟩), (Vl hn' hr hh).2⟩
 refine (fun (k : Vv (d.half p Rec.free x y) p ∧ ((d.half p Rec.free x y).tell (p : Int) = d.tell (p : Int) ∨ (d.half p Rec.free x y).tell (p : Int) = Rec.free)) => ⟨k.1, k.2, fun hx hy => (both hx hy).2⟩) ?_;cases hx : x with
 | false =>
  cases hy : y with
  | false => rw [Zdy d h]; exact ⟨h3, .inl rfl⟩
  | true =>
   subst hx; subst hy;rcases h3 with ⟨r, hr, h0, h1⟩ | ⟨r, hr, ⟨h0, h1⟩ | ⟨h1, h0⟩⟩ | ⟨h0, h1, hb⟩
   ·obtain ⟨t1, t2⟩ := one' r hr (.inl ⟨by rw [(a1 rfl).1]; exact h0, by rw [(b0 rfl).1]; rfl⟩);exact ⟨t1, .inl (by rw [t2, (Vb hn h0 h1 hr).2])⟩
   ·obtain ⟨t1, t2⟩ := one' r hr (.inl ⟨by rw [(a1 rfl).1]; exact h0, by rw [(b0 rfl).1]; rfl⟩);exact ⟨t1, .inl (by rw [t2, (Vl hn hr (.inl ⟨h0, h1⟩)).2])⟩
   ·obtain ⟨t1, t2⟩ := none' (by rw [(a1 rfl).1]; exact h0) (by rw [(b0 rfl).1]; rfl) (by rw [(a1 rfl).2, (b0 rfl).2]; omega);exact ⟨t1, .inr t2⟩
   ·obtain ⟨t1, t2⟩ := none' (by rw [(a1 rfl).1]; exact h0) (by rw [(b0 rfl).1]; rfl) (by rw [(a1 rfl).2, (b0 rfl).2]; omega);exact ⟨t1, .inr t2⟩
 | true =>
  cases hy : y with
  | true => subst hx; subst hy; exact ⟨(both rfl rfl).1, .inr (both rfl rfl).2.1⟩
  | false =>
   subst hx; subst hy;rcases h3 with ⟨r, hr, h0, h1⟩ | ⟨r, hr, ⟨h0, h1⟩ | ⟨h1, h0⟩⟩ | ⟨h0, h1, hb⟩
   ·obtain ⟨t1, t2⟩ := one' r hr (.inr ⟨by rw [(b1 rfl).1]; exact h1, by rw [(a0 rfl).1]; rfl⟩);exact ⟨t1, .inl (by rw [t2, (Vb hn h0 h1 hr).2])⟩
   ·obtain ⟨t1, t2⟩ := none' (by rw [(a0 rfl).1]; rfl) (by rw [(b1 rfl).1]; exact h1) (by rw [(a0 rfl).2, (b1 rfl).2]; omega);exact ⟨t1, .inr t2⟩
   ·obtain ⟨t1, t2⟩ := one' r hr (.inr ⟨by rw [(b1 rfl).1]; exact h1, by rw [(a0 rfl).1]; rfl⟩);exact ⟨t1, .inl (by rw [t2, (Vl hn hr (.inr ⟨h1, h0⟩)).2])⟩
   ·obtain ⟨t1, t2⟩ := none' (by rw [(a0 rfl).1]; rfl) (by rw [(b1 rfl).1]; exact h1) (by rw [(a0 rfl).2, (b1 rfl).2]; omega);exact ⟨t1, .inr t2⟩
end Go.Proofs.YtpdnapbchcdhlacGreat
namespace Go.Proofs.YtpdnapbchcdhlacGreat
set_option maxRecDepth 100000
open Go.RowKit
open Plain Reg
variable {d : Dk} {n : Nat} {x : Sp}
def St.step (s : St) (x : Sp) : Zlc :=
 if x.kind = 1 then s.doS x.deed
 else if x.kind = 2 then (if (s.begin x.deed).e ≠ 0 then ⟨s, 0, (s.begin x.deed).e⟩ else ⟨Xy ((s.begin x.deed).st.dk.keep x.n), (s.begin x.deed).n, 0⟩)
 else if x.kind = 3 then (if x.n < 0 ∨ 192 ≤ x.n then ⟨s, 0, 3⟩ else ⟨⟨s.dk.spoil (x.n / 16) (x.n % 16) x.m, s.idx, s.next⟩, 0, 0⟩)
 else if x.kind = 4 then ⟨s.scrub, 0, 0⟩
 else if x.kind = 5 then ⟨Xy s.dk.clean, 0, 0⟩
 else if x.kind = 6 then ⟨Xy s.dk, 0, 0⟩
 else ⟨s, 0, 1⟩
structure St.At (s : St) : Prop where
 ok : s.Ok 0
 low : 0 ≤ s.next
 high : s.next < 6
theorem Zf9 (s : St) (d : Dd) : (s.begin d).st.next = s.next := by
 unfold St.begin;split
 ·rfl
 ·split
  ·rfl
  ·split <;> rfl
theorem Zep (s : St) (d : Dd) : (s.doS d).st.next = s.next := by
 unfold St.doS;split
 ·exact Zf9 s d
 ·exact Zf9 s d
theorem Zaz (h : d.Fine n) : (Xy d).At := ⟨Zsu h, Int.le_refl 0, (by decide : (0 : Int) < 6)⟩
theorem Zgw (h : d.Fine n) : d.clean.Fine 0 := Zd6 (h.kept 0) _ _
theorem Zuc {s : St} (h : s.At) : (s.step x).st.At := by
 unfold St.step;split
 ·exact ⟨Zvy h.ok, by rw [Zep]; exact h.low, by rw [Zep]; exact h.high⟩
 ·split
  ·split
   ·exact h
   ·exact Zaz ((Zc7 h.ok).disk.kept x.n)
  ·split
   ·split
    ·exact h
    ·exact ⟨⟨h.ok.disk.spoil _ _ _, h.ok.right, h.ok.six⟩, h.low, h.high⟩
   ·split
    ·refine ⟨Zrv h.ok.disk, ?_, ?_⟩
     ·show 0 ≤ (s.next + 1) % 6; omega
     ·show (s.next + 1) % 6 < 6; omega
    ·split
     ·exact Zaz (Zgw h.ok.disk)
     ·split
      ·exact Zaz h.ok.disk
      ·exact h
theorem Zm3 (w : World) (a b : Array Value) (Ta Tb : TypeId) : Zl w (((w.alloc (.cells a Ta)).alloc (.cells b Tb)).alloc Xm) ∧ (((w.alloc (.cells a Ta)).alloc (.cells b Tb)).alloc Xm).heap[w.heap.size]? = some (.cells a Ta (0, 0)) ∧ (((w.alloc (.cells a Ta)).alloc (.cells b Tb)).alloc Xm).heap[w.heap.size + 1]? = some (.cells b Tb (0, 0)) ∧ (((w.alloc (.cells a Ta)).alloc (.cells b Tb)).alloc Xm).heap[w.heap.size + 2]? = some (.cells #[.slice none 0 0, .slice none 0 0, .slice none 0 0, .int .i64 0] 29 (0, 0)) ∧ Hid ((((w.alloc (.cells a Ta)).alloc (.cells b Tb)).alloc Xm).heap.size = w.heap.size + 3) := by
 have hs0 := Zk w a Ta;have hd0 := Zk (w.alloc (.cells a Ta)) b Tb;have hz1 := Zk ((w.alloc (.cells a Ta)).alloc (.cells b Tb)) #[.slice none 0 0, .slice none 0 0, .slice none 0 0, .int .i64 0] 29;have hs1 := ((Zq (w.alloc (.cells a Ta)) (.cells b Tb) Xm).block _ (Za hs0)).trans hs0;have hd1 := ((Zb ((w.alloc (.cells a Ta)).alloc (.cells b Tb)) Xm).block _ (Za hd0)).trans hd0;rw [World.size_alloc] at hd1;rw [World.size_alloc, World.size_alloc] at hz1;exact ⟨(Zq w (.cells a Ta) (.cells b Tb)).trans (Zb _ Xm), hs1, hd1, hz1, by show _ = _; simp⟩
structure Jv (S : Nat → Prop) (s : St) (x : Sp) (v : Value) (ad : Option Addr) (c : Nat) (w : World) : Prop where
 low : ∀ b, S b → b < w.heap.size
 sto : Yc S s v w
 dat : Z1 S w (.slice ad x.deed.data.length c) x.deed.data
 mid : s.At
 few : x.deed.data.length ≤ 140737488355328
def Vy (F : FuncId) (S : Nat → Prop) (s : St) (x : Sp) (v : Value) (ad : Option Addr) (c : Nat) (w : World) : Prop :=
 Calls Tryz.prog F #[v, .agg #[.int .i64 x.kind, .int .i64 x.n, .int .i64 x.m, .int .i64 x.deed.kind, .int .i64 x.deed.key, .int .i64 x.deed.num, .slice ad x.deed.data.length c]] w fun r w' => ∃ v', r = .returned (.tuple #[v', .int .i64 (s.step x).n, .int .i64 (s.step x).e]) ∧ Yc (Z2 S w.heap.size) (s.step x).st v' w' ∧ Zl w w'
theorem Jv.pre {S : Nat → Prop} {s : St} {v : Value} {ad : Option Addr} {c : Nat} {w : World} (h : Jv S s x v ad c w) : ∃ ab cb al cl ai ci, v = .agg #[.slice ab s.dk.blocks.length cb, .slice al s.dk.late.length cl, .slice ai s.idx.length ci, .int .i64 s.next] ∧ Y5 S w (.slice ab s.dk.blocks.length cb) s.dk.blocks ∧ Qk S w (.slice al s.dk.late.length cl) s.dk.late ∧ Yq S w (.slice ai s.idx.length ci) s.idx ∧ ¬ Z2 S (w.heap.size + 3) (w.heap.size + 2) ∧
  let w3 := ((w.alloc (.cells #[.slice ab s.dk.blocks.length cb, .slice al s.dk.late.length cl, .slice ai s.idx.length ci, .int .i64 s.next] 29)).alloc (.cells #[.int .i64 x.kind, .int .i64 x.n, .int .i64 x.m, .int .i64 x.deed.kind, .int .i64 x.deed.key, .int .i64 x.deed.num, .slice ad x.deed.data.length c] 49)).alloc Xm
  Zl w w3 ∧ w3.heap[w.heap.size]? = some (.cells #[.slice ab s.dk.blocks.length cb, .slice al s.dk.late.length cl, .slice ai s.idx.length ci, .int .i64 s.next] 29 (0, 0)) ∧ w3.heap[w.heap.size + 1]? = some (.cells #[.int .i64 x.kind, .int .i64 x.n, .int .i64 x.m, .int .i64 x.deed.kind, .int .i64 x.deed.key, .int .i64 x.deed.num, .slice ad x.deed.data.length c] 49 (0, 0)) ∧ w3.heap[w.heap.size + 2]? = some (.cells #[.slice none 0 0, .slice none 0 0, .slice none 0 0, .int .i64 0] 29 (0, 0)) ∧ Hid (w3.heap.size = w.heap.size + 3) := by
 obtain ⟨ab, cb, al, cl, ai, ci, rfl, hb, hl, hi⟩ := h.sto.form;exact ⟨ab, cb, al, cl, ai, ci, rfl, hb, hl, hi, Y6 (fun b hb => by have := h.low b hb; omega) (by omega), Zm3 w _ _ _ _⟩
end Go.Proofs.YtpdnapbchcdhlacGreat
