import Derived.Test.YtpdnapbchcdhladGreatDoorInv
set_option maxHeartbeats 8000000
namespace Go.Proofs.YtpdnapbchcdhladGreatDoor
set_option maxRecDepth 100000
open Plain
variable {r : Rec}
theorem Zyg {a b : Ent} (h : Yv a b = true) : Yv b a = false := by
 unfold Yv at h ⊢;by_cases k : a.rc.key = b.rc.key
 ·rw [if_pos k] at h;rw [if_pos k.symm];by_cases v : a.rc.ver = b.rc.ver
  ·rw [if_pos v] at h;rw [if_pos v.symm];have := of_decide_eq_true h;exact decide_eq_false (by omega)
  ·rw [if_neg v] at h;rw [if_neg (fun e => v e.symm)];have := of_decide_eq_true h;exact decide_eq_false (by omega)
 ·rw [if_neg k] at h;rw [if_neg (fun e => k e.symm)];have := of_decide_eq_true h;exact decide_eq_false (by omega)
theorem Zjf : ∀ l m : List Ent, l.Pairwise Ups → m.Pairwise Ups → (∀ x, x ∈ l ↔ x ∈ m) → l = m
 | [], [], _, _, _ => rfl
 | [], b :: m, _, _, h => absurd ((h b).2 (by simp)) (by simp)
 | a :: l, [], _, _, h => absurd ((h a).1 (by simp)) (by simp)
 | a :: l, b :: m, hl, hm, h => by
  obtain ⟨hl1, hl2⟩ := List.pairwise_cons.1 hl;obtain ⟨hm1, hm2⟩ := List.pairwise_cons.1 hm;have hab : a = b := by
   rcases List.mem_cons.1 ((h a).1 (by simp)) with e | e
   ·exact e
   ·rcases List.mem_cons.1 ((h b).2 (by simp)) with e2 | e2
    ·exact e2.symm
    ·have h1 := (hm1 a e).1;have h2 := (hl1 b e2).1;rw [Zyg h1] at h2; cases h2
  subst hab
  congr 1
  refine Zjf l m hl2 hm2 fun x => ⟨fun hx => ?_, fun hx => ?_⟩
  ·rcases List.mem_cons.1 ((h x).1 (by simp [hx])) with e | e
   ·subst e; exact absurd rfl (hl1 x hx).2
   ·exact e
  ·rcases List.mem_cons.1 ((h x).2 (by simp [hx])) with e | e
   ·subst e; exact absurd rfl (hm1 x hx).2
   ·exact e
theorem Zfy (d : Dk) : (Yd d 6).Pairwise Ups := ((Yr _).1 (Vf d 6 (by omega))).1
theorem Kz {d d' : Dk} : ∀ n : Nat, (∀ q : Nat, q < n → d'.tell (q : Int) = d.tell (q : Int)) → Yd d' n = Yd d n
 | 0, _ => rfl
 | n + 1, h => by
  have ih := Kz n fun q hq => h q (by omega)
  unfold Yd;rw [h n (by omega), ih]
theorem Zuj {d d' : Dk} {p : Nat} (hp : p < 6) (hr : r.kind ≠ 1) (hold : (d.tell (p : Int)).kind = 1) (hnew : d'.tell (p : Int) = r) (hoth : ∀ q, q < 6 → q ≠ p → d'.tell (q : Int) = d.tell (q : Int)) (hwr : Z6 r = 0) : Yd d' 6 = Qh ⟨r, (p : Int)⟩ (Yd d 6) := by
 have hne : ∀ x ∈ Yd d 6, x.pair ≠ (p : Int) := fun x hx => by
  obtain ⟨q, hq, hk, rfl⟩ := (Qj d x 6).1 hx;intro e;have e2 : (q : Int) = (p : Int) := e;have : q = p := by omega
  subst this;exact hk hold
 have hright : Xr (Qh ⟨r, (p : Int)⟩ (Yd d 6)) = true := J1 (Vf d 6 (by omega)) ⟨hwr, hr, by show (0 : Int) ≤ (p : Int); omega, by show (p : Int) ≤ 1000; omega⟩ hne;refine Zjf _ _ (Zfy d') ((Yr _).1 hright).1 fun x => ?_;rw [Vk, Qj, Qj];constructor
 ·rintro ⟨q, hq, hk, rfl⟩;by_cases e : q = p
  ·subst e; left; rw [hnew]
  ·right; rw [hoth q hq e] at hk ⊢; exact ⟨q, hq, hk, rfl⟩
 ·rintro (rfl | ⟨q, hq, hk, rfl⟩)
  ·exact ⟨p, hp, by rw [hnew]; exact hr, by rw [hnew]⟩
  ·by_cases e : q = p
   ·subst e; exact absurd hold hk
   ·exact ⟨q, hq, by rw [hoth q hq e]; exact hk, by rw [hoth q hq e]⟩
theorem Zq3 {d d' : Dk} {p : Nat} (hnew : (d'.tell (p : Int)).kind = 1) (hoth : ∀ q, q < 6 → q ≠ p → d'.tell (q : Int) = d.tell (q : Int)) : Yd d' 6 = Jb (Yd d 6) (p : Int) := by
 refine Zjf _ _ (Zfy d') ((Yr _).1 (Zg0 (Vf d 6 (by omega)) (p : Int))).1 fun x => ?_;unfold Jb;rw [List.mem_filter, Qj, Qj];constructor
 ·rintro ⟨q, hq, hk, rfl⟩;by_cases e : q = p
  ·subst e; exact absurd hnew hk
  ·rw [hoth q hq e] at hk ⊢;exact ⟨⟨q, hq, hk, rfl⟩, decide_eq_true (by show (q : Int) ≠ (p : Int); omega)⟩
 ·rintro ⟨⟨q, hq, hk, rfl⟩, hd⟩;have hqp : q ≠ p := fun e => by
   have := of_decide_eq_true hd;exact this (by show (q : Int) = (p : Int); omega)
  exact ⟨q, hq, by rw [hoth q hq hqp]; exact hk, by rw [hoth q hq hqp]⟩
structure St.Inv (s : St) : Prop where
 at' : s.At
 three : ∀ p, p < 6 → Vn s.dk p
 idx : s.idx = Yd s.dk 6
 once : ∀ p q, p < 6 → q < 6 → (s.dk.tell ((p : Nat) : Int)).kind ≠ 1 → (s.dk.tell ((q : Nat) : Int)).kind ≠ 1 → (s.dk.tell (p : Int)).ver = (s.dk.tell (q : Int)).ver → p = q
structure Dk.Good (d : Dk) : Prop where
 fine : d.Fine 0
 three : ∀ p, p < 6 → Vn d p
 once : ∀ p q, p < 6 → q < 6 → (d.tell ((p : Nat) : Int)).kind ≠ 1 → (d.tell ((q : Nat) : Int)).kind ≠ 1 → (d.tell (p : Int)).ver = (d.tell (q : Int)).ver → p = q
theorem St.Inv.good {s : St} (h : s.Inv) : s.dk.Good := ⟨h.at'.ok.disk, h.three, h.once⟩
theorem Dk.Good.keep0 {d : Dk} (h : d.Good) : d.keep 0 = d := by
 have hb := d.keep_none;have hl := K0 h.fine;obtain ⟨b, l⟩ := d;simp only at hl;subst hl;show (⟨(Dk.keep ⟨b, []⟩ 0).blocks, []⟩ : Dk) = _;rw [hb]
theorem Dk.Good.mount {d : Dk} (h : d.Good) : (Xs d).Inv := by
 have hk := h.keep0;have ha := Zdh h.fine;refine ⟨ha, ?_, rfl, ?_⟩
 ·show ∀ p, p < 6 → Vn (d.keep 0) p;rw [hk]; exact h.three
 ·show ∀ p q, p < 6 → q < 6 → ((d.keep 0).tell ((p : Nat) : Int)).kind ≠ 1 → ((d.keep 0).tell ((q : Nat) : Int)).kind ≠ 1 → ((d.keep 0).tell (p : Int)).ver = ((d.keep 0).tell (q : Int)).ver → p = q;rw [hk]; exact h.once
theorem Dk.Good.mounted {d : Dk} (h : d.Good) : Xs d = ⟨d, Yd d 6, 0⟩ := by unfold Xs; rw [h.keep0]
theorem Dk.Good.of {d d' : Dk} (h : d.Good) (hf : d'.Fine 0) (h3 : ∀ p, p < 6 → Vn d' p) (ht : ∀ p, p < 6 → d'.tell ((p : Nat) : Int) = d.tell (p : Int)) : d'.Good :=
 ⟨hf, h3, fun p q hp hq => by rw [ht p hp, ht q hq]; exact h.once p q hp hq⟩
theorem Dk.Good.put {d : Dk} (h : d.Good) {p : Nat} (hp : p < 6) (hr : Z6 r = 0) (hk : r.kind ≠ 1) (ht : (d.tell (p : Int)).kind = 1) (hv : ∀ q, q < 6 → (d.tell ((q : Nat) : Int)).kind ≠ 1 → (d.tell (q : Int)).ver ≠ r.ver) (x y : Bool) : (d.half p r x y).Good := by
 obtain ⟨h3, htell⟩ := Zl4 h.fine hp hr hk (h.three p hp) ht x y;have hoth : ∀ q, q < 6 → q ≠ p → (d.half p r x y).tell ((q : Nat) : Int) = d.tell (q : Int) := fun q hq hne => (X5 h.fine hp hq hne hr x y).2
 have hthree : ∀ q, q < 6 → Vn (d.half p r x y) q := fun q hq => by
  by_cases e : q = p
  ·subst e; exact h3
  ·have hn := Y0 (X9 h.fine hp hr x y).len hq;exact Zac hn (by rw [(X5 h.fine hp hq e hr x y).1]; exact Zbr (Y0 h.fine.len hq) (h.three q hq))
 refine ⟨X9 h.fine hp hr x y, hthree, fun a b ha hb => ?_⟩;by_cases ea : a = p
 ·subst ea;by_cases eb : b = a
  ·intro _ _ _; exact eb.symm
  ·rw [hoth b hb eb, htell];intro k1 k2 k3;split at k1
   ·rename_i hxy;rw [if_pos hxy] at k3;exact absurd k3.symm (hv b hb k2)
   ·exact absurd ht k1
 ·by_cases eb : b = p
  ·subst eb;rw [hoth a ha ea, htell];intro k1 k2 k3;split at k2
   ·rename_i hxy;rw [if_pos hxy] at k3;exact absurd k3 (hv a ha k1)
   ·exact absurd ht k2
  ·rw [hoth a ha ea, hoth b hb eb]; exact h.once a b ha hb
theorem Dk.Good.free {d : Dk} (h : d.Good) {p : Nat} (hp : p < 6) (x y : Bool) : (d.half p Rec.free x y).Good := by
 obtain ⟨h3, htell, -⟩ := Zb2 h.fine hp (h.three p hp) x y;have hf : Z6 Rec.free = 0 := Qv;have hoth : ∀ q, q < 6 → q ≠ p → (d.half p Rec.free x y).tell ((q : Nat) : Int) = d.tell (q : Int) := fun q hq hne => (X5 h.fine hp hq hne hf x y).2
 have hthree : ∀ q, q < 6 → Vn (d.half p Rec.free x y) q := fun q hq => by
  by_cases e : q = p
  ·subst e; exact h3
  ·have hn := Y0 (X9 h.fine hp hf x y).len hq;exact Zac hn (by rw [(X5 h.fine hp hq e hf x y).1]; exact Zbr (Y0 h.fine.len hq) (h.three q hq))
 have hsub : ∀ q, q < 6 → ((d.half p Rec.free x y).tell ((q : Nat) : Int)).kind ≠ 1 → (d.half p Rec.free x y).tell ((q : Nat) : Int) = d.tell (q : Int) := fun q hq hk => by
  by_cases e : q = p
  ·subst e;rcases htell with e1 | e1
   ·exact e1
   ·rw [e1] at hk; exact absurd rfl hk
  ·exact hoth q hq e
 refine ⟨X9 h.fine hp hf x y, hthree, fun a b ha hb k1 k2 k3 => ?_⟩;have e1 := hsub a ha k1;have e2 := hsub b hb k2;rw [e1] at k1 k3;rw [e2] at k2 k3;exact h.once a b ha hb k1 k2 k3
theorem Dk.Good.again {d : Dk} (h : d.Good) {p : Nat} (hp : p < 6) : (d.pairD (p : Int) (d.tell (p : Int))).flush.Good ∧ ∀ q, q < 6 → (d.pairD (p : Int) (d.tell (p : Int))).flush.tell ((q : Nat) : Int) = d.tell (q : Int) := by
 have hn := Y0 h.fine.len hp;rw [Zal h.fine hp (X4 d _)];have key : ∀ q, q < 6 → (d.half p (d.tell (p : Int)) true true).tell ((q : Nat) : Int) = d.tell (q : Int) := fun q hq => by
  by_cases e : q = p
  ·subst e;by_cases hk : (d.tell (q : Int)).kind = 1
   ·have hfree : d.tell (q : Int) = Rec.free := by
     obtain ⟨k0, k1, -⟩ := Zfq hn (h.three q hq) hk;exact (Va hn k0 k1).1
    rw [hfree];exact ((Zb2 h.fine hq (h.three q hq) true true).2.2 rfl rfl).1
   ·obtain ⟨⟨a0, -⟩, b0, -⟩ := K8 h.fine hq (X4 d (q : Int)) true true;exact (Vu (Y0 (X9 h.fine hq (X4 d (q : Int)) true true).len hq) (a0 rfl).1 (b0 rfl).1 hk).2
  ·exact (X5 h.fine hp hq e (X4 d (p : Int)) true true).2
 refine ⟨h.of (X9 h.fine hp (X4 d _) true true) (fun q hq => ?_) key, key⟩;by_cases e : q = p
 ·subst e;obtain ⟨⟨a0, -⟩, b0, -⟩ := K8 h.fine hq (X4 d (q : Int)) true true;by_cases hk : (d.tell (q : Int)).kind = 1
  ·exact .inr (.inr ⟨by rw [(a0 rfl).1]; exact hk, by rw [(b0 rfl).1]; exact hk, by rw [(a0 rfl).2, (b0 rfl).2]; omega⟩)
  ·exact .inl ⟨_, hk, (a0 rfl).1, (b0 rfl).1⟩
 ·have hn' := Y0 (X9 h.fine hp (X4 d (p : Int)) true true).len hq;exact Zac hn' (by rw [(X5 h.fine hp hq e (X4 d (p : Int)) true true).1]; exact Zbr (Y0 h.fine.len hq) (h.three q hq))
theorem Dk.Good.flushed {d : Dk} (h : d.Good) : d.flush = d := by
 have hl := K0 h.fine;obtain ⟨b, l⟩ := d;simp only at hl;subst hl;rfl
theorem Dk.Good.mend {d : Dk} (h : d.Good) {p : Nat} (hp : p < 6) : (d.mendD (p : Int)).flush.Good ∧ ∀ q, q < 6 → (d.mendD (p : Int)).flush.tell ((q : Nat) : Int) = d.tell (q : Int) := by
 unfold Dk.mendD;by_cases h2 : 2 ≤ d.how (p : Int)
 ·rw [if_pos h2]; exact h.again hp
 ·rw [if_neg h2, h.flushed]; exact ⟨h, fun _ _ => rfl⟩
theorem Dk.Good.twice {d : Dk} (h : d.Good) : ∀ n, n ≤ 6 → Zc6 d n = []
 | 0, _ => rfl
 | n + 1, hn => by
  have ih := twice h n (by omega);unfold Zc6;rw [if_neg, ih];rintro ⟨hk, ha⟩;have key : ∀ q, q ≤ n → Zfh d n q = true → False := by
   intro q
   induction q with
   | zero => intro _ h; cases h
   | succ q ihq =>
    intro hq hh;unfold Zfh at hh;simp only [Bool.or_eq_true] at hh;rcases hh with h1 | h1
    ·exact ihq (by omega) h1
    ·obtain ⟨k1, k2⟩ := of_decide_eq_true h1;have := h.once q n (by omega) (by omega) k1 hk k2;omega
  exact key n (Nat.le_refl _) ha
theorem Dk.Good.tidy {d : Dk} (h : d.Good) : ∀ n, n ≤ 6 → (Zcl d [] n).Good ∧ ∀ q, q < 6 → (Zcl d [] n).tell ((q : Nat) : Int) = d.tell (q : Int)
 | 0, _ => ⟨h, fun _ _ => rfl⟩
 | n + 1, hn => by
  obtain ⟨h1, h2⟩ := tidy h n (by omega);unfold Zcl;rw [if_neg (by simp)];obtain ⟨h3, h4⟩ := h1.again (p := n) (by omega);exact ⟨h3, fun q hq => (h4 q hq).trans (h2 q hq)⟩
theorem Dk.Good.cleaned {d : Dk} (h : d.Good) : d.clean.Good ∧ ∀ q, q < 6 → d.clean.tell ((q : Nat) : Int) = d.tell (q : Int) := by
 unfold Dk.clean;rw [h.keep0, h.twice 6 (by omega)];exact h.tidy 6 (by omega)
theorem Zkn (b : List UInt8) (n y : Int) (hy : y % 256 = 0) : turned b n y = b := by
 unfold turned;split
 ·rename_i h;have h0 : lo y = 0 := by
   apply UInt8.toNat_inj.1;have := J0 y;show (lo y).toNat = 0;omega
  rw [h0, UInt8.xor_zero, V9 _ _ _ (by omega)];exact List.set_getElem_self _
 ·rfl
theorem Zcm {d : Dk} (h : d.Fine 0) (a : Nat) (ha : a < 12) (n m : Int) (b : Nat) (hb : b < 12) : Y9 (d.spoil (a : Int) n m) (b : Int) = if b = a then turned (Y9 d (a : Int)) n m else Y9 d (b : Int) := by
 have hl := h.len;rw [Za8 (h.spoil _ _ _) hb, Za8 h ha, Za8 h hb];unfold Dk.spoil;rw [if_pos (by omega)];show (d.blocks.set (a : Int).toNat _).getD b [] = _;have e : (a : Int).toNat = a := by omega
 rw [e, Qk _ _ _ _ _ (by omega)];by_cases h1 : a = b
 ·rw [if_pos h1, if_pos h1.symm]
 ·rw [if_neg h1, if_neg (fun h => h1 h.symm)]
theorem Zvu {d : Dk} {p : Nat} (hn : d.noPair (p : Int) = false) (h3 : Vn d p) (hh : d.how (p : Int) < 2) : Qq d (2 * (p : Int)) = 0 ∧ Qq d (2 * (p : Int) + 1) = 0 := by
 have key : ∀ a, (Yb d a).kind ≠ 1 → Qq d a = 0 := fun a hk => by
  by_cases e : Qq d a = 0
  ·exact e
  ·exact absurd (by rw [(Zfu e).1]; rfl) hk
 have key2 : ∀ a, Xi d a = 0 → Qq d a = 0 := fun a hb => by
  by_cases e : Qq d a = 0
  ·exact e
  ·rw [(Zfu e).2] at hb; cases hb
 rcases h3 with ⟨r, hr, h0, h1⟩ | ⟨r, hr, h⟩ | ⟨h0, h1, hb⟩
 ·exact ⟨key _ (by rw [h0]; exact hr), key _ (by rw [h1]; exact hr)⟩
 ·rw [(Ve hn hr h).1] at hh; omega
 ·have b0 := Zav d (2 * (p : Int));have b1 := Zav d (2 * (p : Int) + 1);obtain ⟨-, k0, k1⟩ := Va hn h0 h1;by_cases e : Xi d (2 * (p : Int)) + Xi d (2 * (p : Int) + 1) = 0
  ·exact ⟨key2 _ (by omega), key2 _ (by omega)⟩
  ·rw [k1 (by omega)] at hh; omega
theorem Dk.Good.spoilt {d : Dk} (h : d.Good) {p a : Nat} (hp : p < 6) (ha : a = 2 * p ∨ a = 2 * p + 1) (hh : d.how (p : Int) < 2) (n m : Int) (hn0 : 0 ≤ n) (hn1 : n < 16) : (d.spoil (a : Int) n m).Good ∧ ∀ q, q < 6 → (d.spoil (a : Int) n m).tell ((q : Nat) : Int) = d.tell (q : Int) := by
 have ha12 : a < 12 := by omega
 have hn := Y0 h.fine.len hp;have hf := h.fine.spoil (a : Int) n m;have hn' := Y0 hf.len hp;have h3 := h.three p hp;obtain ⟨l0, l1⟩ := Zvu hn h3 hh;have hside := fun b hb => Zcm h.fine a ha12 n m b hb
 have hoth : ∀ q, q < 6 → q ≠ p → (d.spoil (a : Int) n m).how ((q : Nat) : Int) = d.how (q : Int) ∧ (d.spoil (a : Int) n m).tell ((q : Nat) : Int) = d.tell (q : Int) := fun q hq hne => by
  have h0 := hside (2 * q) (by omega);have h1 := hside (2 * q + 1) (by omega);rw [if_neg (by omega)] at h0 h1;exact Zbz (hf.len.trans h.fine.len.symm) (by simpa using h0) (by simpa using h1)
 have main : Vn (d.spoil (a : Int) n m) p ∧ (d.spoil (a : Int) n m).tell (p : Int) = d.tell (p : Int) := by
  have c0 : ((2 * p : Nat) : Int) = 2 * (p : Int) := by omega
  have c1 : ((2 * p + 1 : Nat) : Int) = 2 * (p : Int) + 1 := by omega
  have s0 := hside (2 * p) (by omega);have s1 := hside (2 * p + 1) (by omega);rw [c0] at s0;rw [c1] at s1;by_cases hm : m % 256 = 0
  ·rw [Zkn _ _ _ hm] at s0 s1;have e0 : Y9 (d.spoil (a : Int) n m) (2 * (p : Int)) = Y9 d (2 * (p : Int)) := by
    rw [s0]; split
    ·rename_i e; rw [← c0, e]
    ·rfl
   have e1 : Y9 (d.spoil (a : Int) n m) (2 * (p : Int) + 1) = Y9 d (2 * (p : Int) + 1) := by
    rw [s1]; split
    ·rename_i e; rw [← c1, e]
    ·rfl
   obtain ⟨k1, k2⟩ := Zbz (p := (p : Int)) (hf.len.trans h.fine.len.symm) e0 e1;exact ⟨Zac hn' (by rw [k1]; omega), k2⟩
  ·have bad : Qq d (a : Int) = 0 → Yb (d.spoil (a : Int) n m) (a : Int) = Rec.free ∧ Xi (d.spoil (a : Int) n m) (a : Int) = 1 := fun he => by
    obtain ⟨hw, hbk⟩ := Zmy (Y9 d (a : Int)) (a : Int) he;have hs := hside a ha12;rw [if_pos rfl, ← hbk] at hs;refine Zk0 (r := Y4 (Y9 d (a : Int)) (a : Int)) (n := n) (y := m) ?_ hw hn0 (by rw [Zke _ _ hw]; exact hn1) hm;have hg : ∃ z, (d.spoil (a : Int) n m).get (a : Int) = some z := by
     unfold Dk.get;rw [if_neg (by have := hf.len; omega)];exact ⟨_, rfl⟩
    obtain ⟨z, hz⟩ := hg;have hz2 : Y9 (d.spoil (a : Int) n m) (a : Int) = z := by unfold Y9; rw [hz]; rfl
    rw [hz2] at hs;rw [hz, hs]
   have kf : Rec.free.kind = 1 := rfl;rcases ha with rfl | rfl
   ·have hb := bad (by rw [c0]; exact l0);rw [c0] at hb;rw [if_neg (by omega)] at s1;obtain ⟨t1, t2⟩ := Zbs s1;rw [c0] at t1 t2;rcases h3 with ⟨r, hr, h0, h1⟩ | ⟨r, hr, hx⟩ | ⟨h0, h1, hbs⟩
    ·have hh2 : Yb (d.spoil (2 * (p : Int)) n m) (2 * (p : Int) + 1) = r ∧ (Yb (d.spoil (2 * (p : Int)) n m) (2 * (p : Int))).kind = 1 := ⟨by rw [t1]; exact h1, by rw [hb.1]; rfl⟩;rw [c0] at hn' ⊢;exact ⟨.inr (.inl ⟨r, hr, .inr hh2⟩), by rw [(Ve hn' hr (.inr hh2)).2, (Vu hn h0 h1 hr).2]⟩
    ·rw [(Ve hn hr hx).1] at hh; omega
    ·have b1 : Xi d (2 * (p : Int) + 1) = 0 := by unfold Xi; rw [if_pos l1]
     rw [c0] at hn' ⊢;have g0 : (Yb (d.spoil (2 * (p : Int)) n m) (2 * (p : Int))).kind = 1 := by rw [hb.1]; rfl
     have g1 : (Yb (d.spoil (2 * (p : Int)) n m) (2 * (p : Int) + 1)).kind = 1 := by rw [t1]; exact h1
     exact ⟨.inr (.inr ⟨g0, g1, by rw [hb.2, t2, b1]; omega⟩), by rw [(Va hn' g0 g1).1, (Va hn h0 h1).1]⟩
   ·have hb := bad (by rw [c1]; exact l1);rw [c1] at hb;rw [if_neg (by omega)] at s0;obtain ⟨t1, t2⟩ := Zbs s0;rw [c1] at t1 t2;rcases h3 with ⟨r, hr, h0, h1⟩ | ⟨r, hr, hx⟩ | ⟨h0, h1, hbs⟩
    ·have hh2 : Yb (d.spoil (2 * (p : Int) + 1) n m) (2 * (p : Int)) = r ∧ (Yb (d.spoil (2 * (p : Int) + 1) n m) (2 * (p : Int) + 1)).kind = 1 := ⟨by rw [t1]; exact h0, by rw [hb.1]; rfl⟩;rw [c1] at hn' ⊢;exact ⟨.inr (.inl ⟨r, hr, .inl hh2⟩), by rw [(Ve hn' hr (.inl hh2)).2, (Vu hn h0 h1 hr).2]⟩
    ·rw [(Ve hn hr hx).1] at hh; omega
    ·have b1 : Xi d (2 * (p : Int)) = 0 := by unfold Xi; rw [if_pos l0]
     rw [c1] at hn' ⊢;have g1 : (Yb (d.spoil (2 * (p : Int) + 1) n m) (2 * (p : Int) + 1)).kind = 1 := by rw [hb.1]; rfl
     have g0 : (Yb (d.spoil (2 * (p : Int) + 1) n m) (2 * (p : Int))).kind = 1 := by rw [t1]; exact h0
     exact ⟨.inr (.inr ⟨g0, g1, by rw [hb.2, t2, b1]; omega⟩), by rw [(Va hn' g0 g1).1, (Va hn h0 h1).1]⟩
 refine ⟨h.of hf (fun q hq => ?_) (fun q hq => ?_), fun q hq => ?_⟩
 ·by_cases e : q = p
  ·subst e; exact main.1
  ·exact Zac (Y0 hf.len hq) (by rw [(hoth q hq e).1]; exact Zbr (Y0 h.fine.len hq) (h.three q hq))
 ·by_cases e : q = p
  ·subst e; exact main.2
  ·exact (hoth q hq e).2
 ·by_cases e : q = p
  ·subst e; exact main.2
  ·exact (hoth q hq e).2
end Go.Proofs.YtpdnapbchcdhladGreatDoor
