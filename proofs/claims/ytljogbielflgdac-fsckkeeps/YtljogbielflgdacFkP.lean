import Derived.Test.YtljogbielflgdacInv
set_option maxHeartbeats 8000000
namespace Go.Proofs.Ytljogbielflgdac
set_option maxRecDepth 100000
open Plain
def Xi (d : Dk) : Nat → Dk
 | 0 => d
 | k + 1 => (Xi d k).mendD (k : Int)
def Qo (d : Dk) (l : List Int) : Nat → Dk
 | 0 => d
 | j + 1 => (Qo d l j).pairD (l.getD j 0) Rec.free
theorem Kn {n : Nat} {d : Dk} (h : d.Fine n) : ∀ k, (Xi d k).Fine (n + 2 * k)
 | 0 => h
 | k + 1 => by
  have := (Kn h k).mend (k : Int);exact this.mono (by omega)
theorem Vu {n : Nat} {d : Dk} (h : d.Fine n) (l : List Int) : ∀ j, (Qo d l j).Fine (n + 2 * j)
 | 0 => h
 | j + 1 => by
  have := (Vu h l j).pair (l.getD j 0) Rec.free;exact this.mono (by omega)
theorem Zdw {n : Nat} {d : Dk} (h : d.Fine n) {p : Nat} (hp : p < 6) {r : Rec} (hw : Z5 r = 0) {a : Nat} (_ha : a < 12) : Yh (d.pairD (p : Int) r) (a : Int) = if a / 2 = p then blk r (a : Int) else Yh d (a : Int) := by
 have h12 := h.len;have hd : d.pairD (p : Int) r = d.pairW (p : Int) r := by
  unfold Dk.pairD;rw [Zdv (by omega) (by omega), if_pos hw]
 rw [hd];obtain ⟨g0, g1⟩ := Zfc (d := d) (p := (p : Int)) (r := r) (by omega) (by omega);have e : d.pairW (p : Int) r = (d.put (2 * (p : Int)) (blk r (2 * (p : Int)))).put (2 * (p : Int) + 1) (blk r (2 * (p : Int) + 1)) := by simp [Dk.pairW, Dk.put]
 by_cases hc : a / 2 = p
 ·rw [if_pos hc];unfold Yh;by_cases he : a = 2 * p
  ·have ea : (a : Int) = 2 * (p : Int) := by omega
   rw [ea, g0]; rfl
  ·have ea : (a : Int) = 2 * (p : Int) + 1 := by omega
   rw [ea, g1]; rfl
 ·rw [if_neg hc];unfold Yh;rw [e, Dk.put_other _ _ _ _ (by omega), Dk.put_other _ _ _ _ (by omega)]
theorem Zix {n m : Nat} {d e : Dk} (h : d.Fine n) (h' : e.Fine m) {q : Nat} (hq : q < 6) (hs : ∀ a : Nat, a < 12 → a / 2 = q → Yh e (a : Int) = Yh d (a : Int)) : e.how (q : Int) = d.how (q : Int) ∧ e.tell (q : Int) = d.tell (q : Int) := by
 have e0 : ((2 * q : Nat) : Int) = 2 * (q : Int) := by omega
 have e1 : ((2 * q + 1 : Nat) : Int) = 2 * (q : Int) + 1 := by omega
 have s0 := hs (2 * q) (by omega) (by omega);have s1 := hs (2 * q + 1) (by omega) (by omega);rw [e0] at s0;rw [e1] at s1;exact Zfe (by rw [h.len, h'.len]) s0 s1
theorem Zdl {d : Dk} {a : Int} (h : Qf d a = 0) : Yh d a = blk (Z9 d a) a := by
 have hr : Z9 d a = Yu (Yh d a) a := by unfold Z9; rw [if_pos h]
 rw [hr, (Zia _ _ h).2]
theorem Zlr {d : Dk} {p : Int} (hn : d.noPair p = false) (hl : d.how p < 2) : Yh d (2 * p) = blk (d.tell p) (2 * p) ∧ Yh d (2 * p + 1) = blk (d.tell p) (2 * p + 1) := by
 have e0 := Jx d (2 * p);have e1 := Jx d (2 * p + 1);have b0 := Zav d (2 * p);have b1 := Zav d (2 * p + 1);have bad : ∀ a, Y8 d a = 0 → Qf d a = 0 := fun a h => by
  unfold Y8 at h;by_cases hz : Qf d a = 0
  ·exact hz
  ·rw [if_neg hz] at h; omega
 have told : ∀ a, (Z9 d a).kind ≠ 1 → Qf d a = 0 := fun a h => by
  by_cases hz : Qf d a = 0
  ·exact hz
  ·exact absurd (by unfold Z9; rw [if_neg hz]; rfl) h
 unfold Dk.how at hl;unfold Dk.tell;rw [hn] at hl ⊢;simp only [Bool.false_eq_true, if_false] at hl ⊢;by_cases hs : Yg d (2 * p) + Yg d (2 * p + 1) = 2
 ·rw [if_pos hs] at hl;have k0 : (Z9 d (2 * p)).kind ≠ 1 := fun h => by have := Q9 h; omega
  have k1 : (Z9 d (2 * p + 1)).kind ≠ 1 := fun h => by have := Q9 h; omega
  have hz : ¬ (Yg d (2 * p) + Yg d (2 * p + 1) = 0) := by omega
  rw [if_neg hz];by_cases hsm : Xt (Z9 d (2 * p)) (Z9 d (2 * p + 1)) = true
  ·have hss := (Vh _ _).1 hsm;unfold Ku;rw [if_neg k0];refine ⟨Zdl (told _ k0), ?_⟩;rw [hss]; exact Zdl (told _ k1)
  ·rw [if_neg hsm] at hl; omega
 ·rw [if_neg hs] at hl;by_cases hs1 : Yg d (2 * p) + Yg d (2 * p + 1) = 1
  ·rw [if_pos hs1] at hl; omega
  ·rw [if_neg hs1] at hl;have hz : Yg d (2 * p) + Yg d (2 * p + 1) = 0 := by omega
   rw [if_pos hz];by_cases hb0 : Y8 d (2 * p) + Y8 d (2 * p + 1) = 0
   ·have key : ∀ a, Yg d a = 0 → Y8 d a = 0 → Yh d a = blk Rec.free a := fun a h1 h2 => by
     have hf : Z9 d a = Rec.free := by
      refine Zby (Za7 d a) ?_;by_cases hk : (Z9 d a).kind = 1
      ·exact hk
      ·rw [Zb3 hk] at h1; omega
     rw [← hf]; exact Zdl (bad _ h2)
    exact ⟨key _ (by omega) (by omega), key _ (by omega) (by omega)⟩
   ·rw [if_neg hb0] at hl; split at hl <;> omega
theorem Zjm {n : Nat} {d : Dk} (h : d.Fine n) {p : Nat} (hp : p < 6) {a : Nat} (ha : a < 12) : Yh (d.mendD (p : Int)) (a : Int) = if a / 2 = p then blk (d.tell (p : Int)) (a : Int) else Yh d (a : Int) := by
 unfold Dk.mendD;by_cases h2 : 2 ≤ d.how (p : Int)
 ·rw [if_pos h2];exact Zdw h hp (Qv d _) ha
 ·rw [if_neg h2];obtain ⟨s0, s1⟩ := Zlr (Zbb h.len hp) (show d.how (p : Int) < 2 by omega);by_cases hc : a / 2 = p
  ·rw [if_pos hc];by_cases he : a = 2 * p
   ·have ea : (a : Int) = 2 * (p : Int) := by omega
    rw [ea, s0]
   ·have ea : (a : Int) = 2 * (p : Int) + 1 := by omega
    rw [ea, s1]
  ·rw [if_neg hc]
structure Zqk (K : Dk) (k : Nat) (e : Dk) : Prop where
 fine : e.Fine 12
 how : ∀ q : Nat, q < 6 → k ≤ q → e.how (q : Int) = K.how (q : Int)
 tell : ∀ q : Nat, q < 6 → e.tell (q : Int) = K.tell (q : Int)
 side : ∀ a : Nat, a < 12 → Yh e (a : Int) = if a / 2 < k then blk (K.tell ((a / 2 : Nat) : Int)) (a : Int) else Yh K (a : Int)
theorem Zf6 {K : Dk} (h : K.Fine 0) : ∀ k, k ≤ 6 → Zqk K k (Xi K k)
 | 0, _ => ⟨h.mono (by omega), fun _ _ _ => rfl, fun _ _ => rfl, fun a _ => by rw [if_neg (by omega)]; rfl⟩
 | k + 1, hk => by
  have ih := Zf6 h k (by omega);have hf := Kn h (k + 1);have hs : ∀ a : Nat, a < 12 → Yh (Xi K (k + 1)) (a : Int) = if a / 2 = k then blk ((Xi K k).tell (k : Int)) (a : Int) else Yh (Xi K k) (a : Int) := fun a ha => Zjm ih.fine (by omega) ha
  have hl : ∀ q : Nat, q < 6 → q ≠ k → (Xi K (k + 1)).how (q : Int) = (Xi K k).how (q : Int) ∧ (Xi K (k + 1)).tell (q : Int) = (Xi K k).tell (q : Int) := fun q hq hne => Zix ih.fine hf hq fun a ha he => by rw [hs a ha, if_neg (by omega)]
  refine ⟨hf.mono (by omega), fun q hq hle => ?_, fun q hq => ?_, fun a ha => ?_⟩
  ·rw [(hl q hq (by omega)).1]; exact ih.how q hq (by omega)
  ·by_cases e : q = k
   ·subst e;have := (Zjl (Xi K q) (q : Int) (by omega) (by rw [ih.fine.len]; omega) (by rw [ih.fine.len]; omega)).2.1;exact this.trans (ih.tell q hq)
   ·rw [(hl q hq e).2]; exact ih.tell q hq
  ·rw [hs a ha];by_cases e : a / 2 = k
   ·rw [if_pos e, if_pos (by omega), ih.tell k (by omega), e]
   ·rw [if_neg e, ih.side a ha];by_cases hlt : a / 2 < k
    ·rw [if_pos hlt, if_pos (by omega)]
    ·rw [if_neg hlt, if_neg (by omega)]
theorem Vl {K : Dk} (h : K.Fine 0) (k : Nat) (hk : k < 6) (i : Int) : cnt K (k + 1) i = cnt K k i + (if (Xi K k).how (k : Int) = i then 1 else 0) := by
 rw [(Zf6 h k (by omega)).how k hk (Nat.le_refl _)]; rfl
theorem Zbu {d e : Dk} (h : ∀ q : Nat, q < 6 → e.tell (q : Int) = d.tell (q : Int)) (p : Nat) (hp : p < 6) : ∀ n, n ≤ 6 → Yo e p n = Yo d p n
 | 0, _ => rfl
 | n + 1, hn => by
  unfold Yo;rw [Zbu h p hp n (by omega), h n (by omega), h p hp]
theorem Zbj {d e : Dk} (h : ∀ q : Nat, q < 6 → e.tell (q : Int) = d.tell (q : Int)) : ∀ n, n ≤ 6 → Z0 e n = Z0 d n
 | 0, _ => rfl
 | n + 1, hn => by
  unfold Z0;rw [Zbj h n (by omega), Zbu h n (by omega) n (by omega), h n (by omega)]
theorem Zfi {n : Nat} {d : Dk} (h : d.Fine n) (l : List Int) (hl : ∀ x ∈ l, 0 ≤ x ∧ x < 6) : ∀ j, j ≤ l.length → ∀ a : Nat, a < 12 → Yh (Qo d l j) (a : Int) = if (l.take j).contains ((a / 2 : Nat) : Int) = true then blk Rec.free (a : Int) else Yh d (a : Int)
 | 0, _, a, _ => by simp [Qo]
 | j + 1, hj, a, ha => by
  have hm := hl l[j] (List.getElem_mem _);have hg : l.getD j 0 = ((l[j].toNat : Nat) : Int) := by rw [Vf _ _ _ (by omega)]; omega
  show Yh ((Qo d l j).pairD (l.getD j 0) Rec.free) (a : Int) = _;rw [hg, Zdw (Vu h l j) (by omega) V7 ha, Zfi h l hl j (by omega) a ha, Za4 l j (by omega)];by_cases e : a / 2 = l[j].toNat
  ·have e2 : (((a / 2 : Nat) : Int) == l[j]) = true := by simp; omega
   rw [if_pos e, e2, Bool.or_true, if_pos rfl]
  ·have e2 : (((a / 2 : Nat) : Int) == l[j]) = false := by simp; omega
   rw [if_neg e, e2, Bool.or_false]
theorem Zpc {d e : Dk} (h : d.Fine 0) (h' : e.Fine 0) (hs : ∀ a : Nat, a < 12 → Yh d (a : Int) = Yh e (a : Int)) : d = e := by
 have l1 := Vk h;have l2 := Vk h';have n1 := h.len;have n2 := h'.len;have hb : d.blocks = e.blocks := by
  apply List.ext_getElem (by omega);intro a ha hb;have s := hs a (by omega);rw [Ky h (by omega), Ky h' (by omega), Vf _ _ _ ha, Vf _ _ _ hb] at s;exact s
 obtain ⟨b1, w1⟩ := d;obtain ⟨b2, w2⟩ := e;simp only at l1 l2 hb;rw [l1, l2, hb]
theorem Zml (d : Dk) : ∀ x ∈ Z0 d 6, 0 ≤ x ∧ x < 6 := by
 have key : ∀ n, ∀ x ∈ Z0 d n, 0 ≤ x ∧ x < (n : Int) := by
  intro n
  induction n with
  | zero => intro x hx; cases hx
  | succ n ih =>
   intro x hx;unfold Z0 at hx;split at hx
   ·rcases List.mem_append.1 hx with h1 | h1
    ·have := ih x h1; omega
    ·rw [List.mem_singleton.1 h1]; omega
   ·have := ih x hx; omega
 exact key 6
theorem Zl3 {n : Nat} {d : Dk} (h : d.Fine n) : (Qo (Xi (d.keep 0) 6) (Z0 (Xi (d.keep 0) 6) 6) (Z0 (Xi (d.keep 0) 6) 6).length).flush = d.clean ∧ Z0 (Xi (d.keep 0) 6) 6 = Z0 (d.keep 0) 6 := by
 have hK := h.kept 0;have hM := Zf6 hK 6 (Nat.le_refl _);have ht := Zbj hM.tell 6 (Nat.le_refl _);refine ⟨?_, ht⟩;rw [ht];have hC := Ja h;have hF := Vu hM.fine (Z0 (d.keep 0) 6) (Z0 (d.keep 0) 6).length;refine Zpc hF.flush hC.fine fun a ha => ?_;have hs : Yh (Qo (Xi (d.keep 0) 6) (Z0 (d.keep 0) 6) (Z0 (d.keep 0) 6).length).flush (a : Int) = Yh (Qo (Xi (d.keep 0) 6) (Z0 (d.keep 0) 6) (Z0 (d.keep 0) 6).length) (a : Int) := by
  unfold Yh;rw [Dk.flush_get _ fun x hx => (hF.place x hx).1]
 rw [hs, Zfi hM.fine _ (Zml _) _ (Nat.le_refl _) a ha, List.take_length, hM.side a ha, hC.side a ha, if_pos (show a / 2 < 6 by omega), if_pos (show a / 2 < 6 by omega)];unfold Ko;by_cases hc : (Z0 (d.keep 0) 6).contains ((a / 2 : Nat) : Int) = true
 ·rw [if_pos hc, if_pos hc]
 ·rw [if_neg hc, if_neg hc]
end Go.Proofs.Ytljogbielflgdac
