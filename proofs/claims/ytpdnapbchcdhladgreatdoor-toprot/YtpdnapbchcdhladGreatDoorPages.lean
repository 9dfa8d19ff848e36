import Derived.Test.YtpdnapbchcdhladGreatDoorTopP
import Derived.Maps.OwnSet
import Derived.Maps.StringElems
set_option maxHeartbeats 8000000
namespace Go.Proofs.YtpdnapbchcdhladGreatDoor
set_option maxRecDepth 100000
open Plain
def Kg (l : List Rec) : Nat → List Int
 | 0 => []
 | k + 1 => if (X6 l ((k : Int) + 1)).e = 0 then Kg l k ++ [(k : Int) + 1] else Kg l k
theorem Zel (l : List Rec) (fr most : Int) (hm : 0 ≤ most) : ∀ k, Qo l fr most k = ((Kg l k).filter fun x => decide (fr ≤ x)).take most.toNat
 | 0 => by simp [Qo, Kg]
 | k + 1 => by
  have ih := Zel l fr most hm k;unfold Qo Kg;by_cases he : (X6 l ((k : Int) + 1)).e = 0
  ·rw [if_pos he, List.filter_append];by_cases hf : fr ≤ (k : Int) + 1
   ·rw [List.filter_cons_of_pos (by exact decide_eq_true hf), List.filter_nil, List.take_append];by_cases hl : ((Qo l fr most k).length : Int) < most
    ·rw [if_pos ⟨he, hf, hl⟩, ih];rw [ih, List.length_take] at hl
     congr 1
     rw [List.take_of_length_le (by simp; omega)]
    ·rw [if_neg (fun h => hl h.2.2), ih];rw [ih, List.length_take] at hl;rw [show most.toNat - ((Kg l k).filter fun x => decide (fr ≤ x)).length = 0 by omega];simp
   ·rw [if_neg (fun h => hf h.2.1), ih, List.filter_cons_of_neg (by simpa using hf)];simp
  ·rw [if_neg (fun h => he h.1), if_neg he, ih]
theorem Zgn (l : List Rec) : ∀ k, (∀ x ∈ Kg l k, 1 ≤ x ∧ x ≤ (k : Int) ∧ (X6 l x).e = 0) ∧ (Kg l k).Pairwise (· < ·)
 | 0 => ⟨(fun x hx => by cases hx), List.Pairwise.nil⟩
 | k + 1 => by
  obtain ⟨h1, h2⟩ := Zgn l k;unfold Kg;by_cases he : (X6 l ((k : Int) + 1)).e = 0
  ·rw [if_pos he];refine ⟨fun x hx => ?_, List.pairwise_append.2 ⟨h2, List.pairwise_singleton _ _, fun a ha b hb => ?_⟩⟩
   ·rcases List.mem_append.1 hx with h | h
    ·have := h1 x h; exact ⟨this.1, by omega, this.2.2⟩
    ·rw [List.mem_singleton.1 h]; exact ⟨by omega, by omega, he⟩
   ·rw [List.mem_singleton.1 hb]; have := h1 a ha; omega
  ·rw [if_neg he];exact ⟨fun x hx => by have := h1 x hx; exact ⟨this.1, by omega, this.2.2⟩, h2⟩
theorem Zqc (key : Int) : ∀ (l : List Rec) (g : Got), (l.foldl (X7 key) g).e = 0 → g.e = 0 ∨ ∃ r ∈ l, r.key = key
 | [], g, h => .inl h
 | r :: l, g, h => by
  by_cases hk : r.key = key
  ·exact .inr ⟨r, by simp, hk⟩
  ·have e : X7 key g r = g := by
    unfold X7;rw [if_pos (.inl hk)]
   rw [List.foldl_cons, e] at h;rcases Zqc key l g h with h1 | ⟨x, hx, h1⟩
   ·exact .inl h1
   ·exact .inr ⟨x, by simp [hx], h1⟩
variable {f : Int → Bool} {j : Nat} {ks : List Int} {x : Int}
def Qp (ks : List Int) : Nat → Int → Option (List UInt8)
 | 0, _ => none
 | j + 1, x => if x = ks.getD j 0 then some [lo (j : Int), lo x] else Qp ks j x
def Ju (ks : List Int) : Nat → Nat
 | 0 => 0
 | j + 1 => Ju ks j + (if (Qp ks j (ks.getD j 0)).isSome = true then 0 else 1)
theorem Zg4 (ks : List Int) : ∀ j, Ju ks j ≤ j
 | 0 => Nat.le_refl _
 | j + 1 => by
  have := Zg4 ks j;unfold Ju;split <;> omega
def Ja (ks : List Int) (j : Nat) : Dd := ⟨1, ks.getD j 0, 0, [lo (j : Int), lo (ks.getD j 0)]⟩
structure Zcg (s : St) (ks : List Int) (j : Nat) : Prop where
 inv : s.Inv
 vers : ∀ r ∈ s.recs, r.ver ≤ 2 * (j : Int)
 len : s.recs.length ≤ 2 * j
 given : ∀ r ∈ s.recs, (Qp ks j r.key).isSome = true
 top : ∀ x b, Qp ks j x = some b → ∃ r ∈ s.recs, r.key = x ∧ r.kind = 2 ∧ r.data = b ∧ ∀ y ∈ s.recs, y.key = x → y = r ∨ y.ver < r.ver
theorem Zv9 (ks : List Int) : Zcg Qg ks 0 :=
 ⟨Jp, (fun r hr => by rw [Qz] at hr; cases hr), by rw [Qz]; decide, (fun r hr => by rw [Qz] at hr; cases hr), (fun x b h => by cases h)⟩
theorem Zmp (h0 : 1 ≤ ks.getD j 0) (h1 : ks.getD j 0 ≤ 255) : Z1 (Ja ks j) = 0 := by
 unfold Ja;generalize ks.getD j 0 = k at *;unfold Z1;simp only;rw [if_neg (by omega), if_neg (by simp; omega), if_neg (by simp)]
theorem Zsx {s : St} (h : Zcg s ks j) (hj : j ≤ 2) (h0 : 1 ≤ ks.getD j 0) (h1 : ks.getD j 0 ≤ 255) (bits : Int) :
  (s.step ⟨2, bits, 0, Ja ks j⟩).st.At ∧ ((s.step ⟨2, bits, 0, Ja ks j⟩).st.doS (Ja ks j)).e = 0 ∧ Zcg ((s.step ⟨2, bits, 0, Ja ks j⟩).st.doS (Ja ks j)).st ks (j + 1) := by
 have hw := Zmp h0 h1;have hk : (Ja ks j).kind ≠ 3 := (show (1 : Int) ≠ 3 by decide);have hM := Zc7 h.inv hw hk (by have := h.len; omega) (by have := Zby (l := s.recs) (m := 2 * (j : Int)) (by omega) h.vers; omega);have hn := Zby (l := s.recs) (m := 2 * (j : Int)) (by omega) h.vers;obtain ⟨f1, f2⟩ := Zpq h.inv (Ja ks j) bits;generalize (s.step ⟨2, bits, 0, Ja ks j⟩).st = t at *;have hsub : ∀ r ∈ s.recs, r ∈ t.recs := fun r hr => by
  rcases f2 with e | ⟨-, e⟩
  ·rw [e]; exact hr
  ·rw [e]; exact (hM.mem r).2 (.inr hr)
 have hin : ∀ r ∈ t.recs, r ∈ s.recs ∨ r = Y5 (Ja ks j) (Yw s.recs) := fun r hr => by
  rcases f2 with e | ⟨-, e⟩
  ·rw [e] at hr; exact .inl hr
  ·rw [e] at hr; exact ((hM.mem r).1 hr).symm
 have hlt : t.recs.length ≤ 2 * j + 1 := by
  have := h.len;rcases f2 with e | ⟨-, e⟩
  ·rw [e]; omega
  ·rw [e, hM.len]; omega
 have hvt : ∀ r ∈ t.recs, r.ver ≤ 2 * (j : Int) + 1 := fun r hr => by
  rcases hin r hr with h2 | rfl
  ·have := h.vers r h2; omega
  ·show Yw s.recs ≤ _; omega
 have hnt := Zby (l := t.recs) (m := 2 * (j : Int) + 1) (by omega) hvt;have hT := Zc7 f1 hw hk (by omega) (by omega);have hkey : ∀ n, (Y5 (Ja ks j) n).key = ks.getD j 0 := fun _ => rfl
 refine ⟨f1.at', hT.e, hT.inv, fun r hr => ?_, by rw [hT.len]; omega, fun r hr => ?_, fun x b hx => ?_⟩
 ·rcases (hT.mem r).1 hr with rfl | h2
  ·show Yw t.recs ≤ _; omega
  ·have := hvt r h2; omega
 ·unfold Qp;by_cases e : r.key = ks.getD j 0
  ·rw [if_pos e]; rfl
  ·rw [if_neg e];rcases (hT.mem r).1 hr with rfl | h2
   ·exact absurd (hkey _) e
   ·rcases hin r h2 with h3 | rfl
    ·exact h.given r h3
    ·exact absurd (hkey _) e
 ·unfold Qp at hx;by_cases e : x = ks.getD j 0
  ·rw [if_pos e] at hx;cases hx;refine ⟨Y5 (Ja ks j) (Yw t.recs), (hT.mem _).2 (.inl rfl), e.symm, rfl, by rw [e]; rfl, fun y hy _ => ?_⟩;rcases (hT.mem y).1 hy with h2 | h2
   ·exact .inl h2
   ·exact .inr ((Jo (l := t.recs)).2 y h2)
  ·rw [if_neg e] at hx;obtain ⟨r, k1, k2, k3, k4, k5⟩ := h.top x b hx;refine ⟨r, (hT.mem r).2 (.inr (hsub r k1)), k2, k3, k4, fun y hy hyk => ?_⟩;rcases (hT.mem y).1 hy with rfl | h2
   ·exact absurd ((hkey _).symm.trans hyk).symm e
   ·rcases hin y h2 with h3 | rfl
    ·exact k5 y h3 hyk
    ·exact absurd ((hkey _).symm.trans hyk).symm e
theorem Zmo {s : St} (h : Zcg s ks j) {b : List UInt8} (hx : Qp ks j x = some b) : (X6 s.recs x).e = 0 ∧ (X6 s.recs x).data = b := by
 obtain ⟨r, k1, rfl, k3, k4, k5⟩ := h.top x b hx;rw [Zjy k1 (Zuq h.inv k1) k5];unfold Zfa;rw [if_neg (by omega)];exact ⟨rfl, k4⟩
theorem Zsw {s : St} (h : Zcg s ks j) (hx : Qp ks j x = none) : (X6 s.recs x).e ≠ 0 := by
 have : X6 s.recs x = ⟨0, 6, []⟩ := Zma s.recs x ⟨0, 6, []⟩ fun r hr e => by
  have := h.given r hr;rw [e, hx] at this;cases this
 rw [this];show (6 : Int) ≠ 0
 decide
def Zcx (f : Int → Bool) : Nat → Nat
 | 0 => 0
 | k + 1 => Zcx f k + (if f ((k : Int) + 1) = true then 1 else 0)
theorem Zi4 : ∀ n, Zcx (fun _ => false) n = 0
 | 0 => rfl
 | n + 1 => by unfold Zcx; rw [Zi4 n]; rfl
theorem Zj8 {g : Int → Bool} (h : ∀ x, f x = g x) : ∀ n, Zcx f n = Zcx g n
 | 0 => rfl
 | n + 1 => by unfold Zcx; rw [Zj8 h n, h]
theorem Zmv (f : Int → Bool) (x : Int) (hf : f x = false) (h0 : 1 ≤ x) : ∀ n : Nat, Zcx (fun y => decide (y = x) || f y) n = Zcx f n + (if x ≤ (n : Int) then 1 else 0)
 | 0 => by rw [if_neg (by omega)]; rfl
 | n + 1 => by
  have ih := Zmv f x hf h0 n;have e1 : Zcx (fun y => decide (y = x) || f y) (n + 1) = Zcx (fun y => decide (y = x) || f y) n + (if (decide ((n : Int) + 1 = x) || f ((n : Int) + 1)) = true then 1 else 0) := rfl;have e2 : Zcx f (n + 1) = Zcx f n + (if f ((n : Int) + 1) = true then 1 else 0) := rfl;rw [e1, e2, ih];by_cases e : (n : Int) + 1 = x
  ·have hff : f ((n : Int) + 1) = false := by rw [e]; exact hf
   rw [hff, decide_eq_true e, if_neg (show ¬ x ≤ (n : Int) by omega), if_pos (show x ≤ ((n + 1 : Nat) : Int) by omega)];simp
  ·rw [decide_eq_false e, Bool.false_or];by_cases hx : x ≤ (n : Int)
   ·rw [if_pos hx, if_pos (show x ≤ ((n + 1 : Nat) : Int) by omega)]; omega
   ·rw [if_neg hx, if_neg (show ¬ x ≤ ((n + 1 : Nat) : Int) by omega)]; omega
theorem Zmr (ks : List Int) : ∀ j, (∀ i, i < j → 1 ≤ ks.getD i 0 ∧ ks.getD i 0 ≤ 255) → Zcx (fun x => (Qp ks j x).isSome) 255 = Ju ks j
 | 0, _ => Zi4 255
 | j + 1, h => by
  have ih := Zmr ks j fun i hi => h i (by omega)
  have hj := h j (by omega);have hon : ∀ x, (Qp ks (j + 1) x).isSome = (decide (x = ks.getD j 0) || (Qp ks j x).isSome) := fun x => by
   show (if x = ks.getD j 0 then some [lo (j : Int), lo x] else Qp ks j x).isSome = _;by_cases e : x = ks.getD j 0
   ·rw [if_pos e, decide_eq_true e]; rfl
   ·rw [if_neg e, decide_eq_false e, Bool.false_or]
  rw [Zj8 hon];unfold Ju;by_cases hs : (Qp ks j (ks.getD j 0)).isSome = true
  ·rw [if_pos hs, Nat.add_zero, ← ih];refine Zj8 (fun x => ?_) 255;by_cases e : x = ks.getD j 0
   ·rw [e, hs, Bool.or_true]
   ·rw [decide_eq_false e, Bool.false_or]
  ·rw [if_neg hs, Zmv (fun x => (Qp ks j x).isSome) _ (by simpa using hs) hj.1, ih, if_pos (show ks.getD j 0 ≤ ((255 : Nat) : Int) from hj.2)]
theorem Zio {l : List Rec} (h : ∀ x, (X6 l x).e = 0 ↔ f x = true) : ∀ n, (Kg l n).length = Zcx f n
 | 0 => rfl
 | n + 1 => by
  have ih := Zio h n;unfold Kg Zcx;by_cases he : (X6 l ((n : Int) + 1)).e = 0
  ·rw [if_pos he, if_pos ((h _).1 he), List.length_append, ih]; rfl
  ·rw [if_neg he, if_neg (fun h2 => he ((h _).2 h2)), ih]; rfl
theorem Zsy {s : St} (h : Zcg s ks j) (hj : j ≤ 3) (hk : ∀ i, i < j → 1 ≤ ks.getD i 0 ∧ ks.getD i 0 ≤ 255) : (Qo s.recs 1 99 255).length = Ju ks j := by
 have hl : (Kg s.recs 255).length = Ju ks j := by
  rw [← Zmr ks j hk];refine Zio (fun x => ?_) 255;cases hx : Qp ks j x with
  | none => exact ⟨fun h2 => absurd h2 (Zsw h hx), fun h2 => by cases h2⟩
  | some b => exact ⟨fun _ => rfl, fun _ => (Zmo h hx).1⟩
 rw [Zel _ _ _ (by decide)];have hf : (Kg s.recs 255).filter (fun x => decide ((1 : Int) ≤ x)) = Kg s.recs 255 := List.filter_eq_self.2 fun x hx => decide_eq_true ((Zgn s.recs 255).1 x hx).1
 rw [hf, List.length_take, hl];have := Zg4 ks j;show min 99 _ = _;omega
end Go.Proofs.YtpdnapbchcdhladGreatDoor
namespace Go.Proofs.YtpdnapbchcdhladGreatDoor
set_option maxRecDepth 100000
open Go.RowKit
open Plain Reg
abbrev Sp.goes (l : List Rec) (x : Sp) : Prop := (x.kind = 1 ∨ x.kind = 2) ∧ Z1 x.deed = 0 ∧ (doR l x.deed).e = 0
def Xw (l : List Rec) (x : Sp) : List (List Rec) :=
 if x.goes l then (if x.kind = 1 then [(doR l x.deed).l] else [l, (doR l x.deed).l]) else [l]
theorem Zcs {l : List Rec} {x : Sp} (h : x.goes l) (hk : x.kind = 1) : Xw l x = [(doR l x.deed).l] := by unfold Xw; rw [if_pos h, if_pos hk]
theorem Zcr {l : List Rec} {x : Sp} (h : x.goes l) (hk : x.kind ≠ 1) : Xw l x = [l, (doR l x.deed).l] := by unfold Xw; rw [if_pos h, if_neg hk]
theorem Zdj {l : List Rec} {x : Sp} (h : ¬ x.goes l) : Xw l x = [l] := by unfold Xw; rw [if_neg h]
theorem Zo4 {l : List Rec} {d : Dd} (h : (doR l d).e = 0) : (doR l d).l.length ≠ l.length := by
 unfold doR at h ⊢;by_cases hk : d.kind = 3
 ·rw [if_pos hk] at h ⊢;cases hf : l.findIdx? (Qi d) with
  | none => rw [hf] at h; exact absurd (show (6 : Int) = 0 from h) (by decide)
  | some i =>
   obtain ⟨hi, -⟩ := List.findIdx?_eq_some_iff_getElem.1 hf;show (l.take i ++ l.drop (i + 1)).length ≠ l.length;simp only [List.length_append, List.length_take, List.length_drop];omega
 ·rw [if_neg hk] at h ⊢;by_cases h5 : 5 < l.length
  ·rw [if_pos h5] at h; exact absurd (show (9 : Int) = 0 from h) (by decide)
  ·rw [if_neg h5] at h ⊢;by_cases hn : 60000 < Yw l
   ·rw [if_pos hn] at h; exact absurd (show (4 : Int) = 0 from h) (by decide)
   ·rw [if_neg hn];simp
theorem Zn2 {a b : List Rec} (h : a.length ≠ b.length) : Xv a b = false := by
 unfold Xv;rw [Bool.and_eq_false_iff];exact .inr (by simp [h])
theorem Zim (l : List Rec) (x : Sp) : Xw l x = [l] ∨ x.kind = 1 ∧ Xw l x = [(doR l x.deed).l] ∨ x.kind = 2 ∧ Xw l x = [l, (doR l x.deed).l] ∧ Xv (doR l x.deed).l l = false := by
 by_cases h : x.goes l
 ·by_cases hk : x.kind = 1
  ·exact .inr (.inl ⟨hk, Zcs h hk⟩)
  ·exact .inr (.inr ⟨h.1.resolve_left hk, Zcr h hk, Zn2 (Zo4 h.2.2)⟩)
 ·exact .inl (Zdj h)
theorem Zr8 (l : List Rec) (x : Sp) : ∀ y ∈ Xw l x, y.length ≤ l.length + 1 := by
 intro y hy;have hd := Zyl l x.deed;rcases Zim l x with h | ⟨-, h⟩ | ⟨-, h, -⟩
 ·rw [h] at hy; simp at hy; subst hy; omega
 ·rw [h] at hy; simp at hy; subst hy; exact hd
 ·rw [h] at hy; simp at hy; rcases hy with rfl | rfl
  ·omega
  ·exact hd
def Ko : St → List Sp → Nat
 | _, [] => 0
 | s, x :: l => if Xe s x = true then Ko (s.step x).st l + 1 else 0
def Zq6 : Xz (List Rec) where
 T := 33
 size := 1
 enc S w x cs := ∃ u, cs = [u] ∧ Yz S w u x
 len := by rintro S w x cs ⟨u, rfl, _⟩; rfl
 keep := by rintro S w w' x cs ⟨u, rfl, h⟩ hk; exact ⟨u, rfl, Zv.keep h hk⟩
 mono := by rintro S S' w x cs ⟨u, rfl, h⟩ hS; exact ⟨u, rfl, Zv.mono h hS⟩
 cap := by rintro S w x cs ⟨u, rfl, h⟩; exact ⟨u, rfl, Zv.caps h (by decide)⟩
 one := by
  rintro S w x cs ⟨u, rfl, h⟩ c hc;simp only [List.mem_cons, List.not_mem_nil, or_false] at hc;subst hc;obtain ⟨ao, cap, rfl⟩ := Zv.form h;rfl
abbrev Zer (S : Nat → Prop) (w : World) (v : Value) (l : List (List Rec)) : Prop := Zv Zq6 S w v l
theorem Zvv {S : Nat → Prop} {w : World} {ao : Option Addr} {n cap : Nat} {l : List (List Rec)} (h : Zer S w (.slice ao n cap) l) (i : Nat) (hi : i < l.length) :
  ∃ b off a c, ao = some ⟨b, off, none⟩ ∧ w.cell? ⟨b, off + i, none⟩ = some (.slice a l[i].length c) ∧ Yz S w (.slice a l[i].length c) l[i] := by
 obtain ⟨b, off, rfl, _, cs, ⟨u, rfl, hu⟩, hc⟩ := h.at i hi;obtain ⟨a, c, rfl⟩ := Zv.form hu;have h0 : w.cell? ⟨b, off + i * 1 + 0, none⟩ = some (.slice a l[i].length c) := hc 0 _ rfl;exact ⟨b, off, a, c, rfl, by simpa using h0, hu⟩
def Zwx : Prop := ∀ (S : Nat → Prop) (l : List Rec) (x : Sp) (v : Value) (ad : Option Addr) (c : Nat) (w : World), (∀ b, S b → b < w.heap.size) → Q7 l = true → Yz S w v l → Z0 S w (.slice ad x.deed.data.length c) x.deed.data → x.deed.data.length ≤ 140737488355328 →
 Calls Tryz.prog 78 #[v, .agg #[.int .i64 x.kind, .int .i64 x.n, .int .i64 x.m, .int .i64 x.deed.kind, .int .i64 x.deed.key, .int .i64 x.deed.num, .slice ad x.deed.data.length c]] w fun r w' => ∃ v', r = .returned v' ∧ Zer (Z7 S w.heap.size) w' v' (Xw l x) ∧ Zj w w'
def Ztm : Prop := ∀ (S : Nat → Prop) (s : St) (x : Sp) (v : Value) (ad : Option Addr) (c : Nat) (w : World), (∀ b, S b → b < w.heap.size) → Zw S s v w → Z0 S w (.slice ad x.deed.data.length c) x.deed.data → s.At → x.deed.data.length ≤ 140737488355328 →
 Calls Tryz.prog 51 #[v, .agg #[.int .i64 x.kind, .int .i64 x.n, .int .i64 x.m, .int .i64 x.deed.kind, .int .i64 x.deed.key, .int .i64 x.deed.num, .slice ad x.deed.data.length c]] w fun r w' => r = .returned (.bool (Xe s x)) ∧ Zj w w'
def Zqj (K : List Int) : Prop := ∀ (S : Nat → Prop) (l : List Sp) (v : Value) (w : World), (∀ x ∈ l, x.kind ∈ K) → (∀ b, S b → b < w.heap.size) → Zhb S w v l → l.length ≤ 100 → (∀ x ∈ l, x.deed.data.length ≤ 140737488355328) →
 Calls Tryz.prog 14 #[v] w fun r w' => r = .returned (.tuple #[.int .i64 (Ko Qg l : Int), .bool true]) ∧ Zj w w'
theorem Zu4 {w : World} {N : Nat} {A : Array Value} {T : TypeId} {f : Nat × Nat} (h : w.heap[N]? = some (.cells A T f)) (k : Nat) {cs : List Value} (hl : cs.length = 7) (h0 : A[k]? = cs[0]?) (h1 : A[k + 1]? = cs[1]?) (h2 : A[k + 2]? = cs[2]?) (h3 : A[k + 3]? = cs[3]?) (h4 : A[k + 4]? = cs[4]?) (h5 : A[k + 5]? = cs[5]?) (h6 : A[k + 6]? = cs[6]?) : ∀ (j : Nat) (u : Value), cs[j]? = some u → w.cell? ⟨N, 0 + k + j, none⟩ = some u := fun j u hj => by
 have h7 : j < 7 := by have := (List.getElem?_eq_some_iff.1 hj).1; omega
 rw [Nat.zero_add];refine Ze h (k + j) u ?_
 match j, h7, hj with
 | 0, _, hj => exact h0.trans hj
 | 1, _, hj => exact h1.trans hj
 | 2, _, hj => exact h2.trans hj
 | 3, _, hj => exact h3.trans hj
 | 4, _, hj => exact h4.trans hj
 | 5, _, hj => exact h5.trans hj
 | 6, _, hj => exact h6.trans hj
end Go.Proofs.YtpdnapbchcdhladGreatDoor
namespace Go.Proofs.YtpdnapbchcdhladGreatDoor
set_option maxRecDepth 100000
open Go.RowKit Go.Maps
open Plain Reg
variable {D : DataW Unit} {N b m n : Nat} {w w' : World}
structure Zaf (w : World) (b n : Nat) (D : DataW Unit) (f : Int → Option (List UInt8)) (m : Nat) : Prop where
 own : w.ownsMap Tryz.prog 3 (plainElem Tryz.prog 9) b n D
 has_ : ∀ x : Int, (Lit.int .i64 x).wf = true → has D (.int .i64 x) = (f x).isSome
 at_ : ∀ (x : Int) (l : List UInt8), (Lit.int .i64 x).wf = true → f x = some l → ∀ z, D.atKey (.int .i64 x) z = .lit (.string l)
 size_ : size D = m
theorem Zaf.made (w : World) : Zaf (w.alloc (.map #[] 0)) w.heap.size 0 (.map []) (fun _ => none) 0 := ⟨World.ownsMap_made _ _ _ _, (fun _ _ => rfl), (fun _ _ _ h => by cases h), rfl⟩
theorem Zaf.same {f : Int → Option (List UInt8)} (h : Zaf w b n D f m) (hb : w'.heap[b]? = w.heap[b]?) : Zaf w' b n D f m := by
 obtain ⟨⟨es, clock, h1, h2⟩, h3, h4, h5⟩ := h;exact ⟨⟨es, clock, hb.trans h1, h2⟩, h3, h4, h5⟩
theorem Zaf.grow {f : Int → Option (List UInt8)} (h : Zaf w b n D f m) (hg : Zj w w') : Zaf w' b n D f m := h.same (hg.block _ h.own.lt)
theorem Zaf.but {g : Nat} {f : Int → Option (List UInt8)} (h : Zaf w b n D f m) (hg : Zo g w w') (hn : b ≠ g) : Zaf w' b n D f m := h.same (hg.block _ h.own.lt hn)
theorem Zaf.on {n' m' : Nat} {f g : Int → Option (List UInt8)} (h : Zaf w b n D f m) (hf : ∀ x, f x = g x) (hn : n ≤ n') (hm : m = m') : Zaf w b n' D g m' :=
 ⟨h.own.mono hn, (fun x hx => by rw [h.has_ x hx, hf x]), (fun x l hx hl => h.at_ x l hx (by rw [hf x]; exact hl)), by rw [h.size_, hm]⟩
theorem Zaf.put {f : Int → Option (List UInt8)} (h : Zaf w b n D f m) (x : Int) (l : List UInt8) (hx : (Lit.int .i64 x).wf = true) (hl : l.length ≤ 1000) (hn : n < 1000000) :
  ∃ w', (Instr.mapUpdate 56 (.map (some b)) (.int .i64 x) (.string ⟨l.toArray⟩)).run Tryz.prog w = .ok () w' ∧ Zaf w' b (n + 1) (D.put (.int .i64 x) (.lit (.string l))) (fun y => if y = x then some l else f y) (m + (if (f x).isSome = true then 0 else 1)) ∧ Zo b w w' := by
 have hk : WideAt.IsKeyLit (.int .i64 x) := trivial;have he : plainElem (H := Unit) Tryz.prog 9 (.string ⟨l.toArray⟩) = some (.lit (.string l), []) := by
  have := plainElem_string (H := Unit) (P := Tryz.prog) Tryz.underlying9 (s := ⟨l.toArray⟩) (by show l.toArray.size ≤ _; simp [maxLen]; omega);exact this
 obtain ⟨w', hrun, h3, h4⟩ := h.own.update (int_keyed Tryz.underlying3) Tryz.underlying56 (by unfold maxLen; omega) (keyOf_int_mk Tryz.underlying3 hx) he;have hT := h.own.tidy (int_keyed Tryz.underlying3);refine ⟨w', hrun, ⟨h3, fun y hy => ?_, fun y l' hy hl' z => ?_, ?_⟩, Zo.grown h4⟩
 ·by_cases e : y = x
  ·subst e;rw [has_put_same h.own.isMap hk, if_pos rfl]; rfl
  ·rw [has_put_other (by intro e2; injection e2 with _ e2; exact e e2), h.has_ y hy, if_neg e]
 ·by_cases e : y = x
  ·subst e;rw [if_pos rfl] at hl';cases hl';exact atKey_put_same h.own.isMap hk _ _
  ·rw [if_neg e] at hl';rw [atKey_put_other (by intro e2; injection e2 with _ e2; exact e e2)];exact h.at_ y l' hy hl' z
 ·rw [size_put hT, h.has_ x hx, h.size_];split <;> rfl
theorem Zqr {S : Nat → Prop} {T : TypeId} {f : Nat × Nat} {x y : UInt8} (h : w.heap[N]? = some (.cells #[bv x, bv y] T f)) (hS : S N) : Z0 S w (.slice (some ⟨N, 0, none⟩) 2 2) [x, y] :=
 .inr ⟨N, 0, 2, hS, rfl, Nat.le_refl _, fun i hi => match i, hi with
  | 0, _ => Ze h 0 _ rfl
  | 1, _ => Ze h 1 _ rfl⟩
abbrev Zgk : Array Value := #[.int .i64 6, .int .i64 0, .int .i64 0, .int .i64 0, .int .i64 0, .int .i64 0, .slice none 0 0]
theorem Zlt {f : Nat × Nat} (h : w.heap[N]? = some (.cells Zgk 42 f)) : Zhb (fun b => b < w.heap.size) w (.slice (some ⟨N, 0, none⟩) 1 1) [⟨6, 0, 0, ⟨0, 0, 0, []⟩⟩] := by
 refine .inr ⟨N, 0, 1, Za h, rfl, Nat.le_refl _, fun i hi => ?_⟩;have hb : ∀ S, Z0 S w (.slice none 0 0) [] := fun S => .inl ⟨none, 0, rfl, rfl, fun _ => rfl⟩
 have hi1 : i < 1 := hi
 match i, hi1 with
 | 0, _ => exact ⟨_, ⟨_, rfl, hb _⟩, Zu4 h 0 rfl rfl rfl rfl rfl rfl rfl rfl⟩
theorem Zry : Ko Qg [⟨6, 0, 0, ⟨0, 0, 0, []⟩⟩] = 1 := by decide +kernel
end Go.Proofs.YtpdnapbchcdhladGreatDoor
