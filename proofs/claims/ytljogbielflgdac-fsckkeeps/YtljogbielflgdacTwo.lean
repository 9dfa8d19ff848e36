import Derived.Test.YtljogbielflgdacPairC
set_option maxHeartbeats 8000000
namespace Go.Proofs.Ytljogbielflgdac
set_option maxRecDepth 100000
open Go.RowKit
open Plain Reg
def Zji : Obj := .cells #[.slice none 0 0, .slice none 0 0] 27 (0, 0)
theorem Q1 {dn : Nat → Bool} {i j : Nat} (h : j ≠ i) : upd dn i j = dn j := by unfold upd; rw [if_neg h]
theorem Zmk {dn : Nat → Bool} {i : Nat} : upd dn i i = true := by unfold upd; rw [if_pos rfl]
theorem Vc {f : Nat → Value} {i j : Nat} {v : Value} (h : j ≠ i) : Kh f i v j = f j := by unfold Kh; rw [if_neg h]
theorem Zah {f : Nat → Value} {i : Nat} {v : Value} : Kh f i v i = v := by unfold Kh; rw [if_pos rfl]
theorem Zl7 {w : World} {g : Nat} (h : w.heap[g]? = some Zji) (vb vl : Value) : Ys 27 w ((w.setCell ⟨g, 0, none⟩ vb).setCell ⟨g, 1, none⟩ vl) := by
 obtain ⟨hp1, hp2⟩ := Xx (show w.heap[g]? = some (.cells #[.slice none 0 0, .slice none 0 0] 27 (0, 0)) from h) vb vl;exact .inr ⟨g, _, _, hp2, h, hp1, rfl⟩
theorem Yb.cap {S : Nat → Prop} {w : World} {v : Value} {l : List UInt8} (h : Yb S w v l) : Yb (fun b => S b ∧ b < w.heap.size) w v l := by
 by_cases h0 : l = []
 ·subst h0;rcases h with h | ⟨b, off, cap, hS, rfl, h1, hc⟩
  ·exact .inl h
  ·exact .inl ⟨_, cap, rfl, rfl, fun h => by cases h⟩
 ·rcases h with ⟨_, _, _, h1, _⟩ | ⟨b, off, cap, hS, h2, h1, hc⟩
  ·exact absurd h1 h0
  ·exact .inr ⟨b, off, cap, ⟨hS, Zo (hc 0 (List.length_pos_iff.2 h0))⟩, h2, h1, hc⟩
theorem Yy.cap {S : Nat → Prop} {w : World} {v : Value} {bs : List (List UInt8)} (h : Yy S w v bs) : Yy (fun b => S b ∧ b < w.heap.size) w v bs := by
 by_cases h0 : bs = []
 ·subst h0;rcases h with h | ⟨b, off, cap, hS, rfl, h1, hc⟩
  ·exact .inl h
  ·exact .inl ⟨_, cap, rfl, rfl, fun h => by cases h⟩
 ·rcases h with ⟨_, _, _, h1, _⟩ | ⟨b, off, cap, hS, h2, h1, hc⟩
  ·exact absurd h1 h0
  ·refine .inr ⟨b, off, cap, ⟨hS, ?_⟩, h2, h1, fun i hi => ?_⟩
   ·obtain ⟨u, h3, _⟩ := hc 0 (List.length_pos_iff.2 h0);exact Zo h3
   ·obtain ⟨u, h3, h4⟩ := hc i hi;exact ⟨u, h3, h4.cap⟩
theorem Xb.cap {S : Nat → Prop} {w : World} {v : Value} {ws : List Wr} (h : Xb S w v ws) : Xb (fun b => S b ∧ b < w.heap.size) w v ws := by
 by_cases h0 : ws = []
 ·subst h0;rcases h with h | ⟨b, off, cap, hS, rfl, h1, hc⟩
  ·exact .inl h
  ·exact .inl ⟨_, cap, rfl, rfl, fun h => by cases h⟩
 ·rcases h with ⟨_, _, _, h1, _⟩ | ⟨b, off, cap, hS, h2, h1, hc⟩
  ·exact absurd h1 h0
  ·refine .inr ⟨b, off, cap, ⟨hS, Zo (hc 0 (List.length_pos_iff.2 h0)).1⟩, h2, h1, fun i hi => ?_⟩;obtain ⟨hq, u, h3, h4⟩ := hc i hi;exact ⟨hq, u, h3, h4.cap⟩
theorem Yi.cap {S : Nat → Prop} {d : Dk} {v : Value} {w : World} (h : Yi S d v w) : Yi (fun b => S b ∧ b < w.heap.size) d v w := by
 obtain ⟨vb, vl, h1, h2, h3⟩ := h; exact ⟨vb, vl, h1, h2.cap, h3.cap⟩
def Off (g : Nat) (d : Dk) (v : Value) (w : World) : Prop := ∃ S : Nat → Prop, ¬ S g ∧ (∀ b, S b → b < w.heap.size) ∧ Yi S d v w
theorem Off.grow {g : Nat} {d : Dk} {v : Value} {w w' : World} (h : Off g d v w) (hg : Zt w w') : Off g d v w' := by
 obtain ⟨S, h1, h2, h3⟩ := h; exact ⟨S, h1, fun b hb => Nat.lt_of_lt_of_le (h2 b hb) hg.size, h3.grow hg⟩
theorem Off.of {S : Nat → Prop} {g : Nat} {d : Dk} {v : Value} {w : World} (h : Yi S d v w) (hn : ¬ S g) : Off g d v w := ⟨_, fun h' => hn h'.1, fun _ hb => hb.2, h.cap⟩
theorem Off.new {d : Dk} {v : Value} {w : World} (h : Xn d v w) : Off w.heap.size d v w := ⟨fun b => b < w.heap.size, fun h' => absurd h' (Nat.lt_irrefl _), fun _ hb => hb, h.s⟩
theorem Off.p {g : Nat} {d : Dk} {v : Value} {w : World} (h : Off g d v w) : Xn d v w := by
 obtain ⟨S, _, _, h3⟩ := h; exact h3.p
def Qb (W : World) (A B b s : Nat) (d1 d2 : Dk) (e : Int) (dn : Nat → Bool) (f : Nat → Value) (w : World) : Prop :=
 Zt W w ∧ (dn B = true → ∃ v', f B = .tuple #[v', .int .i64 e]) ∧ (dn s = false → (dn A = true → Xn d1 (f A) w) ∧ (dn B = true → ∃ v', f B = .tuple #[v', .int .i64 e] ∧ Xn d2 v' w)) ∧
  (dn b = true → ∃ g, f b = .pointer (some ⟨g, 0, none⟩) ∧ W.heap.size ≤ g ∧ g < w.heap.size ∧
   (dn s = false → w.heap[g]? = some Zji ∧ (dn A = true → Off g d1 (f A) w) ∧ (dn B = true → ∃ v', f B = .tuple #[v', .int .i64 e] ∧ Off g d2 v' w)) ∧
   (dn s = true → ∃ vb vl, w.heap[g]? = some (.cells #[vb, vl] 27 (0, 0)) ∧ Off g d2 (.agg #[vb, vl]) w))
theorem Qb.start (W : World) (A B b s : Nat) (d1 d2 : Dk) (e : Int) (f : Nat → Value) : Qb W A B b s d1 d2 e (fun _ => false) f W.drew := by
 refine ⟨(Zt.refl _).drew, ?_, fun _ => ⟨?_, ?_⟩, ?_⟩ <;> (intro h; cases h)
theorem Qb.grow {W : World} {A B b s : Nat} {d1 d2 : Dk} {e : Int} {dn : Nat → Bool} {f : Nat → Value} {w w' : World} (h : Qb W A B b s d1 d2 e dn f w) (hg : Zt w w') : Qb W A B b s d1 d2 e dn f w' := by
 refine ⟨h.1.trans hg, h.2.1, fun hs => ⟨fun hA => Z4 _ _ _ _ hg ((h.2.2.1 hs).1 hA), fun hB => ?_⟩, fun hb => ?_⟩
 ·obtain ⟨v', h1, h2⟩ := (h.2.2.1 hs).2 hB;exact ⟨v', h1, Z4 _ _ _ _ hg h2⟩
 ·obtain ⟨g, h1, h2, h3, h4, h5⟩ := h.2.2.2 hb;refine ⟨g, h1, h2, Nat.lt_of_lt_of_le h3 hg.size, fun hs => ?_, fun hs => ?_⟩
  ·obtain ⟨k1, k2, k3⟩ := h4 hs;refine ⟨(hg.block _ h3).trans k1, fun hA => (k2 hA).grow hg, fun hB => ?_⟩;obtain ⟨v', e1, e2⟩ := k3 hB;exact ⟨v', e1, e2.grow hg⟩
  ·obtain ⟨vb, vl, k1, k2⟩ := h5 hs;exact ⟨vb, vl, (hg.block _ h3).trans k1, k2.grow hg⟩
theorem Qb.callA {W : World} {A B b s : Nat} {d1 d2 : Dk} {e : Int} {dn : Nat → Bool} {f : Nat → Value} {w w' : World} {v : Value} {S : Nat → Prop} (h : Qb W A B b s d1 d2 e dn f w) (n : B ≠ A ∧ b ≠ A ∧ s ≠ A) (hB : dn B = false) (hs : dn s = false) (hS : ∀ b, S b → b < W.heap.size) (hg : Zt w w') (hv : Yi (Yf S w.heap.size) d1 v w') : Qb W A B b s d1 d2 e (upd dn A) (Kh f A v) w' := by
 obtain ⟨n1, n2, n3⟩ := n;have h' := h.grow hg;refine ⟨h'.1, fun hB' => (by rw [Q1 n1, hB] at hB'; cases hB'), fun _ => ⟨fun _ => by rw [Zah]; exact hv.p, fun hB' => ?_⟩, fun hb => ?_⟩
 ·rw [Q1 n1, hB] at hB'; cases hB'
 ·rw [Q1 n2] at hb;obtain ⟨g, h1, h2, h3, h4, h5⟩ := h.2.2.2 hb;refine ⟨g, by rw [Vc n2]; exact h1, h2, Nat.lt_of_lt_of_le h3 hg.size, fun _ => ?_, fun hs' => ?_⟩
  ·refine ⟨(hg.block _ h3).trans (h4 hs).1, fun _ => ?_, fun hB' => ?_⟩
   ·rw [Zah];refine Off.of hv ?_;rintro (hx | hx)
    ·have := hS _ hx; omega
    ·omega
   ·rw [Q1 n1, hB] at hB'; cases hB'
  ·rw [Q1 n3, hs] at hs'; cases hs'
theorem Qb.leans {W : World} {A B b s : Nat} {d1 d2 : Dk} {e : Int} {dn : Nat → Bool} {f : Nat → Value} {w : World} (h : Qb W A B b s d1 d2 e dn f w) (hA : dn A = true) (hs : dn s = false) : ∃ S : Nat → Prop, (∀ b, S b → b < w.heap.size) ∧ Yi S d1 (f A) w ∧ (∀ g, dn b = true → f b = .pointer (some ⟨g, 0, none⟩) → ¬ S g) := by
 cases hb : dn b with
 | true =>
  obtain ⟨g, h1, h2, h3, h4, h5⟩ := h.2.2.2 hb;obtain ⟨S, k1, k2, k3⟩ := (h4 hs).2.1 hA;refine ⟨S, k2, k3, fun g' _ hg' => ?_⟩;rw [h1] at hg';cases hg';exact k1
 | false => exact ⟨_, fun _ hb => hb, ((h.2.2.1 hs).1 hA).s, fun _ hb' => by cases hb'⟩
theorem Qb.callB {W : World} {A B b s : Nat} {d1 d2 : Dk} {e : Int} {dn : Nat → Bool} {f : Nat → Value} {w w' : World} {v : Value} {S : Nat → Prop} (h : Qb W A B b s d1 d2 e dn f w) (n : A ≠ B ∧ b ≠ B ∧ s ≠ B) (hs : dn s = false) (hn : ∀ g, dn b = true → f b = .pointer (some ⟨g, 0, none⟩) → ¬ S g) (hg : Zt w w') (hv : Yi (Yf S w.heap.size) d2 v w') : Qb W A B b s d1 d2 e (upd dn B) (Kh f B (.tuple #[v, .int .i64 e])) w' := by
 obtain ⟨n1, n2, n3⟩ := n;have h' := h.grow hg;refine ⟨h'.1, fun _ => ⟨v, Zah⟩, fun _ => ⟨fun hA => ?_, fun _ => ⟨v, Zah, hv.p⟩⟩, fun hb => ?_⟩
 ·rw [Q1 n1] at hA;rw [Vc n1];exact (h'.2.2.1 hs).1 hA
 ·rw [Q1 n2] at hb;obtain ⟨g, h1, h2, h3, h4, h5⟩ := h.2.2.2 hb;refine ⟨g, by rw [Vc n2]; exact h1, h2, Nat.lt_of_lt_of_le h3 hg.size, fun _ => ?_, fun hs' => ?_⟩
  ·refine ⟨(hg.block _ h3).trans (h4 hs).1, fun hA => ?_, fun _ => ⟨v, Zah, Off.of hv ?_⟩⟩
   ·rw [Q1 n1] at hA;rw [Vc n1];exact ((h4 hs).2.1 hA).grow hg
   ·rintro (hx | hx)
    ·exact hn g hb h1 hx
    ·omega
  ·rw [Q1 n3, hs] at hs'; cases hs'
theorem Qb.alloc {W : World} {A B b s : Nat} {d1 d2 : Dk} {e : Int} {dn : Nat → Bool} {f : Nat → Value} {w : World} (h : Qb W A B b s d1 d2 e dn f w) (n : A ≠ b ∧ B ≠ b ∧ s ≠ b) (hs : dn s = false) : Qb W A B b s d1 d2 e (upd dn b) (Kh f b (.pointer (some ⟨w.heap.size, 0, none⟩))) (w.alloc Zji) := by
 obtain ⟨n1, n2, n3⟩ := n;have hg := Zd w Zji;have h' := h.grow hg;refine ⟨h'.1, by rw [Q1 n2, Vc n2]; exact h.2.1, fun _ => ?_, fun _ => ⟨w.heap.size, Zah, h.1.size, by simp, fun _ => ⟨Zq _ _ _, fun hA => ?_, fun hB => ?_⟩, fun hs' => ?_⟩⟩
 ·rw [Q1 n1, Q1 n2, Vc n1, Vc n2];exact h'.2.2.1 hs
 ·rw [Q1 n1] at hA;rw [Vc n1];exact (Off.new ((h.2.2.1 hs).1 hA)).grow hg
 ·rw [Q1 n2] at hB;rw [Vc n2];obtain ⟨v', k1, k2⟩ := (h.2.2.1 hs).2 hB;exact ⟨v', k1, (Off.new k2).grow hg⟩
 ·rw [Q1 n3, hs] at hs'; cases hs'
theorem Qb.store {W : World} {A B b s : Nat} {d1 d2 : Dk} {e : Int} {dn : Nat → Bool} {f : Nat → Value} {w : World} (h : Qb W A B b s d1 d2 e dn f w) (n : A ≠ s ∧ B ≠ s ∧ b ≠ s) (hB : dn B = true) (hb : dn b = true) (hs : dn s = false) :
  ∃ g v', f b = .pointer (some ⟨g, 0, none⟩) ∧ w.heap[g]? = some Zji ∧ f B = .tuple #[v', .int .i64 e] ∧ Xn d2 v' w ∧ ∀ vb vl, v' = .agg #[vb, vl] → Qb W A B b s d1 d2 e (upd dn s) (Kh f s undef) ((w.setCell ⟨g, 0, none⟩ vb).setCell ⟨g, 1, none⟩ vl) := by
 obtain ⟨n1, n2, n3⟩ := n;obtain ⟨g, h1, h2, h3, h4, h5⟩ := h.2.2.2 hb;obtain ⟨k1, k2, k3⟩ := h4 hs;obtain ⟨v', e1, e2⟩ := k3 hB;refine ⟨g, v', h1, k1, e1, e2.p, fun vb vl hv => ?_⟩;obtain ⟨hp1, hp2⟩ := Xx (show w.heap[g]? = some (.cells #[.slice none 0 0, .slice none 0 0] 27 (0, 0)) from k1) vb vl;refine ⟨hp2.grow h.1 h2, by rw [Q1 n2, Vc n2]; exact h.2.1, fun hs' => ?_, fun _ => ⟨g, by rw [Vc n3]; exact h1, h2, Nat.lt_of_lt_of_le h3 hp2.size, fun hs' => ?_, fun _ => ⟨vb, vl, hp1, ?_⟩⟩⟩
 ·rw [Zmk] at hs'; cases hs'
 ·rw [Zmk] at hs'; cases hs'
 ·obtain ⟨S, m1, m2, m3⟩ := e2;rw [hv] at m3;exact ⟨S, m1, fun b hb => Nat.lt_of_lt_of_le (m2 b hb) hp2.size, m3.but hp2 m1⟩
theorem Qb.doneOff {W : World} {A B b s : Nat} {d1 d2 : Dk} {e : Int} {dn : Nat → Bool} {f : Nat → Value} {w : World} (h : Qb W A B b s d1 d2 e dn f w) (hb : dn b = true) (hs : dn s = true) : Zt W w ∧ ∃ g vb vl, f b = .pointer (some ⟨g, 0, none⟩) ∧ W.heap.size ≤ g ∧ w.heap[g]? = some (.cells #[vb, vl] 27 (0, 0)) ∧ Off g d2 (.agg #[vb, vl]) w := by
 obtain ⟨g, h1, h2, h3, h4, h5⟩ := h.2.2.2 hb;obtain ⟨vb, vl, k1, k2⟩ := h5 hs;exact ⟨h.1, g, vb, vl, h1, h2, k1, k2⟩
end Go.Proofs.Ytljogbielflgdac
