import Derived.Test.YtgaecpdokgklpadGreatDoorInv3
set_option maxHeartbeats 8000000
namespace Go.Proofs.YtgaecpdokgklpadGreatDoor
set_option maxRecDepth 100000
open Go.RowKit
open Plain Reg
theorem Zdq {dn : Nat → Bool} {i j : Nat} (h : j ≠ i) : upd dn i j = dn j := by unfold upd; rw [if_neg h]
theorem Zrs {dn : Nat → Bool} {i : Nat} : upd dn i i = true := by unfold upd; rw [if_pos rfl]
theorem Zcu {f : Nat → Value} {i j : Nat} {v : Value} (h : j ≠ i) : Qj f i v j = f j := by unfold Qj; rw [if_neg h]
theorem Zig {f : Nat → Value} {i : Nat} {v : Value} : Qj f i v i = v := by unfold Qj; rw [if_pos rfl]
def Zgs (g : Nat) (Q : Nat → Prop) (X : St) (v : Value) (w : World) : Prop := ∃ S : Nat → Prop, ¬ S g ∧ (∀ b, S b → b < w.heap.size ∧ Q b) ∧ Zw S X v w
theorem Zgs.grow {g : Nat} {Q : Nat → Prop} {X : St} {v : Value} {w w' : World} (h : Zgs g Q X v w) (hg : Zj w w') : Zgs g Q X v w' := by
 obtain ⟨S, h1, h2, h3⟩ := h; exact ⟨S, h1, fun b hb => ⟨Nat.lt_of_lt_of_le (h2 b hb).1 hg.size, (h2 b hb).2⟩, h3.grow hg⟩
theorem Zgs.of {S : Nat → Prop} {g : Nat} {Q : Nat → Prop} {X : St} {v : Value} {w : World} (h : Zw S X v w) (hn : ¬ S g) (hQ : ∀ b, S b → Q b) : Zgs g Q X v w := ⟨_, fun h' => hn h'.1, fun b hb => ⟨hb.2, hQ b hb.1⟩, h.capd⟩
theorem Zgs.off {g : Nat} {Q : Nat → Prop} {X : St} {v : Value} {w : World} (h : Zgs g Q X v w) : Zw (fun b => b ≠ g ∧ Q b) X v w := by
 obtain ⟨S, h1, h2, h3⟩ := h; exact h3.mono fun b hb => ⟨fun e => h1 (by rw [← e]; exact hb), (h2 b hb).2⟩
theorem Zq4 {w : World} {g : Nat} {c0 c1 c2 c3 : Value} {T : TypeId} (h : w.heap[g]? = some (.cells #[c0, c1, c2, c3] T (0, 0))) (x0 x1 x2 x3 : Value) : Yu T w ((((w.setCell ⟨g, 0, none⟩ x0).setCell ⟨g, 1, none⟩ x1).setCell ⟨g, 2, none⟩ x2).setCell ⟨g, 3, none⟩ x3) := by
 obtain ⟨hp1, hp2⟩ := Yg h x0 x1 x2 x3;exact .inr ⟨g, _, _, hp2, h, hp1, rfl⟩
def K3 (W : World) (S0 : Nat → Prop) (A b s : Nat) (X : St) (n e : Int) (dn : Nat → Bool) (f : Nat → Value) (w : World) : Prop :=
 Zj W w ∧ (dn A = true → ∃ v', f A = .tuple #[v', .int .i64 n, .int .i64 e] ∧ (∃ b1 e1 l1 m1 i1 j1, v' = .agg #[.slice b1 X.dk.blocks.length e1, .slice l1 X.dk.late.length m1, .slice i1 X.idx.length j1, .int .i64 X.next]) ∧ (dn s = false → Zw (Z7 S0 W.heap.size) X v' w)) ∧
  (dn b = true → ∃ g, f b = .pointer (some ⟨g, 0, none⟩) ∧ W.heap.size ≤ g ∧ g < w.heap.size ∧
   (dn s = false → w.heap[g]? = some Y0 ∧ (dn A = true → ∃ v', f A = .tuple #[v', .int .i64 n, .int .i64 e] ∧ Zgs g (Z7 S0 W.heap.size) X v' w)) ∧
   (dn s = true → ∃ b1 e1 l1 m1 i1 j1, w.heap[g]? = some (.cells #[.slice b1 X.dk.blocks.length e1, .slice l1 X.dk.late.length m1, .slice i1 X.idx.length j1, .int .i64 X.next] 30 (0, 0)) ∧ Zgs g (Z7 S0 W.heap.size) X (.agg #[.slice b1 X.dk.blocks.length e1, .slice l1 X.dk.late.length m1, .slice i1 X.idx.length j1, .int .i64 X.next]) w))
theorem K3.start (W : World) (S0 : Nat → Prop) (A b s : Nat) (X : St) (n e : Int) (f : Nat → Value) : K3 W S0 A b s X n e (fun _ => false) f W.drew := by
 refine ⟨(Zj.refl _).drew, ?_, ?_⟩ <;> (intro h; cases h)
theorem K3.grow {W : World} {S0 : Nat → Prop} {A b s : Nat} {X : St} {n e : Int} {dn : Nat → Bool} {f : Nat → Value} {w w' : World} (h : K3 W S0 A b s X n e dn f w) (hg : Zj w w') : K3 W S0 A b s X n e dn f w' := by
 refine ⟨h.1.trans hg, fun hA => ?_, fun hb => ?_⟩
 ·obtain ⟨v', h1, h2, h3⟩ := h.2.1 hA;exact ⟨v', h1, h2, fun hs => (h3 hs).grow hg⟩
 ·obtain ⟨g, h1, h2, h3, h4, h5⟩ := h.2.2 hb;refine ⟨g, h1, h2, Nat.lt_of_lt_of_le h3 hg.size, fun hs => ⟨(hg.block _ h3).trans (h4 hs).1, fun hA => ?_⟩, fun hs => ?_⟩
  ·obtain ⟨v', e1, e2⟩ := (h4 hs).2 hA;exact ⟨v', e1, e2.grow hg⟩
  ·obtain ⟨b1, e1, l1, m1, i1, j1, k1, k2⟩ := h5 hs;exact ⟨b1, e1, l1, m1, i1, j1, (hg.block _ h3).trans k1, k2.grow hg⟩
theorem K3.call {W : World} {S0 : Nat → Prop} {A b s : Nat} {X : St} {n e : Int} {dn : Nat → Bool} {f : Nat → Value} {w w' : World} {v : Value} (h : K3 W S0 A b s X n e dn f w) (nn : b ≠ A ∧ s ≠ A) (hs : dn s = false) (hS : ∀ b, S0 b → b < W.heap.size) (hg : Zj w w') (hv : Zw (Z7 S0 w.heap.size) X v w') : K3 W S0 A b s X n e (upd dn A) (Qj f A (.tuple #[v, .int .i64 n, .int .i64 e])) w' := by
 obtain ⟨n1, n2⟩ := nn;obtain ⟨b1, e1, l1, m1, i1, j1, hv1, -, -, -⟩ := hv.form;refine ⟨h.1.trans hg, fun _ => ⟨v, Zig, ⟨_, _, _, _, _, _, hv1⟩, fun _ => hv.mono (Yd h.1.size)⟩, fun hb => ?_⟩;rw [Zdq n1] at hb;obtain ⟨g, h1, h2, h3, h4, h5⟩ := h.2.2 hb;refine ⟨g, by rw [Zcu n1]; exact h1, h2, Nat.lt_of_lt_of_le h3 hg.size, fun _ => ⟨(hg.block _ h3).trans (h4 hs).1, fun _ => ⟨v, Zig, Zgs.of hv ?_ (Yd h.1.size)⟩⟩, fun hs' => ?_⟩
 ·rintro (hx | hx)
  ·have := hS _ hx; omega
  ·omega
 ·rw [Zdq n2, hs] at hs'; cases hs'
theorem K3.alloc {W : World} {S0 : Nat → Prop} {A b s : Nat} {X : St} {n e : Int} {dn : Nat → Bool} {f : Nat → Value} {w : World} (h : K3 W S0 A b s X n e dn f w) (nn : A ≠ b ∧ s ≠ b) (hs : dn s = false) : K3 W S0 A b s X n e (upd dn b) (Qj f b (.pointer (some ⟨w.heap.size, 0, none⟩))) (w.alloc Y0) := by
 obtain ⟨n1, n2⟩ := nn;have hg := Zd w Y0;have h' := h.grow hg;refine ⟨h'.1, by rw [Zdq n1, Zdq n2, Zcu n1]; exact h'.2.1, fun _ => ⟨w.heap.size, Zig, h.1.size, by simp, fun _ => ⟨Zk _ _ _, fun hA => ?_⟩, fun hs' => ?_⟩⟩
 ·rw [Zdq n1] at hA;rw [Zcu n1];obtain ⟨v', k1, -, k3⟩ := h.2.1 hA;exact ⟨v', k1, ⟨fun b => Z7 S0 W.heap.size b ∧ b < w.heap.size, fun hx => absurd hx.2 (Nat.lt_irrefl _), fun b hb => ⟨Nat.lt_of_lt_of_le hb.2 hg.size, hb.1⟩, (k3 hs).capd.grow hg⟩⟩
 ·rw [Zdq n2, hs] at hs'; cases hs'
theorem K3.store {W : World} {S0 : Nat → Prop} {A b s : Nat} {X : St} {n e : Int} {dn : Nat → Bool} {f : Nat → Value} {w : World} (h : K3 W S0 A b s X n e dn f w) (nn : A ≠ s ∧ b ≠ s) (hA : dn A = true) (hb : dn b = true) (hs : dn s = false) :
  ∃ g b1 e1 l1 m1 i1 j1, f b = .pointer (some ⟨g, 0, none⟩) ∧ w.heap[g]? = some Y0 ∧ f A = .tuple #[.agg #[.slice b1 X.dk.blocks.length e1, .slice l1 X.dk.late.length m1, .slice i1 X.idx.length j1, .int .i64 X.next], .int .i64 n, .int .i64 e] ∧ K3 W S0 A b s X n e (upd dn s) (Qj f s undef) ((((w.setCell ⟨g, 0, none⟩ (.slice b1 X.dk.blocks.length e1)).setCell ⟨g, 1, none⟩ (.slice l1 X.dk.late.length m1)).setCell ⟨g, 2, none⟩ (.slice i1 X.idx.length j1)).setCell ⟨g, 3, none⟩ (.int .i64 X.next)) := by
 obtain ⟨n1, n2⟩ := nn;obtain ⟨g, h1, h2, h3, h4, h5⟩ := h.2.2 hb;obtain ⟨k1, k2⟩ := h4 hs;obtain ⟨v', e1', e2⟩ := k2 hA;obtain ⟨v2, e3, ⟨b1, e1, l1, m1, i1, j1, hv⟩, -⟩ := h.2.1 hA;have hvv : v' = .agg #[.slice b1 X.dk.blocks.length e1, .slice l1 X.dk.late.length m1, .slice i1 X.idx.length j1, .int .i64 X.next] := by
  rw [e1'] at e3;injection e3 with e3
  have := congrArg (fun (a : Array Value) => a[0]?) e3;simp at this;rw [this, hv]
 subst hvv;have k1' : w.heap[g]? = some (.cells #[.slice none 0 0, .slice none 0 0, .slice none 0 0, .int .i64 0] 30 (0, 0)) := k1;obtain ⟨hp1, hp2⟩ := Yg k1' (.slice b1 X.dk.blocks.length e1) (.slice l1 X.dk.late.length m1) (.slice i1 X.idx.length j1) (.int .i64 X.next);refine ⟨g, b1, e1, l1, m1, i1, j1, h1, k1, e1', hp2.grow h.1 h2, fun _ => ⟨_, by rw [Zcu n1]; exact e1', ⟨_, _, _, _, _, _, rfl⟩, fun hs' => ?_⟩, fun _ => ⟨g, by rw [Zcu n2]; exact h1, h2, Nat.lt_of_lt_of_le h3 hp2.size, fun hs' => ?_, fun _ => ⟨b1, e1, l1, m1, i1, j1, hp1, ?_⟩⟩⟩
 ·rw [Zrs] at hs'; cases hs'
 ·rw [Zrs] at hs'; cases hs'
 ·obtain ⟨S, m1', m2, m3⟩ := e2;exact ⟨S, m1', fun b hb => ⟨Nat.lt_of_lt_of_le (m2 b hb).1 hp2.size, (m2 b hb).2⟩, m3.but hp2 m1'⟩
theorem K3.done {W : World} {S0 : Nat → Prop} {A b s : Nat} {X : St} {n e : Int} {dn : Nat → Bool} {f : Nat → Value} {w : World} (h : K3 W S0 A b s X n e dn f w) (hb : dn b = true) (hs : dn s = true) : Zj W w ∧ ∃ g b1 e1 l1 m1 i1 j1, f b = .pointer (some ⟨g, 0, none⟩) ∧ W.heap.size ≤ g ∧ w.heap[g]? = some (.cells #[.slice b1 X.dk.blocks.length e1, .slice l1 X.dk.late.length m1, .slice i1 X.idx.length j1, .int .i64 X.next] 30 (0, 0)) ∧ Zw (fun b => b ≠ g ∧ Z7 S0 W.heap.size b) X (.agg #[.slice b1 X.dk.blocks.length e1, .slice l1 X.dk.late.length m1, .slice i1 X.idx.length j1, .int .i64 X.next]) w := by
 obtain ⟨g, h1, h2, h3, h4, h5⟩ := h.2.2 hb;obtain ⟨b1, e1, l1, m1, i1, j1, k1, k2⟩ := h5 hs;exact ⟨h.1, g, b1, e1, l1, m1, i1, j1, h1, h2, k1, k2.off⟩
end Go.Proofs.YtgaecpdokgklpadGreatDoor
