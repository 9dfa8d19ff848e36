/-
  A region that draws its order: two calls that make a disk, one of the other, a variable that is made, and written with what the second one answered.
  No program but its types' numbers.
-/
import Derived.Test.YtgaecpdokgklpabPairC
import Derived.Test.YtgaecpdokgklpabTwo
namespace Go.Proofs.Ytgaecpdokgklpab
set_option maxRecDepth 100000
open Go.RowKit
open Go.Proofs.Ytgaecpdokgklpab.Plain Go.Proofs.Ytgaecpdokgklpab.Reg

theorem BytesS.cap {S : Nat → Prop} {w : World} {v : Value} {l : List UInt8} (h : BytesS S w v l) : BytesS (fun b => S b ∧ b < w.heap.size) w v l := by
 by_cases h0 : l = []
 ·subst h0
  rcases h with h | ⟨b, off, cap, hS, rfl, h1, hc⟩
  ·exact .inl h
  ·exact .inl ⟨_, cap, rfl, rfl, fun h => by cases h⟩
 ·rcases h with ⟨_, _, _, h1, _⟩ | ⟨b, off, cap, hS, h2, h1, hc⟩
  ·exact absurd h1 h0
  ·exact .inr ⟨b, off, cap, ⟨hS, cell_lt (hc 0 (List.length_pos_iff.2 h0))⟩, h2, h1, hc⟩
theorem BlocksS.cap {S : Nat → Prop} {w : World} {v : Value} {bs : List (List UInt8)} (h : BlocksS S w v bs) : BlocksS (fun b => S b ∧ b < w.heap.size) w v bs := by
 by_cases h0 : bs = []
 ·subst h0
  rcases h with h | ⟨b, off, cap, hS, rfl, h1, hc⟩
  ·exact .inl h
  ·exact .inl ⟨_, cap, rfl, rfl, fun h => by cases h⟩
 ·rcases h with ⟨_, _, _, h1, _⟩ | ⟨b, off, cap, hS, h2, h1, hc⟩
  ·exact absurd h1 h0
  ·refine .inr ⟨b, off, cap, ⟨hS, ?_⟩, h2, h1, fun i hi => ?_⟩
   ·obtain ⟨u, h3, _⟩ := hc 0 (List.length_pos_iff.2 h0)
    exact cell_lt h3
   ·obtain ⟨u, h3, h4⟩ := hc i hi
    exact ⟨u, h3, h4.cap⟩
theorem LateS.cap {S : Nat → Prop} {w : World} {v : Value} {ws : List Wr} (h : LateS S w v ws) : LateS (fun b => S b ∧ b < w.heap.size) w v ws := by
 by_cases h0 : ws = []
 ·subst h0
  rcases h with h | ⟨b, off, cap, hS, rfl, h1, hc⟩
  ·exact .inl h
  ·exact .inl ⟨_, cap, rfl, rfl, fun h => by cases h⟩
 ·rcases h with ⟨_, _, _, h1, _⟩ | ⟨b, off, cap, hS, h2, h1, hc⟩
  ·exact absurd h1 h0
  ·refine .inr ⟨b, off, cap, ⟨hS, cell_lt (hc 0 (List.length_pos_iff.2 h0)).1⟩, h2, h1, fun i hi => ?_⟩
   obtain ⟨hq, u, h3, h4⟩ := hc i hi
   exact ⟨hq, u, h3, h4.cap⟩
theorem DiskS.cap {S : Nat → Prop} {d : Dk} {v : Value} {w : World} (h : DiskS S d v w) : DiskS (fun b => S b ∧ b < w.heap.size) d v w := by
 obtain ⟨vb, vl, h1, h2, h3⟩ := h; exact ⟨vb, vl, h1, h2.cap, h3.cap⟩

/-- A disk that does not lean on block g. -/
def Off (g : Nat) (d : Dk) (v : Value) (w : World) : Prop := ∃ S : Nat → Prop, ¬ S g ∧ (∀ b, S b → b < w.heap.size) ∧ DiskS S d v w
theorem Off.grow {g : Nat} {d : Dk} {v : Value} {w w' : World} (h : Off g d v w) (hg : Grow w w') : Off g d v w' := by
 obtain ⟨S, h1, h2, h3⟩ := h; exact ⟨S, h1, fun b hb => Nat.lt_of_lt_of_le (h2 b hb) hg.size, h3.grow hg⟩
theorem Off.of {S : Nat → Prop} {g : Nat} {d : Dk} {v : Value} {w : World} (h : DiskS S d v w) (hn : ¬ S g) : Off g d v w := ⟨_, fun h' => hn h'.1, fun _ hb => hb.2, h.cap⟩
theorem Off.new {d : Dk} {v : Value} {w : World} (h : DiskP d v w) : Off w.heap.size d v w := ⟨fun b => b < w.heap.size, fun h' => absurd h' (Nat.lt_irrefl _), fun _ hb => hb, h.s⟩
theorem Off.p {g : Nat} {d : Dk} {v : Value} {w : World} (h : Off g d v w) : DiskP d v w := by
 obtain ⟨S, _, _, h3⟩ := h; exact h3.p

/-- The calls' numbers A and B, that of the variable, and that of the store. -/
def MakeJ (W : World) (A B b s : Nat) (d1 d2 : Dk) (e : Int) (dn : Nat → Bool) (f : Nat → Value) (w : World) : Prop :=
 Grow W w ∧ (dn B = true → ∃ v', f B = .tuple #[v', .int .i64 e]) ∧ (dn s = false → (dn A = true → DiskP d1 (f A) w) ∧ (dn B = true → ∃ v', f B = .tuple #[v', .int .i64 e] ∧ DiskP d2 v' w)) ∧
  (dn b = true → ∃ g, f b = .pointer (some ⟨g, 0, none⟩) ∧ W.heap.size ≤ g ∧ g < w.heap.size ∧
   (dn s = false → w.heap[g]? = some nilD ∧ (dn A = true → Off g d1 (f A) w) ∧ (dn B = true → ∃ v', f B = .tuple #[v', .int .i64 e] ∧ Off g d2 v' w)) ∧
   (dn s = true → ∃ vb vl, w.heap[g]? = some (.cells #[vb, vl] 25 (0, 0)) ∧ Off g d2 (.agg #[vb, vl]) w))
theorem MakeJ.start (W : World) (A B b s : Nat) (d1 d2 : Dk) (e : Int) (f : Nat → Value) : MakeJ W A B b s d1 d2 e (fun _ => false) f W.drew := by
 refine ⟨(Grow.refl _).drew, ?_, fun _ => ⟨?_, ?_⟩, ?_⟩ <;> (intro h; cases h)
theorem MakeJ.grow {W : World} {A B b s : Nat} {d1 d2 : Dk} {e : Int} {dn : Nat → Bool} {f : Nat → Value} {w w' : World} (h : MakeJ W A B b s d1 d2 e dn f w) (hg : Grow w w') : MakeJ W A B b s d1 d2 e dn f w' := by
 refine ⟨h.1.trans hg, h.2.1, fun hs => ⟨fun hA => st_diskp _ _ _ _ hg ((h.2.2.1 hs).1 hA), fun hB => ?_⟩, fun hb => ?_⟩
 ·obtain ⟨v', h1, h2⟩ := (h.2.2.1 hs).2 hB
  exact ⟨v', h1, st_diskp _ _ _ _ hg h2⟩
 ·obtain ⟨g, h1, h2, h3, h4, h5⟩ := h.2.2.2 hb
  refine ⟨g, h1, h2, Nat.lt_of_lt_of_le h3 hg.size, fun hs => ?_, fun hs => ?_⟩
  ·obtain ⟨k1, k2, k3⟩ := h4 hs
   refine ⟨(hg.block _ h3).trans k1, fun hA => (k2 hA).grow hg, fun hB => ?_⟩
   obtain ⟨v', e1, e2⟩ := k3 hB
   exact ⟨v', e1, e2.grow hg⟩
  ·obtain ⟨vb, vl, k1, k2⟩ := h5 hs
   exact ⟨vb, vl, (hg.block _ h3).trans k1, k2.grow hg⟩
/-- The first disk comes. -/
theorem MakeJ.callA {W : World} {A B b s : Nat} {d1 d2 : Dk} {e : Int} {dn : Nat → Bool} {f : Nat → Value} {w w' : World} {v : Value} {S : Nat → Prop} (h : MakeJ W A B b s d1 d2 e dn f w) (n : B ≠ A ∧ b ≠ A ∧ s ≠ A) (hB : dn B = false) (hs : dn s = false) (hS : ∀ b, S b → b < W.heap.size) (hg : Grow w w') (hv : DiskS (Upon S w.heap.size) d1 v w') : MakeJ W A B b s d1 d2 e (upd dn A) (setv f A v) w' := by
 obtain ⟨n1, n2, n3⟩ := n
 have h' := h.grow hg
 refine ⟨h'.1, fun hB' => (by rw [upd_ne n1, hB] at hB'; cases hB'), fun _ => ⟨fun _ => by rw [setv_at]; exact hv.p, fun hB' => ?_⟩, fun hb => ?_⟩
 ·rw [upd_ne n1, hB] at hB'; cases hB'
 ·rw [upd_ne n2] at hb
  obtain ⟨g, h1, h2, h3, h4, h5⟩ := h.2.2.2 hb
  refine ⟨g, by rw [setv_ne n2]; exact h1, h2, Nat.lt_of_lt_of_le h3 hg.size, fun _ => ?_, fun hs' => ?_⟩
  ·refine ⟨(hg.block _ h3).trans (h4 hs).1, fun _ => ?_, fun hB' => ?_⟩
   ·rw [setv_at]
    refine Off.of hv ?_
    rintro (hx | hx)
    ·have := hS _ hx; omega
    ·omega
   ·rw [upd_ne n1, hB] at hB'; cases hB'
  ·rw [upd_ne n3, hs] at hs'; cases hs'
/-- What the second call may lean on. -/
theorem MakeJ.leans {W : World} {A B b s : Nat} {d1 d2 : Dk} {e : Int} {dn : Nat → Bool} {f : Nat → Value} {w : World} (h : MakeJ W A B b s d1 d2 e dn f w) (hA : dn A = true) (hs : dn s = false) : ∃ S : Nat → Prop, (∀ b, S b → b < w.heap.size) ∧ DiskS S d1 (f A) w ∧ (∀ g, dn b = true → f b = .pointer (some ⟨g, 0, none⟩) → ¬ S g) := by
 cases hb : dn b with
 | true =>
  obtain ⟨g, h1, h2, h3, h4, h5⟩ := h.2.2.2 hb
  obtain ⟨S, k1, k2, k3⟩ := (h4 hs).2.1 hA
  refine ⟨S, k2, k3, fun g' _ hg' => ?_⟩
  rw [h1] at hg'
  cases hg'
  exact k1
 | false => exact ⟨_, fun _ hb => hb, ((h.2.2.1 hs).1 hA).s, fun _ hb' => by cases hb'⟩
/-- The second disk comes. -/
theorem MakeJ.callB {W : World} {A B b s : Nat} {d1 d2 : Dk} {e : Int} {dn : Nat → Bool} {f : Nat → Value} {w w' : World} {v : Value} {S : Nat → Prop} (h : MakeJ W A B b s d1 d2 e dn f w) (n : A ≠ B ∧ b ≠ B ∧ s ≠ B) (hs : dn s = false) (hn : ∀ g, dn b = true → f b = .pointer (some ⟨g, 0, none⟩) → ¬ S g) (hg : Grow w w') (hv : DiskS (Upon S w.heap.size) d2 v w') : MakeJ W A B b s d1 d2 e (upd dn B) (setv f B (.tuple #[v, .int .i64 e])) w' := by
 obtain ⟨n1, n2, n3⟩ := n
 have h' := h.grow hg
 refine ⟨h'.1, fun _ => ⟨v, setv_at⟩, fun _ => ⟨fun hA => ?_, fun _ => ⟨v, setv_at, hv.p⟩⟩, fun hb => ?_⟩
 ·rw [upd_ne n1] at hA
  rw [setv_ne n1]
  exact (h'.2.2.1 hs).1 hA
 ·rw [upd_ne n2] at hb
  obtain ⟨g, h1, h2, h3, h4, h5⟩ := h.2.2.2 hb
  refine ⟨g, by rw [setv_ne n2]; exact h1, h2, Nat.lt_of_lt_of_le h3 hg.size, fun _ => ?_, fun hs' => ?_⟩
  ·refine ⟨(hg.block _ h3).trans (h4 hs).1, fun hA => ?_, fun _ => ⟨v, setv_at, Off.of hv ?_⟩⟩
   ·rw [upd_ne n1] at hA
    rw [setv_ne n1]
    exact ((h4 hs).2.1 hA).grow hg
   ·rintro (hx | hx)
    ·exact hn g hb h1 hx
    ·omega
  ·rw [upd_ne n3, hs] at hs'; cases hs'
/-- The variable is made. -/
theorem MakeJ.alloc {W : World} {A B b s : Nat} {d1 d2 : Dk} {e : Int} {dn : Nat → Bool} {f : Nat → Value} {w : World} (h : MakeJ W A B b s d1 d2 e dn f w) (n : A ≠ b ∧ B ≠ b ∧ s ≠ b) (hs : dn s = false) : MakeJ W A B b s d1 d2 e (upd dn b) (setv f b (.pointer (some ⟨w.heap.size, 0, none⟩))) (w.alloc nilD) := by
 obtain ⟨n1, n2, n3⟩ := n
 have hg := grow_alloc w nilD
 have h' := h.grow hg
 refine ⟨h'.1, by rw [upd_ne n2, setv_ne n2]; exact h.2.1, fun _ => ?_, fun _ => ⟨w.heap.size, setv_at, h.1.size, by simp, fun _ => ⟨heap_new _ _ _, fun hA => ?_, fun hB => ?_⟩, fun hs' => ?_⟩⟩
 ·rw [upd_ne n1, upd_ne n2, setv_ne n1, setv_ne n2]
  exact h'.2.2.1 hs
 ·rw [upd_ne n1] at hA
  rw [setv_ne n1]
  exact (Off.new ((h.2.2.1 hs).1 hA)).grow hg
 ·rw [upd_ne n2] at hB
  rw [setv_ne n2]
  obtain ⟨v', k1, k2⟩ := (h.2.2.1 hs).2 hB
  exact ⟨v', k1, (Off.new k2).grow hg⟩
 ·rw [upd_ne n3, hs] at hs'; cases hs'
/-- It is written. -/
theorem MakeJ.store {W : World} {A B b s : Nat} {d1 d2 : Dk} {e : Int} {dn : Nat → Bool} {f : Nat → Value} {w : World} (h : MakeJ W A B b s d1 d2 e dn f w) (n : A ≠ s ∧ B ≠ s ∧ b ≠ s) (hB : dn B = true) (hb : dn b = true) (hs : dn s = false) :
  ∃ g v', f b = .pointer (some ⟨g, 0, none⟩) ∧ w.heap[g]? = some nilD ∧ f B = .tuple #[v', .int .i64 e] ∧ DiskP d2 v' w ∧ ∀ vb vl, v' = .agg #[vb, vl] → MakeJ W A B b s d1 d2 e (upd dn s) (setv f s undef) ((w.setCell ⟨g, 0, none⟩ vb).setCell ⟨g, 1, none⟩ vl) := by
 obtain ⟨n1, n2, n3⟩ := n
 obtain ⟨g, h1, h2, h3, h4, h5⟩ := h.2.2.2 hb
 obtain ⟨k1, k2, k3⟩ := h4 hs
 obtain ⟨v', e1, e2⟩ := k3 hB
 refine ⟨g, v', h1, k1, e1, e2.p, fun vb vl hv => ?_⟩
 obtain ⟨hp1, hp2⟩ := box_put2 (show w.heap[g]? = some (.cells #[.slice none 0 0, .slice none 0 0] 25 (0, 0)) from k1) vb vl
 refine ⟨hp2.grow h.1 h2, by rw [upd_ne n2, setv_ne n2]; exact h.2.1, fun hs' => ?_, fun _ => ⟨g, by rw [setv_ne n3]; exact h1, h2, Nat.lt_of_lt_of_le h3 hp2.size, fun hs' => ?_, fun _ => ⟨vb, vl, hp1, ?_⟩⟩⟩
 ·rw [upd_at] at hs'; cases hs'
 ·rw [upd_at] at hs'; cases hs'
 ·obtain ⟨S, m1, m2, m3⟩ := e2
  rw [hv] at m3
  exact ⟨S, m1, fun b hb => Nat.lt_of_lt_of_le (m2 b hb) hp2.size, m3.but hp2 m1⟩
theorem MakeJ.done {W : World} {A B b s : Nat} {d1 d2 : Dk} {e : Int} {dn : Nat → Bool} {f : Nat → Value} {w : World} (h : MakeJ W A B b s d1 d2 e dn f w) (hb : dn b = true) (hs : dn s = true) : Grow W w ∧ ∃ g vb vl, f b = .pointer (some ⟨g, 0, none⟩) ∧ W.heap.size ≤ g ∧ w.heap[g]? = some (.cells #[vb, vl] 25 (0, 0)) ∧ DiskP d2 (.agg #[vb, vl]) w := by
 obtain ⟨g, h1, h2, h3, h4, h5⟩ := h.2.2.2 hb
 obtain ⟨vb, vl, k1, k2⟩ := h5 hs
 exact ⟨h.1, g, vb, vl, h1, h2, k1, k2.p⟩
/-- And what it holds does not lean on it. -/
theorem MakeJ.doneOff {W : World} {A B b s : Nat} {d1 d2 : Dk} {e : Int} {dn : Nat → Bool} {f : Nat → Value} {w : World} (h : MakeJ W A B b s d1 d2 e dn f w) (hb : dn b = true) (hs : dn s = true) : Grow W w ∧ ∃ g vb vl, f b = .pointer (some ⟨g, 0, none⟩) ∧ W.heap.size ≤ g ∧ w.heap[g]? = some (.cells #[vb, vl] 25 (0, 0)) ∧ Off g d2 (.agg #[vb, vl]) w := by
 obtain ⟨g, h1, h2, h3, h4, h5⟩ := h.2.2.2 hb
 obtain ⟨vb, vl, k1, k2⟩ := h5 hs
 exact ⟨h.1, g, vb, vl, h1, h2, k1, k2⟩
end Go.Proofs.Ytgaecpdokgklpab
