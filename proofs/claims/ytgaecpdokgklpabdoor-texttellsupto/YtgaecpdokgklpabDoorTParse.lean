/-
  What the program's Parse reads of a text.
  Condition: strconv's and strings' functions answer as they should (premises).
-/
import Derived.Test.YtgaecpdokgklpabDoorTWords
import Derived.Test.YtgaecpdokgklpabDoorRPut
namespace Go.Proofs.YtgaecpdokgklpabDoor
set_option maxRecDepth 100000
open Go.RowKit
open Go.Proofs.YtgaecpdokgklpabDoor.Plain Go.Proofs.YtgaecpdokgklpabDoor.Reg

theorem tparse_read {s w0 : List UInt8} {rest : List (List UInt8)} (h : wordsB s = w0 :: rest) : parseD s = match shapeOf w0 with
  | none => (noDd, 1)
  | some (K, n) => if (rest.length : Int) + 1 = n then (match readW K rest with | none => (noDd, 2) | some d => if wrongD d = 0 then (d, 0) else (noDd, wrongD d)) else (noDd, 2) := by
 unfold parseD saidD shapeOf
 rw [h]
 simp only [List.head?_cons, Option.some.injEq, List.tail_cons]
 by_cases h1 : w0 = wPut
 ·subst h1
  simp only [if_pos]
  match rest with
  | [] => simp
  | [a] => simp
  | [a, b] =>
   simp only [readW, if_pos]
   cases numW a with
   | none => simp
   | some k =>
    cases dataR b with
    | none => simp
    | some l => simp
  | a :: b :: c :: r =>
   have : ¬ (((a :: b :: c :: r).length : Int) + 1 = 3) := by simp; omega
   rw [if_neg this]
 ·by_cases h2 : w0 = wDelete
  ·subst h2
   rw [if_neg h1, if_pos rfl, if_neg h1, if_pos rfl]
   match rest with
   | [] => simp
   | [a] =>
    simp only [readW, if_pos]
    cases numW a with
    | none => simp
    | some k => simp
   | a :: b :: r =>
    have : ¬ (((a :: b :: r).length : Int) + 1 = 2) := by simp; omega
    simp only [if_neg this]
  ·by_cases h3 : w0 = wPurge
   ·subst h3
    rw [if_neg h1, if_neg h2, if_pos rfl, if_neg h1, if_neg h2, if_pos rfl]
    match rest with
    | [] => simp
    | [a] => simp
    | [a, b] =>
     simp only [readW]
     cases numW a with
     | none => simp
     | some k =>
      cases numW b with
      | none => simp
      | some l => simp
    | a :: b :: c :: r =>
     have : ¬ (((a :: b :: c :: r).length : Int) + 1 = 3) := by simp; omega
     simp only [if_neg this]
   ·rw [if_neg h1, if_neg h2, if_neg h3, if_neg h1, if_neg h2, if_neg h3]
theorem twords_len : ∀ (s : List UInt8), ∀ x ∈ wordsB s, x.length ≤ s.length
 | [], x, h => by simp [wordsB] at h; subst h; simp
 | c :: s, x, h => by
  have ih := twords_len s
  unfold wordsB at h
  split at h
  ·rcases List.mem_cons.1 h with rfl | h
   ·simp
   ·have := ih x h; simp; omega
  ·split at h
   ·rename_i w ws hw
    rcases List.mem_cons.1 h with rfl | h
    ·have := ih w (by rw [hw]; simp); simp; omega
    ·have := ih x (by rw [hw]; simp [h]); simp; omega
   ·rename_i hw
    exact absurd hw (words_ne s)

/-! ### The word's shape, in a variable -/

def nilSh : Obj := .cells #[.int .i64 0, .int .i64 0] 36 (0, 0)
def ShJ (W : World) (K N : Int) (dn : Nat → Bool) (f : Nat → Value) (w : World) : Prop :=
 Grow W w ∧ (dn 0 = true → dn 9 = false → ∃ b, f 0 = .map (some b) ∧ w.heap[b]? = some shapeMap) ∧
  (dn 8 = true → ∃ q, f 8 = .pointer (some ⟨q, 0, none⟩) ∧ W.heap.size ≤ q ∧ (dn 9 = false → w.heap[q]? = some nilSh) ∧ (dn 9 = true → w.heap[q]? = some (.cells #[.int .i64 K, .int .i64 N] 36 (0, 0))))
theorem ShJ.start (W : World) (K N : Int) (f : Nat → Value) : ShJ W K N (fun _ => false) f W.drew := by
 refine ⟨(Grow.refl _).drew, ?_, ?_⟩ <;> (intro h; cases h)
theorem ShJ.on {W w w' : World} {K N : Int} {dn : Nat → Bool} {f : Nat → Value} (h : ShJ W K N dn f w) (hg : Grow w w') : ShJ W K N dn f w' := by
 refine ⟨h.1.trans hg, fun h1 h2 => ?_, fun h1 => ?_⟩
 ·obtain ⟨b, k1, k2⟩ := h.2.1 h1 h2
  exact ⟨b, k1, (hg.block _ (by rcases Nat.lt_or_ge b w.heap.size with h | h; exact h; simp [Array.getElem?_eq_none h] at k2)).trans k2⟩
 ·obtain ⟨q, k1, k2, k3, k4⟩ := h.2.2 h1
  refine ⟨q, k1, k2, fun h3 => ?_, fun h3 => ?_⟩
  ·exact (hg.block _ (heap_lt (k3 h3))).trans (k3 h3)
  ·exact (hg.block _ (heap_lt (k4 h3))).trans (k4 h3)
theorem ShJ.call {W w w' : World} {K N : Int} {dn : Nat → Bool} {f : Nat → Value} (h : ShJ W K N dn f w) (hg : Grow w w') {b : Nat} (hb : w'.heap[b]? = some shapeMap) : ShJ W K N (upd dn 0) (setv f 0 (.map (some b))) w' := by
 have h' := h.on hg
 refine ⟨h'.1, fun _ _ => ⟨b, tsetv_at, hb⟩, fun h1 => ?_⟩
 rw [tupd_ne (by decide)] at h1
 obtain ⟨q, k1, k2, k3, k4⟩ := h'.2.2 h1
 exact ⟨q, by rw [tsetv_ne (by decide)]; exact k1, k2, by rw [tupd_ne (by decide)]; exact k3, by rw [tupd_ne (by decide)]; exact k4⟩
theorem ShJ.alloc {W w : World} {K N : Int} {dn : Nat → Bool} {f : Nat → Value} (h : ShJ W K N dn f w) (h9 : dn 9 = false) : ShJ W K N (upd dn 8) (setv f 8 (.pointer (some ⟨w.heap.size, 0, none⟩))) (w.alloc nilSh) := by
 have h' := h.on (grow_alloc w nilSh)
 refine ⟨h'.1, fun h1 h2 => ?_, fun _ => ⟨w.heap.size, tsetv_at, h.1.size, fun _ => heap_new _ _ _, fun h3 => ?_⟩⟩
 ·rw [tupd_ne (by decide)] at h1 h2
  obtain ⟨b, k1, k2⟩ := h'.2.1 h1 h2
  exact ⟨b, by rw [tsetv_ne (by decide)]; exact k1, k2⟩
 ·rw [tupd_ne (by decide), h9] at h3; cases h3
theorem ShJ.store {W w : World} {K N : Int} {dn : Nat → Bool} {f : Nat → Value} (h : ShJ W K N dn f w) (h8 : dn 8 = true) (h9 : dn 9 = false) :
  ∃ q, f 8 = .pointer (some ⟨q, 0, none⟩) ∧ w.heap[q]? = some nilSh ∧ ShJ W K N (upd dn 9) (setv f 9 undef) ((w.setCell ⟨q, 0, none⟩ (.int .i64 K)).setCell ⟨q, 1, none⟩ (.int .i64 N)) := by
 obtain ⟨q, k1, k2, k3, k4⟩ := h.2.2 h8
 refine ⟨q, k1, k3 h9, ?_⟩
 obtain ⟨hp1, hp2⟩ := box_put2 (show w.heap[q]? = some (.cells #[.int .i64 0, .int .i64 0] 36 (0, 0)) from k3 h9) (.int .i64 K) (.int .i64 N)
 refine ⟨hp2.grow h.1 k2, fun _ h2 => ?_, fun _ => ⟨q, by rw [tsetv_ne (by decide)]; exact k1, k2, fun h3 => ?_, fun _ => hp1⟩⟩
 ·rw [tupd_at] at h2; cases h2
 ·rw [tupd_at] at h3; cases h3

/-! ### What the words say, in a variable -/

def nilDd : Obj := .cells #[.int .i64 0, .int .i64 0, .int .i64 0, .slice none 0 0] 24 (0, 0)
/-- What is kept of a deed that was read. -/
def ReadR (o : Option Dd) (x0 x1 x2 : Int) (a : Option Addr) (l c : Nat) (w : World) : Prop := match o with
 | some d => x0 = d.kind ∧ x1 = d.key ∧ x2 = d.num ∧ l = d.data.length ∧ Bytes w (.slice a l c) d.data
 | none => True
theorem ReadR.grow {o : Option Dd} {x0 x1 x2 : Int} {a : Option Addr} {l c : Nat} {w w' : World} (h : ReadR o x0 x1 x2 a l c w) (hg : Grow w w') : ReadR o x0 x1 x2 a l c w' := by
 cases o with
 | none => trivial
 | some d => obtain ⟨h1, h2, h3, h4, h5⟩ := h; exact ⟨h1, h2, h3, h4, bytes_grow h5 hg⟩
theorem ReadR.but {o : Option Dd} {x0 x1 x2 : Int} {a : Option Addr} {l c : Nat} {w w' : World} {q : Nat} (h : ReadR o x0 x1 x2 a l c w) (hq : w.heap[q]? = some nilDd) (hg : GrowBut q w w') : ReadR o x0 x1 x2 a l c w' := by
 cases o with
 | none => trivial
 | some d => obtain ⟨h1, h2, h3, h4, h5⟩ := h; exact ⟨h1, h2, h3, h4, tbytes_deed h5 hq hg⟩
def PwJ (W : World) (o : Option Dd) (dn : Nat → Bool) (f : Nat → Value) (w : World) : Prop :=
 Grow W w ∧ (dn 4 = true → ∃ x0 x1 x2 a l c, f 4 = .tuple #[.agg #[.int .i64 x0, .int .i64 x1, .int .i64 x2, .slice a l c], .bool o.isSome] ∧ ReadR o x0 x1 x2 a l c w ∧ (dn 9 = true → ∃ q, f 8 = .pointer (some ⟨q, 0, none⟩) ∧ W.heap.size ≤ q ∧ w.heap[q]? = some (.cells #[.int .i64 x0, .int .i64 x1, .int .i64 x2, .slice a l c] 24 (0, 0)))) ∧
  (dn 8 = true → dn 9 = false → ∃ q, f 8 = .pointer (some ⟨q, 0, none⟩) ∧ W.heap.size ≤ q ∧ w.heap[q]? = some nilDd)
theorem PwJ.start (W : World) (o : Option Dd) (f : Nat → Value) : PwJ W o (fun _ => false) f W.drew := by
 refine ⟨(Grow.refl _).drew, ?_, ?_⟩ <;> (intro h; cases h)
theorem PwJ.on {W w w' : World} {o : Option Dd} {dn : Nat → Bool} {f : Nat → Value} (h : PwJ W o dn f w) (hg : Grow w w') : PwJ W o dn f w' := by
 refine ⟨h.1.trans hg, fun h1 => ?_, fun h1 h2 => ?_⟩
 ·obtain ⟨x0, x1, x2, a, l, c, k1, k2, k3⟩ := h.2.1 h1
  refine ⟨x0, x1, x2, a, l, c, k1, k2.grow hg, fun h3 => ?_⟩
  obtain ⟨q, j1, j2, j3⟩ := k3 h3
  exact ⟨q, j1, j2, (hg.block _ (heap_lt j3)).trans j3⟩
 ·obtain ⟨q, j1, j2, j3⟩ := h.2.2 h1 h2
  exact ⟨q, j1, j2, (hg.block _ (heap_lt j3)).trans j3⟩
theorem PwJ.call {W w w' : World} {o : Option Dd} {dn : Nat → Bool} {f : Nat → Value} {v : Value} (h : PwJ W o dn f w) (hg : Grow w w') (h9 : dn 9 = false) (hv : WordQ o v w') : PwJ W o (upd dn 4) (setv f 4 v) w' := by
 have h' := h.on hg
 refine ⟨h'.1, fun _ => ?_, fun h1 h2 => ?_⟩
 ·cases o with
  | none =>
   obtain ⟨x0, x1, x2, rfl⟩ := hv
   exact ⟨x0, x1, x2, none, 0, 0, tsetv_at, trivial, fun h3 => by rw [tupd_ne (by decide), h9] at h3; cases h3⟩
  | some d =>
   obtain ⟨a, c, rfl, hb⟩ := hv
   exact ⟨_, _, _, _, _, _, tsetv_at, ⟨rfl, rfl, rfl, rfl, hb⟩, fun h3 => by rw [tupd_ne (by decide), h9] at h3; cases h3⟩
 ·rw [tupd_ne (by decide)] at h1
  obtain ⟨q, j1, j2, j3⟩ := h'.2.2 h1 h9
  exact ⟨q, by rw [tsetv_ne (by decide)]; exact j1, j2, j3⟩
theorem PwJ.alloc {W w : World} {o : Option Dd} {dn : Nat → Bool} {f : Nat → Value} (h : PwJ W o dn f w) (h9 : dn 9 = false) : PwJ W o (upd dn 8) (setv f 8 (.pointer (some ⟨w.heap.size, 0, none⟩))) (w.alloc nilDd) := by
 have h' := h.on (grow_alloc w nilDd)
 refine ⟨h'.1, fun h1 => ?_, fun _ _ => ⟨w.heap.size, tsetv_at, h.1.size, heap_new _ _ _⟩⟩
 rw [tupd_ne (by decide)] at h1
 obtain ⟨x0, x1, x2, a, l, c, k1, k2, k3⟩ := h'.2.1 h1
 exact ⟨x0, x1, x2, a, l, c, by rw [tsetv_ne (by decide)]; exact k1, k2, fun h3 => by rw [tupd_ne (by decide), h9] at h3; cases h3⟩
theorem PwJ.store {W w : World} {o : Option Dd} {dn : Nat → Bool} {f : Nat → Value} (h : PwJ W o dn f w) (h4 : dn 4 = true) (h8 : dn 8 = true) (h9 : dn 9 = false) :
  ∃ q x0 x1 x2 a l c, f 8 = .pointer (some ⟨q, 0, none⟩) ∧ f 4 = .tuple #[.agg #[.int .i64 x0, .int .i64 x1, .int .i64 x2, .slice a l c], .bool o.isSome] ∧ w.heap[q]? = some nilDd ∧ PwJ W o (upd dn 9) (setv f 9 undef) ((((w.setCell ⟨q, 0, none⟩ (.int .i64 x0)).setCell ⟨q, 1, none⟩ (.int .i64 x1)).setCell ⟨q, 2, none⟩ (.int .i64 x2)).setCell ⟨q, 3, none⟩ (.slice a l c)) := by
 obtain ⟨x0, x1, x2, a, l, c, k1, k2, k3⟩ := h.2.1 h4
 obtain ⟨q, j1, j2, j3⟩ := h.2.2 h8 h9
 refine ⟨q, x0, x1, x2, a, l, c, j1, k1, j3, ?_⟩
 obtain ⟨hp1, hp2⟩ := box_put (show w.heap[q]? = some (.cells #[.int .i64 0, .int .i64 0, .int .i64 0, .slice none 0 0] 24 (0, 0)) from j3) (.int .i64 x0) (.int .i64 x1) (.int .i64 x2) (.slice a l c)
 refine ⟨hp2.grow h.1 j2, fun _ => ⟨x0, x1, x2, a, l, c, by rw [tsetv_ne (by decide)]; exact k1, k2.but j3 hp2, fun _ => ⟨q, by rw [tsetv_ne (by decide)]; exact j1, j2, hp1⟩⟩, fun _ h2 => ?_⟩
 rw [tupd_at] at h2; cases h2
end Go.Proofs.YtgaecpdokgklpabDoor
