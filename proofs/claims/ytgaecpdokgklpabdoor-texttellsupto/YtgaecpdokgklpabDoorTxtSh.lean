/-
  What strconv.Itoa and strconv.Atoi answer, as the walks want it, out of the kit's contracts that are laid at this program (text Shelf).
  Condition: what is told of the package variables that they read.
-/
import Derived.Test.YtgaecpdokgklpabDoorRParse
import Derived.Test.YtgaecpdokgklpabDoorTGen
import Derived.Test.YtgaecpdokgklpabDoorShelf
namespace Go.Proofs.YtgaecpdokgklpabDoor
set_option maxRecDepth 100000
open Go.RowKit
open Go.Proofs.YtgaecpdokgklpabDoor.Plain Go.Proofs.YtgaecpdokgklpabDoor.Reg

/-- An error, or none. -/
def ErrV (v : Value) : Prop := v = .nilIface ∨ ∃ te pe, v = .iface te pe
/-- What is told of the package variables. -/
def VarsT (w : World) : Prop := Lib.TabIs Tryd.prog w "internal/strconv.uint64pow10" .u64 Lib.pow10Tab ∧ (∃ ev, w.cell? ⟨0, 0, none⟩ = some ev ∧ ErrV ev) ∧ ∃ ev, w.cell? ⟨1, 0, none⟩ = some ev ∧ ErrV ev
theorem var_grow {w w' : World} {nm : String} {cs : Array Value} (h : w.var? Tryd.prog nm = some cs) (hg : Grow w w') : w'.var? Tryd.prog nm = some cs := by
 unfold World.var? at h ⊢
 cases hn : Tryd.prog.globalNamed nm with
 | none => rw [hn] at h; cases h
 | some g =>
  rw [hn] at h
  simp only [Option.bind_some] at h ⊢
  cases hb : w.heap[g]? with
  | none => rw [hb] at h; cases h
  | some o => rw [(hg.block g (heap_lt hb)).trans hb, ← hb]; exact h
theorem varsT_grow (w w' : World) (h : VarsT w) (hg : Grow w w') : VarsT w' := by
 obtain ⟨h1, ⟨e1, h2, h3⟩, e2, h4, h5⟩ := h
 exact ⟨var_grow h1 hg, ⟨e1, (Below.cell hg (cell_lt h2)).trans h2, h3⟩, e2, (Below.cell hg (cell_lt h4)).trans h4, h5⟩
theorem grow_sort (w : World) (k : Nat) (os : Array Obj) : Grow w («Sort».grow (w.drewN k) os) := by
 refine ⟨rfl, rfl, rfl, ?_, fun b hb => ?_⟩
 ·show w.heap.size ≤ (w.heap ++ os).size
  simp
 ·show (w.heap ++ os)[b]? = w.heap[b]?
  rw [Array.getElem?_append_left hb]
theorem grow_freeze {w W : World} (h : Grow w W) {a : Addr} (ha : w.heap.size ≤ a.block) (n : Nat) : Grow w (W.freeze a n) := by
 unfold World.freeze
 split
 ·exact h
 ·refine ⟨h.os, h.tape, h.output, by simpa using h.size, fun b hb => ?_⟩
  show (W.heap.modify a.block _)[b]? = _
  rw [Array.getElem?_modify, if_neg (by omega)]
  exact h.block b hb
theorem grow_bytes (w : World) (t : ByteArray) : Grow w (Lib.bytesWorld w 5 t) := by
 unfold Lib.bytesWorld
 exact grow_freeze ((Grow.refl w).drew.trans (grow_alloc w.drew _)) (Nat.le_refl _) 1
theorem itoaC : ItoaC VarsT := fun n w hw h0 h1 => (Tryd.strconv_Itoa n h0 h1 w hw.1).mono fun _ w' ⟨he, k, os, hw'⟩ => ⟨he, by rw [hw']; exact grow_sort w k os⟩

theorem atoi_bd {s : List UInt8} {v : Int} (h : Lib.atoiAll s = .ok v) : -9223372036854775808 ≤ v ∧ v ≤ 9223372036854775807 := by
 unfold Lib.atoiAll at h
 split at h
 ·cases h
 ·simp only at h
  split at h
  ·cases h
  ·cases h
  ·split at h
   ·cases h
   ·split at h
    ·cases h
    ·rename_i h1 h2
     cases h
     split <;> simp_all <;> omega
theorem atoiC : AtoiC VarsT := by
 intro s w hw hs
 obtain ⟨-, ⟨e1, h2, h3⟩, e2, h4, h5⟩ := hw
 have hsz : (ByteArray.mk s.toArray).size = s.length := by simp [ByteArray.size]
 have hdl : (ByteArray.mk s.toArray).data.toList = s := by simp
 cases h : Lib.atoiAll s with
 | ok v =>
  refine (Tryd.strconv_Atoi_ok ⟨s.toArray⟩ (by rw [hsz]; omega) v (by rw [hdl]; exact h) w).mono ?_
  rintro r w' ⟨rfl, hw'⟩
  refine ⟨⟨v, .nilIface, rfl, .inl ⟨rfl, rfl, atoi_bd h⟩⟩, ?_⟩
  rcases hw' with rfl | ⟨t, rfl⟩
  ·exact Grow.refl _
  ·exact grow_bytes w t
 | «syntax» =>
  refine (Tryd.strconv_Atoi_syntax ⟨s.toArray⟩ (by rw [hsz]; omega) (by rw [hdl]; exact h) e1 w h2 h3).mono ?_
  rintro r w' ⟨N, rfl, -, -, hg⟩
  exact ⟨⟨_, _, rfl, .inr ⟨(fun v h => by cases h), _, _, rfl⟩⟩, hg⟩
 | range =>
  refine (Tryd.strconv_Atoi_range ⟨s.toArray⟩ (by rw [hsz]; omega) (by rw [hdl]; exact h) e2 w h4 h5).mono ?_
  rintro r w' ⟨N, rfl, -, -, hg⟩
  exact ⟨⟨_, _, rfl, .inr ⟨(fun v h => by cases h), _, _, rfl⟩⟩, hg⟩
theorem indexC : IndexC := fun c w => (Tryd.strings_IndexByte ⟨#[48, 49, 50, 51, 52, 53, 54, 55, 56, 57, 97, 98, 99, 100, 101, 102]⟩ (c.toNat : Int) w).mono fun r w' ⟨he, hw'⟩ => by
 have h1 : ((c.toNat : Int).toNat.toUInt8) = c := by simp
 rw [h1] at he
 exact ⟨by rw [he, ← hexI_index c]; rfl, by rw [hw']; exact Grow.refl _⟩
theorem indexOneC : IndexOneC := fun s w => (Tryd.strings_Index_one ⟨s.toArray⟩ 32 w).mono fun _ _ ⟨he, hw'⟩ => ⟨by rw [he], hw'⟩
theorem splitC : SplitC VarsT := splitC_of VarsT indexOneC
end Go.Proofs.YtgaecpdokgklpabDoor
