/-
  The package variables of this seat: a world that holds them as they are listed, and what the list gives a walk.
  No condition.
-/
import Derived.Test.YtgaecpdokgklpabDoorRows
import Derived.Test.YtgaecpdokgklpabDoorTxtSh
import Derived.Deep.DeepHandedRow
import Derived.Deep.DeepWitnessRowRef
import Derived.Lib.LaidTab
import Derived.Stop.LaidErr
namespace Go.Proofs.YtgaecpdokgklpabDoor
set_option maxRecDepth 100000
open Go.RowKit Go.ChangeShapes Go.WideShapes Go.ChangeAt
open Go.Proofs.YtgaecpdokgklpabDoor.Plain Go.Proofs.YtgaecpdokgklpabDoor.Reg

/-- A table's cells. -/
def cellsD : DataW Unit → Array Value
 | .agg l => (l.flatMap fun
  | .lit (.int k z) => [Value.int k z]
  | .agg m => m.flatMap fun
   | .lit (.int k z) => [Value.int k z]
   | _ => []
  | _ => []).toArray
 | _ => #[]
def putD (h : Array Obj) (g : Nat) (cs : Array Value) : Array Obj := h.modify g fun
 | .cells _ t frozen => .cells cs t frozen
 | o => o
/-- The world that holds them (told, not made: nothing is run). -/
def LaidW (os : Os) (W : World) : Prop := W =
 (let N := (World.settled Tryd.prog os).heap.size; let w0 := World.holding Tryd.prog os ⟨#[.cells #[.string ⟨#[118, 97, 108, 117, 101, 32, 111, 117, 116, 32, 111, 102, 32, 114, 97, 110, 103, 101]⟩] 88, .cells #[.string ⟨#[105, 110, 118, 97, 108, 105, 100, 32, 115, 121, 110, 116, 97, 120]⟩] 88], #[], []⟩; let h0 := putD (putD w0.heap 1 #[.iface 86 (.pointer (some ⟨N, 0, none⟩))]) 0 #[.iface 86 (.pointer (some ⟨N + 1, 0, none⟩))]; let h1 := putD (putD h0 6 (cellsD Rows.laid_math_bits_deBruijn32tab)) 7 (cellsD Rows.laid_math_bits_deBruijn64tab); let h2 := putD (putD h1 3 (cellsD Rows.laid_internal_strconv_uint64pow10)) 5 (cellsD Rows.laid_unicode_utf8_acceptRanges); { w0 with heap := putD h2 4 (cellsD Rows.laid_unicode_utf8_first) })
theorem laid_met {os : Os} {W : World} (h : LaidW os W) (args : Array Value) : laidMet Tryd.prog Rows.textTellsRow.laid (W.forCall (fun _ _ => 0) ⟨#[], args, []⟩).memory := by
 unfold LaidW at h
 subst h
 exact laidMet_of_run' 8 (by kernel_rfl) (by kernel_rfl)
theorem starE : "*" ++ "errors.errorString" = "*errors.errorString" := by decide
theorem rowE (u : TypeId) (h : Tryd.prog.typeName? 3 u = some "*errors.errorString") : u = 86 :=
 typeName_ptr_named (nm := "errors.errorString") (by rw [starE]; kernel_rfl) (by kernel_rfl) (by decide) u (by rw [starE]; exact h)
theorem gPow : Tryd.prog.globalNamed "internal/strconv.uint64pow10" = some 3 := by kernel_rfl
theorem gER : Tryd.prog.globalNamed "strconv.ErrRange" = some 1 := by kernel_rfl
theorem gES : Tryd.prog.globalNamed "strconv.ErrSyntax" = some 0 := by kernel_rfl
theorem varsT_of {W : World} (hL : laidMetH Tryd.prog Rows.textTellsRow.laid W) : VarsT W := by
 have hL' : laidMet Tryd.prog Rows.textTellsRow.laid W := hL
 obtain ⟨a0, s0, hv0, -, -, -⟩ := laid_sentinel hL'.tail.tail.tail.tail gER (by kernel_rfl) Tryd.underlying46 rowE Tryd.underlying86 Tryd.underlying88 rfl rfl Tryd.underlying9 (by kernel_rfl) (by kernel_rfl)
 obtain ⟨a1, s1, hv1, -, -, -⟩ := laid_sentinel hL'.tail.tail.tail.tail.tail gES (by kernel_rfl) Tryd.underlying46 rowE Tryd.underlying86 Tryd.underlying88 rfl rfl Tryd.underlying9 (by kernel_rfl) (by kernel_rfl)
 refine ⟨Lib.tabIs_of_head gPow (by kernel_rfl) Tryd.underlying90 Tryd.underlying71 (by kernel_rfl) (by kernel_rfl) hL'.tail.tail, ⟨_, by have h0 := World.var?_cell gES hv1 0; simpa using h0, .inr ⟨_, _, rfl⟩⟩, _, by have h0 := World.var?_cell gER hv0 0; simpa using h0, .inr ⟨_, _, rfl⟩⟩
end Go.Proofs.YtgaecpdokgklpabDoor
