/-
  The program's Print and Parse keep what is asked of them, where the package variables are as they are laid.
-/
import Derived.Test.YtgaecpdokgklpabDoorTParse2
import Derived.Test.YtgaecpdokgklpabDoorTxtSh
namespace Go.Proofs.YtgaecpdokgklpabDoor
set_option maxRecDepth 100000
open Go.RowKit
open Go.Proofs.YtgaecpdokgklpabDoor.Plain Go.Proofs.YtgaecpdokgklpabDoor.Reg

theorem tPT : TPrintC VarsT := tprintC VarsT varsT_grow itoaC
theorem tRT : TParseC VarsT := tparseC VarsT varsT_grow itoaC atoiC indexC splitC
theorem print_len (d : Dd) (h : wrongD d = 0) : (printD d).length ≤ 140737488355328 := by
 obtain ⟨h1, h2, h3, h4, h5, h6, h7, h8⟩ := right_nums h
 have hs := right_short h
 have a1 := Lib.itoa_length_le d.key (by omega) (by omega)
 have a2 := Lib.itoa_length_le d.num (by omega) (by omega)
 have a3 : (dataW d.data).length ≤ 16 := by
  unfold dataW
  split
  ·simp
  ·rw [hexB_len]; omega
 unfold printD
 split
 ·simp [wPurge]; omega
 ·split
  ·simp [wDelete]; omega
  ·simp [wPut]; omega
end Go.Proofs.YtgaecpdokgklpabDoor
