/-
  sclaw7.alive, TextTurns and TextUnlike answer true for all texts and deeds.
  Condition: the program's text keeps its contracts (premises).
-/
import Derived.Test.YtpfbddhlkckfhabDoorTxtC
namespace Go.Proofs.YtpfbddhlkckfhabDoor
set_option maxRecDepth 100000
open Go.RowKit
open Go.Proofs.YtpfbddhlkckfhabDoor.Plain Go.Proofs.YtpfbddhlkckfhabDoor.Reg

def dP : Dd := ⟨1, 7, 0, [97, 98]⟩
def dQ : Dd := ⟨3, 7, 3, []⟩
theorem print_P : printD dP = [112, 117, 116, 32, 55, 32, 54, 49, 54, 50] := by
  simp [printD, dP, wPut, Lib.itoa, Lib.decDigits, dataW, hexB, hexd]
theorem print_Q : printD dQ = [112, 117, 114, 103, 101, 32, 55, 32, 51] := by
  simp [printD, dQ, wPurge, Lib.itoa, Lib.decDigits]
theorem right_P : wrongD dP = 0 := by decide
theorem right_Q : wrongD dQ = 0 := by decide
theorem parse_P : parseD [112, 117, 116, 32, 55, 32, 54, 49, 54, 50] = (dP, 0) := by rw [← print_P]; exact parse_print right_P
theorem parse_Q : parseD [112, 117, 114, 103, 101, 32, 55, 32, 51] = (dQ, 0) := by rw [← print_Q]; exact parse_print right_Q

set_option maxHeartbeats 4000000 in
theorem talive_of (V : World → Prop) (hV : ∀ w w', V w → Grow w w' → V w') (TP : TPrintC V) (TR : TParseC V) (w : World) (hw : V w) :
    Calls Tryd.prog 12 #[] w fun r w' => r = .returned (.bool true) ∧ Grow w w' := by
  go_enter Tryd.func12, Tryd.ntmps12
  go_wp2_with fail
  refine (TR [112, 117, 116, 32, 55, 32, 54, 49, 54, 50] w hw (by simp)).mono ?_
  rw [parse_P]
  rintro e w1 ⟨v1, rfl, ⟨a1, c1, hv1, hb1⟩, g1⟩
  obtain rfl : v1 = .tuple #[.agg #[.int .i64 1, .int .i64 7, .int .i64 0, .slice a1 2 c1], .int .i64 0] := hv1
  have g2 := grow_alloc w1 (.cells #[.int .i64 1, .int .i64 7, .int .i64 0, .slice a1 2 c1] 24)
  have hD2 := heap_new w1 #[.int .i64 1, .int .i64 7, .int .i64 0, .slice a1 2 c1] 24
  have gW := g1.trans g2
  replace hb1 : Bytes _ (.slice a1 2 c1) [97, 98] := bytes_grow hb1 g2
  clear g1 g2
  have hVW := hV _ _ hw gW
  go_wp2_with fail
  generalize World.alloc w1 _ = W2 at *
  generalize w1.heap.size = gx at *
  refine (TR [112, 117, 114, 103, 101, 32, 55, 32, 51] W2 hVW (by simp)).mono ?_
  rw [parse_Q]
  rintro e w3 ⟨v3, rfl, ⟨a3, c3, hv3, hb3⟩, g3⟩
  obtain rfl : v3 = .tuple #[.agg #[.int .i64 3, .int .i64 7, .int .i64 3, .slice a3 0 c3], .int .i64 0] := hv3
  have g4 := grow_alloc w3 (.cells #[.int .i64 3, .int .i64 7, .int .i64 3, .slice a3 0 c3] 24)
  have hE4 := heap_new w3 #[.int .i64 3, .int .i64 7, .int .i64 3, .slice a3 0 c3] 24
  have g34 := g3.trans g4
  have hD4 := (g34.block _ (heap_lt hD2)).trans hD2
  have hb4 := bytes_grow hb1 g34
  have gW4 := gW.trans g34
  have hVW4 := hV _ _ hVW g34
  have ra : (convert 22 9 (.slice a1 2 c1)).run Tryd.prog _ = .ok (.string ⟨#[97, 98]⟩) _ := run_str7 _ _ _ hb4
  have y0 := box_cell hD4 0 _ rfl
  have y1 := box_cell hD4 1 _ rfl
  have y2 := box_cell hD4 2 _ rfl
  have y3 := box_cell hD4 3 _ rfl
  have z2 := box_cell hE4 2 _ rfl
  clear g3 g4 g34 hD2 hb1 gW hVW hb3
  go_wp2_with fail
  refine (TP dP a1 c1 _ hVW4 right_P hb4).mono ?_
  rw [print_P]
  rintro e w5 ⟨rfl, g5⟩
  have gE := gW4.trans g5
  clear g5 gW4 y0 y1 y2 y3 z2 hb4 ra hD4 hE4 hVW4
  go_wp2_with fail
  go_ret
  exact ⟨rfl, gE⟩

end Go.Proofs.YtpfbddhlkckfhabDoor
