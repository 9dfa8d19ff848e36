/-
  What is asked of the program's Wrong: its contract, as a premise.
-/
import Derived.Test.YtgaecpdokgklpabDoorRModel
namespace Go.Proofs.YtgaecpdokgklpabDoor
set_option maxRecDepth 100000
open Go.RowKit
open Go.Proofs.YtgaecpdokgklpabDoor.Plain Go.Proofs.YtgaecpdokgklpabDoor.Reg

def MWrongC : Prop := ∀ (d : Dd) (a : Option Addr) (c : Nat) (w : World), d.data.length ≤ 140737488355328 → Bytes w (.slice a d.data.length c) d.data →
 Calls Tryd.prog 16 #[.agg #[.int .i64 d.kind, .int .i64 d.key, .int .i64 d.num, .slice a d.data.length c]] w fun r w' => r = .returned (.int .i64 (wrongD d)) ∧ Grow w w'
end Go.Proofs.YtgaecpdokgklpabDoor
