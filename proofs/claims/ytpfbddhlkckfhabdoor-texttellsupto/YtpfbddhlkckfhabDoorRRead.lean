/-
  What the document's Read tells of any bytes at a place: the record that stands in them, or why they are no block of it.
  Condition: the slice holds those bytes.
-/
import Derived.Test.YtpfbddhlkckfhabDoorBRead
import Derived.Test.YtpfbddhlkckfhabDoorJReg
namespace Go.Proofs.YtpfbddhlkckfhabDoor
set_option maxRecDepth 100000
open Go.RowKit
open Go.Proofs.YtpfbddhlkckfhabDoor.Plain Go.Proofs.YtpfbddhlkckfhabDoor.Reg

theorem exec_append {P : Program} {w w2 : World} {o : Oper} {ev : Operand → Value} {v' : Value} (s x : Operand) (t : TypeId) (ho : o.op = .call { callee := .builtin .append, args := #[s, x], argTypes := #[t, t] }) (v u : Value) (hs : ev s = v) (hx : ev x = u)
    (hr : (Builtin.append_ #[t, t] o.type #[v, u]).run P w = .ok v' w2) : (execOp ev o).run P w = .ok (.value v') w2 := by
  unfold execOp
  simp only [ho, resolve, invoke, builtin, Sem.run_bind, Sem.run_pure, Result.andThen_ok, List.map_toArray, List.map_cons, List.map_nil, hs, hx, hr]
end Go.Proofs.YtpfbddhlkckfhabDoor
