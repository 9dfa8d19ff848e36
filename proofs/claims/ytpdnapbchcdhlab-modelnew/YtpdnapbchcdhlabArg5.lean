import Derived.Test.YtpdnapbchcdhlabArg4
import Derived.Test.YtpdnapbchcdhlabRModel
set_option maxHeartbeats 8000000
namespace Go.Proofs.Ytpdnapbchcdhlab
set_option maxRecDepth 100000
open Go.RowKit Go.ChangeShapes Go.WideShapes Go.ChangeAt Go.Deep
open Plain Reg
section
variable {H : Type} {enc : TypeId × Value → H} {W : World}
theorem Qw {r : Reach} {b0 : Nat} {v : Value} {d : DataW H} {p : List MemPlace} (hok : Value.okWide Try.prog W r b0 47 v) (h : DataW.Trod enc Try.prog W 0 (fun _ => true) true 47 v d p)
  (hs : (d.weights Try.prog 47).all (· ≤ reachBytes) = true) :
  ∃ (e : Dd) (a : Option Addr) (c : Nat), v = .agg #[.int .i64 e.kind, .int .i64 e.key, .int .i64 e.num, .slice a e.data.length c] ∧ Zu (fun b => b < W.heap.size) W (.slice a e.data.length c) e.data ∧ e.data.length ≤ 140737488351232 := by
 obtain ⟨cs, rfl, hsz⟩ := okWide_struct Try.underlying47 hok;have hc4 : Try.prog.cellsOf 47 = 4 := by kernel_rfl
 obtain ⟨c0, c1, c2, c3, rfl⟩ := Go.Joins.array4 (hsz.trans hc4);obtain ⟨fuel, hf⟩ := h;obtain ⟨y0, y1, y2, y3, m, hx, _, h0, h1, h2, h3⟩ := Go.Joins.trod_struct4 Try.underlying47 hf;have t0 : Try.prog.cellsOf 3 = 1 := by kernel_rfl
 have t1 : Try.prog.cellsOf 31 = 1 := by kernel_rfl
 simp only [Value.cells, t0, t1, List.drop_zero, List.drop_succ_cons, List.take_succ_cons, List.take_zero] at h0 h1 h2 h3;obtain ⟨a0, e0, f0, -⟩ := DataW.trod_int Try.underlying3 h0;obtain ⟨a1, e1, f1, -⟩ := DataW.trod_int Try.underlying3 h1;obtain ⟨a2, e2, f2, -⟩ := DataW.trod_int Try.underlying3 h2;simp only [List.cons.injEq, and_true] at e0 e1 e2;subst e0; subst e1; subst e2;simp only [Prod.mk.injEq] at hx;obtain ⟨rfl, -⟩ := hx;have hw3 : (y3.1.weights Try.prog 31).all (· ≤ reachBytes) = true := by
  simp only [DataW.weights, Try.underlying47] at hs;exact Xp (j := 3) hs rfl rfl
 obtain ⟨l, hb, hl⟩ := Jk h3 hw3;obtain ⟨a, c, rfl⟩ := (Q7 hb).form;exact ⟨⟨a0, a1, a2, l⟩, a, c, rfl, Q7 hb, hl⟩
end
end Go.Proofs.Ytpdnapbchcdhlab
