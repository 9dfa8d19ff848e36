/-
  Arguments that came in, as the walks want them: bytes, and records.
  Condition: as the row reads them.
-/
import Derived.Test.YtgpfflfdigekeaaArg
import Derived.SizedLaws
import Derived.Lib.SmallJoins
namespace Go.Proofs.Ytgpfflfdigekeaa
set_option maxRecDepth 100000
open Go.RowKit Go.ChangeShapes Go.WideShapes Go.ChangeAt Go.Deep
open Go.Proofs.Ytgpfflfdigekeaa.Plain Go.Proofs.Ytgpfflfdigekeaa.Reg

section
variable {H : Type} {enc : TypeId × Value → H} {W : World}

theorem wt_each {P : Program} {ts : List TypeId} {ds : List (DataW H)} (h : (DataW.weightsEach P ts ds).all (· ≤ reachBytes) = true) {j : Nat} {t : TypeId} {d : DataW H} (ht : ts[j]? = some t) (hd : ds[j]? = some d) : (d.weights P t).all (· ≤ reachBytes) = true := by
  rw [List.all_eq_true] at h ⊢
  exact fun n hn => h n (DataW.weights_mem_each ht hd n hn)

theorem open_bytes {fuel : Nat} {v : Value} {x : DataW H × List MemPlace} (h : DataW.trod enc Try.prog W 0 (fun _ => true) true fuel 22 [v] = some x) (hs : (x.1.weights Try.prog 22).all (· ≤ reachBytes) = true) :
    ∃ l, Bytes W v l ∧ l.length ≤ 140737488351232 := by
  rcases open_ints Try.underlying22 Try.underlying5 (by kernel_rfl) h with ⟨hcs, _⟩ | ⟨a, len, cap, zs, hcs, _, hl, hm, hz, hx, hcell, hwz⟩
  · simp only [List.cons.injEq, and_true] at hcs
    subst hcs
    exact ⟨[], .inl ⟨none, 0, rfl, rfl, fun _ => rfl⟩, by simp⟩
  · simp only [List.cons.injEq, and_true] at hcs
    subst hcs
    have hzz : zs.length = cap := by simpa using hz
    subst hx
    have hs2 : (lits (H := H) .u8 (zs.take len)).length + (lits (H := H) .u8 (zs.drop len)).length ≤ reachBytes := by
      have h3 := (List.all_eq_true.1 hs) (((lits (H := H) .u8 (zs.take len)).length + (lits (H := H) .u8 (zs.drop len)).length) * Try.prog.bytesOf 5) (by simp [DataW.weights, Try.underlying22])
      rw [show Try.prog.bytesOf 5 = 1 from by kernel_rfl, Nat.mul_one] at h3
      simpa using h3
    simp only [lits, List.length_map, List.length_take, List.length_drop, reachBytes] at hs2
    refine ⟨toBytes (zs.take len), bytes_row hl hzz hcell hwz, ?_⟩
    simp [toBytes]; omega

theorem open_rec {r : Reach} {b0 : Nat} {v : Value} {d : DataW H} {p : List MemPlace} (hok : Value.okWide Try.prog W r b0 32 v) (h : DataW.Trod enc Try.prog W 0 (fun _ => true) true 32 v d p)
    (hs : (d.weights Try.prog 32).all (· ≤ reachBytes) = true) :
    ∃ k y n dv l, v = .agg #[.int .i64 k, .int .i64 y, .int .i64 n, dv] ∧ Bytes W dv l ∧ l.length ≤ 140737488351232 := by
  obtain ⟨cs, rfl, hsz⟩ := okWide_struct Try.underlying32 hok
  have hc4 : Try.prog.cellsOf 32 = 4 := by kernel_rfl
  obtain ⟨c0, c1, c2, c3, rfl⟩ := Go.Joins.array4 (hsz.trans hc4)
  obtain ⟨fuel, hf⟩ := h
  obtain ⟨y0, y1, y2, y3, m, hx, _, h0, h1, h2, h3⟩ := Go.Joins.trod_struct4 Try.underlying32 hf
  have t0 : Try.prog.cellsOf 3 = 1 := by kernel_rfl
  have t1 : Try.prog.cellsOf 22 = 1 := by kernel_rfl
  simp only [Value.cells, t0, t1, List.drop_zero, List.drop_succ_cons, List.take_succ_cons, List.take_zero] at h0 h1 h2 h3
  obtain ⟨a0, e0, f0, -⟩ := DataW.trod_int Try.underlying3 h0
  obtain ⟨a1, e1, f1, -⟩ := DataW.trod_int Try.underlying3 h1
  obtain ⟨a2, e2, f2, -⟩ := DataW.trod_int Try.underlying3 h2
  simp only [List.cons.injEq, and_true] at e0 e1 e2
  subst e0; subst e1; subst e2
  simp only [Prod.mk.injEq] at hx
  obtain ⟨rfl, -⟩ := hx
  have hw3 : (y3.1.weights Try.prog 22).all (· ≤ reachBytes) = true := by
    simp only [DataW.weights, Try.underlying32] at hs
    exact wt_each (j := 3) hs rfl rfl
  obtain ⟨l, hb, hl⟩ := open_bytes h3 hw3
  exact ⟨a0, a1, a2, c3, l, rfl, hb, hl⟩
end
end Go.Proofs.Ytgpfflfdigekeaa
