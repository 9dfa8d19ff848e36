import Derived.ProofKit
import Derived.OpenShut
import Derived.SizedLaws
import Derived.Lib.SmallJoins
import Derived.Deep.SlicePairs
import Derived.Test.YtlickojpmffmiacRStepC
set_option maxHeartbeats 8000000
/-
  A slice of bytes that came in, as the walks want it: it holds the bytes that its numbers are.
  Condition: as the row reads it.
-/
namespace Go.Proofs.Ytlickojpmffmiac
set_option maxRecDepth 100000
open Go.RowKit Go.ChangeShapes Go.WideShapes Go.ChangeAt
open Plain Reg
theorem wf_byte {n : Int} (h : (Lit.int .u8 n).wf = true) : 0 ≤ n ∧ n < 256 := by
 have : 0 ≤ n ∧ n ≤ 255 := by simpa [Lit.wf, IntKind.min, IntKind.max, IntKind.signed, IntKind.bits] using h
 omega
def toBytes (zs : List Int) : List UInt8 := zs.map fun n => UInt8.ofNat n.toNat
theorem bytes_row {w : World} {x : Addr} {len cap : Nat} {zs : List Int} (hl : len ≤ cap) (hz : zs.length = cap)
  (hc : ∀ i, i < zs.length → w.cell? (x.add i) = some (.int .u8 (zs.getD i 0))) (hw : ∀ n ∈ zs, (Lit.int .u8 n).wf = true) :
  Bytes w (.slice (some x) len cap) (toBytes (zs.take len)) := by
 have e : (toBytes (zs.take len)).length = len := by simp [toBytes]; omega
 by_cases h0 : len = 0
 ·subst h0
  exact .inl ⟨some x, cap, rfl, by simp [toBytes], fun h => by cases h⟩
 ·obtain ⟨b, off, rfl, hc'⟩ := ints_at hc (by omega)
  refine .inr ⟨b, off, cap, by rw [e], by omega, fun i hi => ?_⟩
  have hi' : i < zs.length := by omega
  rw [hc' i hi']
  have h1 : zs.getD i 0 = zs[i] := by rw [List.getD_eq_getElem?_getD, List.getElem?_eq_getElem hi']; rfl
  have h2 := wf_byte (hw zs[i] (List.getElem_mem hi'))
  have h3 : ((toBytes (zs.take len))[i].toNat : Int) = zs[i] := by
   simp only [toBytes, List.getElem_map, List.getElem_take]
   rw [UInt8.toNat_ofNat']
   omega
  rw [h1, h3]
end Go.Proofs.Ytlickojpmffmiac
/-
  Arguments that came in, as the walks want them: bytes, and records.
  Condition: as the row reads them.
-/
namespace Go.Proofs.Ytlickojpmffmiac
set_option maxRecDepth 100000
open Go.RowKit Go.ChangeShapes Go.WideShapes Go.ChangeAt Go.Deep
open Plain Reg
section
variable {H : Type} {enc : TypeId × Value → H} {W : World}
theorem wt_each {P : Program} {ts : List TypeId} {ds : List (DataW H)} (h : (DataW.weightsEach P ts ds).all (· ≤ reachBytes) = true) {j : Nat} {t : TypeId} {d : DataW H} (ht : ts[j]? = some t) (hd : ds[j]? = some d) : (d.weights P t).all (· ≤ reachBytes) = true := by
 rw [List.all_eq_true] at h ⊢
 exact fun n hn => h n (DataW.weights_mem_each ht hd n hn)
theorem open_bytes {fuel : Nat} {v : Value} {x : DataW H × List MemPlace} (h : DataW.trod enc Try.prog W 0 (fun _ => true) true fuel 56 [v] = some x) (hs : (x.1.weights Try.prog 56).all (· ≤ reachBytes) = true) :
  ∃ l, Bytes W v l ∧ l.length ≤ 140737488351232 := by
 rcases open_ints Try.underlying56 Try.underlying5 (by kernel_rfl) h with ⟨hcs, _⟩ | ⟨a, len, cap, zs, hcs, _, hl, hm, hz, hx, hcell, hwz⟩
 ·simp only [List.cons.injEq, and_true] at hcs
  subst hcs
  exact ⟨[], .inl ⟨none, 0, rfl, rfl, fun _ => rfl⟩, by simp⟩
 ·simp only [List.cons.injEq, and_true] at hcs
  subst hcs
  have hzz : zs.length = cap := by simpa using hz
  subst hx
  have hs2 : (lits (H := H) .u8 (zs.take len)).length + (lits (H := H) .u8 (zs.drop len)).length ≤ reachBytes := by
   have h3 := (List.all_eq_true.1 hs) (((lits (H := H) .u8 (zs.take len)).length + (lits (H := H) .u8 (zs.drop len)).length) * Try.prog.bytesOf 5) (by simp [DataW.weights, Try.underlying56])
   rw [show Try.prog.bytesOf 5 = 1 from by kernel_rfl, Nat.mul_one] at h3
   simpa using h3
  simp only [lits, List.length_map, List.length_take, List.length_drop, reachBytes] at hs2
  refine ⟨toBytes (zs.take len), bytes_row hl hzz hcell hwz, ?_⟩
  simp [toBytes]; omega
end
end Go.Proofs.Ytlickojpmffmiac
/-
  Disks that came in, as the walks want them.
  Condition: as the row reads them.
-/
namespace Go.Proofs.Ytlickojpmffmiac
set_option maxRecDepth 100000
open Go.RowKit Go.ChangeShapes Go.WideShapes Go.ChangeAt Go.Deep
open Plain Reg
section
variable {H : Type} {enc : TypeId × Value → H} {W : World}
theorem plain_addr {a : Addr} {u : Value} (h : W.cell? (a.add 0) = some u) : ∃ b off, a = ⟨b, off, none⟩ := by
 obtain ⟨b, off, spot⟩ := a
 cases spot with
 | none => exact ⟨b, off, rfl⟩
 | some s =>
  exfalso
  unfold World.cell? Addr.add at h
  simp only [if_true] at h
  split at h <;> simp_all
theorem plain_add (b off i : Nat) : (⟨b, off, none⟩ : Addr).add i = ⟨b, off + i, none⟩ := by
 unfold Addr.add
 split
 ·rename_i h; rw [h]; rfl
 ·rfl
end
section
variable {H : Type} {enc : TypeId × Value → H} {W : World}
end
section
variable {H : Type} {enc : TypeId × Value → H} {W : World}
end
section
variable {H : Type} {enc : TypeId × Value → H} {W : World}
theorem weights_in {P : Program} {e : TypeId} : ∀ {l : List (DataW H)} {d : DataW H}, d ∈ l → ∀ n ∈ d.weights P e, n ∈ DataW.weightsAll P e l
 | c :: r, d, h, n, hn => by
  rw [DataW.weightsAll, List.mem_append]
  rcases List.mem_cons.1 h with rfl | h
  ·exact .inl hn
  ·exact .inr (weights_in h n hn)
/-- A row of whatever is known of each of its things, of which each weighs what can be reached. -/
theorem open_rowsW {α : Type} (i0 : Inhabited α) (sh : Shape α) (Q : α → Prop) {t : TypeId} {fuel : Nat} {v : Value} {x : DataW H × List MemPlace} (ht : Try.prog.underlying t = some (.slice sh.T)) (hc : Try.prog.cellsOf sh.T = sh.size) (hz : 0 < sh.size) {by_ : Nat} (hby : Try.prog.bytesOf sh.T = by_)
  (hopen : ∀ (fuel : Nat) (cs : List Value) (y : DataW H × List MemPlace), DataW.trod enc Try.prog W 0 (fun _ => true) true fuel sh.T cs = some y → (y.1.weights Try.prog sh.T).all (· ≤ reachBytes) = true → ∃ z : α, sh.enc (fun b => b < W.heap.size) W z cs ∧ Q z)
  (h : DataW.trod enc Try.prog W 0 (fun _ => true) true fuel t [v] = some x) (hs : (x.1.weights Try.prog t).all (· ≤ reachBytes) = true) :
  ∃ xs, SliceS sh (fun b => b < W.heap.size) W v xs ∧ xs.length * by_ ≤ 140737488351232 ∧ ∀ z ∈ xs, Q z := by
 rcases open_slice ht h with ⟨hcs, _⟩ | ⟨a, len, cap, m, n, D, Pl, hcs, _, hl, hm, hmm, hx, hV⟩
 ·simp only [List.cons.injEq, and_true] at hcs
  subst hcs
  exact ⟨[], .inl ⟨none, 0, rfl, rfl, fun _ => rfl⟩, by simp, by simp⟩
 ·simp only [List.cons.injEq, and_true] at hcs
  subst hcs
  have hmc : m = cap := by simpa using hmm
  subst hmc
  subst hx
  have hex : ∀ i, i < len → ∃ z : α, ∃ cs, (sh.enc (fun b => b < W.heap.size) W z cs ∧ Q z) ∧ ∀ (j : Nat) (u : Value), cs[j]? = some u → W.cell? (a.add (i * sh.size + j)) = some u := by
   intro i hi
   obtain ⟨cs, h1, h2⟩ := hV i (by omega)
   rw [hc] at h1
   obtain ⟨_, hlen, hcell⟩ := World.cells?_some h1
   have hwt : ((D i).weights Try.prog sh.T).all (· ≤ reachBytes) = true := by
    rw [List.all_eq_true] at hs ⊢
    intro k hk
    refine hs k ?_
    have := weights_in (P := Try.prog) (e := sh.T) (l := (List.range len).map D) (List.mem_map.2 ⟨i, List.mem_range.2 hi, rfl⟩) k hk
    simp only [DataW.weights, ht]
    exact List.mem_cons_of_mem _ (List.mem_append_left _ this)
   obtain ⟨z, hz⟩ := hopen _ _ _ h2 hwt
   refine ⟨z, cs, hz, fun j u hj => ?_⟩
   have hjl := (List.getElem?_eq_some_iff.1 hj).1
   have := hcell j (by omega)
   rw [add_add] at this
   rw [this]; exact hj
  obtain ⟨f, hf⟩ := choose_lt hex
  have hw : len * by_ ≤ reachBytes := by
   have h3 := (List.all_eq_true.1 hs) ((((List.range len).map D).length + ((List.range (m - len)).map fun j => D (len + j)).length) * Try.prog.bytesOf sh.T) (by simp [DataW.weights, ht])
   rw [hby] at h3
   simp only [List.length_map, List.length_range, decide_eq_true_eq] at h3
   exact Nat.le_trans (Nat.mul_le_mul_right _ (by omega)) h3
  refine ⟨(List.range len).map f, ?_, by simp [reachBytes] at hw ⊢; omega, fun z hz => by
   obtain ⟨i, hi, rfl⟩ := List.mem_map.1 hz
   obtain ⟨_, k1, _⟩ := hf i (List.mem_range.1 hi)
   exact k1.2⟩
  by_cases h0 : len = 0
  ·subst h0
   exact .inl ⟨some a, m, rfl, by simp, fun h => by cases h⟩
  ·obtain ⟨cs0, e1, e2⟩ := hf 0 (by omega)
   have hl0 := sh.len e1.1
   have e3 := e2 0 cs0[0] (List.getElem?_eq_getElem (by omega))
   rw [Nat.zero_mul, Nat.zero_add] at e3
   obtain ⟨b, off, rfl⟩ := plain_addr e3
   refine .inr ⟨b, off, m, ?_, by simp, by simpa using hl, fun i hi => ?_⟩
   ·rw [plain_add] at e3
    exact cell_lt e3
   ·obtain ⟨cs, k1, k2⟩ := hf i (by simpa using hi)
    refine ⟨cs, by simpa using k1.1, fun j u hj => ?_⟩
    have := k2 j u hj
    rw [plain_add] at this
    rw [Nat.add_assoc]; exact this
theorem deed_cells {fuel : Nat} {cs : List Value} {x : DataW H × List MemPlace} (h : DataW.trod enc Try.prog W 0 (fun _ => true) true fuel 58 cs = some x) (hs : (x.1.weights Try.prog 58).all (· ≤ reachBytes) = true) :
  ∃ (e : Dd) (u : Value), cs = [.int .i64 e.kind, .int .i64 e.key, .int .i64 e.num, u] ∧ Bytes W u e.data ∧ e.data.length ≤ 140737488351232 := by
 obtain ⟨y0, y1, y2, y3, m, hx, hl, h0, h1, h2, h3⟩ := Go.Joins.trod_struct4 Try.underlying58 h
 have hc4 : Try.prog.cellsOf 58 = 4 := by kernel_rfl
 have t0 : Try.prog.cellsOf 3 = 1 := by kernel_rfl
 have t1 : Try.prog.cellsOf 56 = 1 := by kernel_rfl
 rw [hc4] at hl
 subst hx
 have hw3 : (y3.1.weights Try.prog 56).all (· ≤ reachBytes) = true := by
  simp only [DataW.weights, Try.underlying58] at hs
  exact wt_each (j := 3) hs rfl rfl
 match cs, hl with
 | [c0, c1, c2, c3], _ =>
  simp only [t0, t1, List.drop_zero, List.drop_succ_cons, List.take_succ_cons, List.take_zero] at h0 h1 h2 h3
  obtain ⟨a0, e0, f0, -⟩ := DataW.trod_int Try.underlying3 h0
  obtain ⟨a1, e1, f1, -⟩ := DataW.trod_int Try.underlying3 h1
  obtain ⟨a2, e2, f2, -⟩ := DataW.trod_int Try.underlying3 h2
  simp only [List.cons.injEq, and_true] at e0 e1 e2
  subst e0; subst e1; subst e2
  obtain ⟨l, hb, hlb⟩ := open_bytes h3 hw3
  exact ⟨⟨a0, a1, a2, l⟩, c3, rfl, hb, hlb⟩
theorem step_cells {fuel : Nat} {cs : List Value} {x : DataW H × List MemPlace} (h : DataW.trod enc Try.prog W 0 (fun _ => true) true fuel 63 cs = some x) (hs : (x.1.weights Try.prog 63).all (· ≤ reachBytes) = true) :
  ∃ (e : Sp) (u : Value), cs = [.int .i64 e.kind, .int .i64 e.n, .int .i64 e.m, .int .i64 e.deed.kind, .int .i64 e.deed.key, .int .i64 e.deed.num, u] ∧ Bytes W u e.deed.data ∧ e.deed.data.length ≤ 140737488351232 := by
 obtain ⟨y0, y1, y2, y3, m, hx, hl, h0, h1, h2, h3⟩ := Go.Joins.trod_struct4 Try.underlying63 h
 have hc7 : Try.prog.cellsOf 63 = 7 := by kernel_rfl
 have hc4 : Try.prog.cellsOf 58 = 4 := by kernel_rfl
 have t0 : Try.prog.cellsOf 3 = 1 := by kernel_rfl
 rw [hc7] at hl
 subst hx
 have hw3 : (y3.1.weights Try.prog 58).all (· ≤ reachBytes) = true := by
  simp only [DataW.weights, Try.underlying63] at hs
  exact wt_each (j := 3) hs rfl rfl
 match cs, hl with
 | [c0, c1, c2, c3, c4, c5, c6], _ =>
  simp only [t0, hc4, List.drop_zero, List.drop_succ_cons, List.take_succ_cons, List.take_zero] at h0 h1 h2 h3
  obtain ⟨a0, e0, f0, -⟩ := DataW.trod_int Try.underlying3 h0
  obtain ⟨a1, e1, f1, -⟩ := DataW.trod_int Try.underlying3 h1
  obtain ⟨a2, e2, f2, -⟩ := DataW.trod_int Try.underlying3 h2
  simp only [List.cons.injEq, and_true] at e0 e1 e2
  subst e0; subst e1; subst e2
  obtain ⟨d, u, e3, hb, hlb⟩ := deed_cells h3 hw3
  simp only [List.cons.injEq, and_true] at e3
  obtain ⟨rfl, rfl, rfl, rfl⟩ := e3
  exact ⟨⟨a0, a1, a2, d⟩, c6, rfl, hb, hlb⟩
theorem open_steps {fuel : Nat} {v : Value} {x : DataW H × List MemPlace} (h : DataW.trod enc Try.prog W 0 (fun _ => true) true fuel 22 [v] = some x) (hs : (x.1.weights Try.prog 22).all (· ≤ reachBytes) = true) : ∃ l, StepsS (fun b => b < W.heap.size) W v l ∧ l.length ≤ 140737488351232 ∧ ∀ z ∈ l, z.deed.data.length ≤ 140737488351232 := by
 obtain ⟨l, h1, h2, h3⟩ := open_rowsW ⟨⟨0, 0, 0, ⟨0, 0, 0, []⟩⟩⟩ spShape (fun z => z.deed.data.length ≤ 140737488351232) Try.underlying22 (by kernel_rfl) (by decide) (by_ := 72) (by kernel_rfl) (fun _ cs _ h hw => by
  obtain ⟨e, u, rfl, hb, hl⟩ := step_cells h hw
  exact ⟨e, ⟨u, rfl, bytes_s hb⟩, hl⟩) h hs
 exact ⟨l, h1, by omega, h3⟩
end
end Go.Proofs.Ytlickojpmffmiac
