/-
  Arg, Arg2, Arg3: several texts in one.
-/
import Derived.Test.YtgaecpdokgklpabJSum
import Derived.ProofKit
import Derived.OpenShut
import Derived.SizedLaws
import Derived.Lib.SmallJoins
import Derived.Test.YtgaecpdokgklpabDk
import Derived.Deep.Slices
import Derived.Deep.SlicePairs
/-
  A slice of bytes that came in, as the walks want it: it holds the bytes that its numbers are.
  Condition: as the row reads it.
-/
namespace Go.Proofs.Ytgaecpdokgklpab
set_option maxRecDepth 100000
open Go.RowKit Go.ChangeShapes Go.WideShapes Go.ChangeAt
open Go.Proofs.Ytgaecpdokgklpab.Plain Go.Proofs.Ytgaecpdokgklpab.Reg

theorem wf_byte {n : Int} (h : (Lit.int .u8 n).wf = true) : 0 ≤ n ∧ n < 256 := by
 have : 0 ≤ n ∧ n ≤ 255 := by simpa [Lit.wf, IntKind.min, IntKind.max, IntKind.signed, IntKind.bits] using h
 omega
theorem byte_of {n : Int} (h : (Lit.int .u8 n).wf = true) : ∃ c : UInt8, n = (c.toNat : Int) := by
 have := wf_byte h
 refine ⟨UInt8.ofNat n.toNat, ?_⟩
 rw [UInt8.toNat_ofNat']
 omega

def toBytes (zs : List Int) : List UInt8 := zs.map fun n => UInt8.ofNat n.toNat

theorem bytes_row {w : World} {x : Addr} {len cap : Nat} {zs : List Int} (hl : len ≤ cap) (hz : zs.length = cap)
  (hc : ∀ i, i < zs.length → w.cell? (x.add i) = some (.int .u8 (zs.getD i 0))) (hw : ∀ n ∈ zs, (Lit.int .u8 n).wf = true) :
  Bytes w (.slice (some x) len cap) (toBytes (zs.take len)) := by
 have e : (toBytes (zs.take len)).length = len := by simp [toBytes]; omega
 by_cases h0 : len = 0
 ·subst h0
  exact .inl ⟨some x, cap, rfl, by simp [toBytes], fun h => by cases h⟩
 ·obtain ⟨b, off, rfl, hc'⟩ := ints_at hc (by omega)
  refine .inr ⟨b, off, cap, by rw [e], by omega, fun i hi => ?_⟩
  have hi' : i < zs.length := by omega
  rw [hc' i hi']
  have h1 : zs.getD i 0 = zs[i] := by rw [List.getD_eq_getElem?_getD, List.getElem?_eq_getElem hi']; rfl
  have h2 := wf_byte (hw zs[i] (List.getElem_mem hi'))
  have h3 : ((toBytes (zs.take len))[i].toNat : Int) = zs[i] := by
   simp only [toBytes, List.getElem_map, List.getElem_take]
   rw [UInt8.toNat_ofNat']
   omega
  rw [h1, h3]
end Go.Proofs.Ytgaecpdokgklpab

/-
  Arguments that came in, as the walks want them: bytes, and records.
  Condition: as the row reads them.
-/
namespace Go.Proofs.Ytgaecpdokgklpab
set_option maxRecDepth 100000
open Go.RowKit Go.ChangeShapes Go.WideShapes Go.ChangeAt Go.Deep
open Go.Proofs.Ytgaecpdokgklpab.Plain Go.Proofs.Ytgaecpdokgklpab.Reg

section
variable {H : Type} {enc : TypeId × Value → H} {W : World}

theorem wt_each {P : Program} {ts : List TypeId} {ds : List (DataW H)} (h : (DataW.weightsEach P ts ds).all (· ≤ reachBytes) = true) {j : Nat} {t : TypeId} {d : DataW H} (ht : ts[j]? = some t) (hd : ds[j]? = some d) : (d.weights P t).all (· ≤ reachBytes) = true := by
 rw [List.all_eq_true] at h ⊢
 exact fun n hn => h n (DataW.weights_mem_each ht hd n hn)

theorem open_bytes {fuel : Nat} {v : Value} {x : DataW H × List MemPlace} (h : DataW.trod enc Try.prog W 0 (fun _ => true) true fuel 31 [v] = some x) (hs : (x.1.weights Try.prog 31).all (· ≤ reachBytes) = true) :
  ∃ l, Bytes W v l ∧ l.length ≤ 140737488351232 := by
 rcases open_ints Try.underlying31 Try.underlying5 (by kernel_rfl) h with ⟨hcs, _⟩ | ⟨a, len, cap, zs, hcs, _, hl, hm, hz, hx, hcell, hwz⟩
 ·simp only [List.cons.injEq, and_true] at hcs
  subst hcs
  exact ⟨[], .inl ⟨none, 0, rfl, rfl, fun _ => rfl⟩, by simp⟩
 ·simp only [List.cons.injEq, and_true] at hcs
  subst hcs
  have hzz : zs.length = cap := by simpa using hz
  subst hx
  have hs2 : (lits (H := H) .u8 (zs.take len)).length + (lits (H := H) .u8 (zs.drop len)).length ≤ reachBytes := by
   have h3 := (List.all_eq_true.1 hs) (((lits (H := H) .u8 (zs.take len)).length + (lits (H := H) .u8 (zs.drop len)).length) * Try.prog.bytesOf 5) (by simp [DataW.weights, Try.underlying31])
   rw [show Try.prog.bytesOf 5 = 1 from by kernel_rfl, Nat.mul_one] at h3
   simpa using h3
  simp only [lits, List.length_map, List.length_take, List.length_drop, reachBytes] at hs2
  refine ⟨toBytes (zs.take len), bytes_row hl hzz hcell hwz, ?_⟩
  simp [toBytes]; omega

theorem open_rec {r : Reach} {b0 : Nat} {v : Value} {d : DataW H} {p : List MemPlace} (hok : Value.okWide Try.prog W r b0 33 v) (h : DataW.Trod enc Try.prog W 0 (fun _ => true) true 33 v d p)
  (hs : (d.weights Try.prog 33).all (· ≤ reachBytes) = true) :
  ∃ k y n dv l, v = .agg #[.int .i64 k, .int .i64 y, .int .i64 n, dv] ∧ Bytes W dv l ∧ l.length ≤ 140737488351232 := by
 obtain ⟨cs, rfl, hsz⟩ := okWide_struct Try.underlying33 hok
 have hc4 : Try.prog.cellsOf 33 = 4 := by kernel_rfl
 obtain ⟨c0, c1, c2, c3, rfl⟩ := Go.Joins.array4 (hsz.trans hc4)
 obtain ⟨fuel, hf⟩ := h
 obtain ⟨y0, y1, y2, y3, m, hx, _, h0, h1, h2, h3⟩ := Go.Joins.trod_struct4 Try.underlying33 hf
 have t0 : Try.prog.cellsOf 3 = 1 := by kernel_rfl
 have t1 : Try.prog.cellsOf 31 = 1 := by kernel_rfl
 simp only [Value.cells, t0, t1, List.drop_zero, List.drop_succ_cons, List.take_succ_cons, List.take_zero] at h0 h1 h2 h3
 obtain ⟨a0, e0, f0, -⟩ := DataW.trod_int Try.underlying3 h0
 obtain ⟨a1, e1, f1, -⟩ := DataW.trod_int Try.underlying3 h1
 obtain ⟨a2, e2, f2, -⟩ := DataW.trod_int Try.underlying3 h2
 simp only [List.cons.injEq, and_true] at e0 e1 e2
 subst e0; subst e1; subst e2
 simp only [Prod.mk.injEq] at hx
 obtain ⟨rfl, -⟩ := hx
 have hw3 : (y3.1.weights Try.prog 31).all (· ≤ reachBytes) = true := by
  simp only [DataW.weights, Try.underlying33] at hs
  exact wt_each (j := 3) hs rfl rfl
 obtain ⟨l, hb, hl⟩ := open_bytes h3 hw3
 exact ⟨a0, a1, a2, c3, l, rfl, hb, hl⟩
end
end Go.Proofs.Ytgaecpdokgklpab

/-
  Disks that came in, as the walks want them.
  Condition: as the row reads them.
-/
namespace Go.Proofs.Ytgaecpdokgklpab
set_option maxRecDepth 100000
open Go.RowKit Go.ChangeShapes Go.WideShapes Go.ChangeAt Go.Deep
open Go.Proofs.Ytgaecpdokgklpab.Plain Go.Proofs.Ytgaecpdokgklpab.Reg

section
variable {H : Type} {enc : TypeId × Value → H} {W : World}

theorem plain_addr {a : Addr} {u : Value} (h : W.cell? (a.add 0) = some u) : ∃ b off, a = ⟨b, off, none⟩ := by
 obtain ⟨b, off, spot⟩ := a
 cases spot with
 | none => exact ⟨b, off, rfl⟩
 | some s =>
  exfalso
  unfold World.cell? Addr.add at h
  simp only [if_true] at h
  split at h <;> simp_all
theorem plain_add (b off i : Nat) : (⟨b, off, none⟩ : Addr).add i = ⟨b, off + i, none⟩ := by
 unfold Addr.add
 split
 ·rename_i h; rw [h]; rfl
 ·rfl

/-- Bytes, whatever their number. -/
theorem open_bytes0 {fuel : Nat} {v : Value} {x : DataW H × List MemPlace} (h : DataW.trod enc Try.prog W 0 (fun _ => true) true fuel 31 [v] = some x) : ∃ l, Bytes W v l := by
 rcases open_ints Try.underlying31 Try.underlying5 (by kernel_rfl) h with ⟨hcs, _⟩ | ⟨a, len, cap, zs, hcs, _, hl, hm, hz, hx, hcell, hwz⟩
 ·simp only [List.cons.injEq, and_true] at hcs
  subst hcs
  exact ⟨[], .inl ⟨none, 0, rfl, rfl, fun _ => rfl⟩⟩
 ·simp only [List.cons.injEq, and_true] at hcs
  subst hcs
  have hzz : zs.length = cap := by simpa using hz
  exact ⟨toBytes (zs.take len), bytes_row hl hzz hcell hwz⟩

theorem open_blocks {fuel : Nat} {v : Value} {x : DataW H × List MemPlace} (h : DataW.trod enc Try.prog W 0 (fun _ => true) true fuel 22 [v] = some x) (hs : (x.1.weights Try.prog 22).all (· ≤ reachBytes) = true) :
  ∃ bs, BlocksP W v bs ∧ bs.length ≤ 5864062014806 := by
 rcases open_slice1 Try.underlying22 (by kernel_rfl) h with ⟨hcs, _⟩ | ⟨a, len, cap, m, n, V, D, Pl, hcs, _, hl, hm, hmm, hx, hV⟩
 ·simp only [List.cons.injEq, and_true] at hcs
  subst hcs
  exact ⟨[], .inl ⟨none, 0, rfl, rfl, fun _ => rfl⟩, by simp⟩
 ·simp only [List.cons.injEq, and_true] at hcs
  subst hcs
  have hmc : m = cap := by simpa using hmm
  subst hmc
  have hex : ∀ i, i < len → ∃ l, W.cell? (a.add i) = some (V i) ∧ Bytes W (V i) l := by
   intro i hi
   obtain ⟨h1, h2⟩ := hV i (by omega)
   obtain ⟨l, hb⟩ := open_bytes0 h2
   exact ⟨l, h1, hb⟩
  obtain ⟨f, hf⟩ := choose_lt hex
  subst hx
  have hw : len * 24 ≤ reachBytes := by
   have h3 := (List.all_eq_true.1 hs) ((((List.range len).map D).length + ((List.range (m - len)).map fun j => D (len + j)).length) * Try.prog.bytesOf 31) (by simp [DataW.weights, Try.underlying22])
   rw [show Try.prog.bytesOf 31 = 24 from by kernel_rfl] at h3
   simp at h3
   omega
  refine ⟨(List.range len).map f, ?_, by simp [reachBytes] at hw ⊢; omega⟩
  by_cases h0 : len = 0
  ·subst h0
   exact .inl ⟨some a, m, rfl, by simp, fun h => by cases h⟩
  ·obtain ⟨b, off, rfl⟩ := plain_addr (hf 0 (by omega)).1
   refine .inr ⟨b, off, m, by simp, by simpa using hl, fun i hi => ⟨V i, ?_, ?_⟩⟩
   ·have := (hf i (by simpa using hi)).1
    rw [plain_add] at this
    exact this.trans (by simp)
   ·have := (hf i (by simpa using hi)).2
    simpa using this

theorem open_late {fuel : Nat} {v : Value} {x : DataW H × List MemPlace} (h : DataW.trod enc Try.prog W 0 (fun _ => true) true fuel 23 [v] = some x) (hs : (x.1.weights Try.prog 23).all (· ≤ reachBytes) = true) :
  ∃ ws, LateP W v ws ∧ ws.length ≤ 5864062014806 := by
 rcases open_slice_pairs Try.underlying23 Try.underlying68 (by kernel_rfl) rfl rfl (by kernel_rfl) (by kernel_rfl) h with ⟨hcs, _⟩ | ⟨a, len, cap, m, n, V0, V1, D0, D1, P0, P1, hcs, _, hl, hm, hmm, hx, hV⟩
 ·simp only [List.cons.injEq, and_true] at hcs
  subst hcs
  exact ⟨[], .inl ⟨none, 0, rfl, rfl, fun _ => rfl⟩, by simp⟩
 ·simp only [List.cons.injEq, and_true] at hcs
  subst hcs
  have hmc : m = cap := by simpa using hmm
  subst hmc
  have hex : ∀ i, i < len → ∃ x : Wr, W.cell? (a.add (i * 2)) = some (.int .i64 x.1) ∧ W.cell? (a.add (i * 2 + 1)) = some (V1 i) ∧ Bytes W (V1 i) x.2 := by
   intro i hi
   obtain ⟨h1, h2, h3, h4⟩ := hV i (by omega)
   obtain ⟨l, hb⟩ := open_bytes0 h4
   obtain ⟨q, hq, -, -⟩ := DataW.trod_int Try.underlying3 h3
   simp only [List.cons.injEq, and_true] at hq
   rw [hq] at h1
   exact ⟨(q, l), h1, h2, hb⟩
  obtain ⟨f, hf⟩ := choose_lt hex
  subst hx
  have hw : len * 32 ≤ reachBytes := by
   have h3 := (List.all_eq_true.1 hs) ((((List.range len).map fun i => DataW.agg [D0 i, D1 i]).length + ((List.range (m - len)).map fun j => DataW.agg [D0 (len + j), D1 (len + j)]).length) * Try.prog.bytesOf 68) (by simp [DataW.weights, Try.underlying23])
   rw [show Try.prog.bytesOf 68 = 32 from by kernel_rfl] at h3
   simp at h3
   omega
  refine ⟨(List.range len).map f, ?_, by simp [reachBytes] at hw ⊢; omega⟩
  by_cases h0 : len = 0
  ·subst h0
   exact .inl ⟨some a, m, rfl, by simp, fun h => by cases h⟩
  ·obtain ⟨b, off, rfl⟩ := plain_addr (hf 0 (by omega)).1
   refine .inr ⟨b, off, m, by simp, by simpa using hl, fun i hi => ?_⟩
   obtain ⟨k0, k1, k2⟩ := hf i (by simpa using hi)
   rw [plain_add] at k0 k1
   exact ⟨by rw [k0]; simp, V1 i, by rw [Nat.add_assoc]; exact k1, by simpa using k2⟩

theorem open_disk {r : Reach} {b0 : Nat} {v : Value} {d : DataW H} {p : List MemPlace} (hok : Value.okWide Try.prog W r b0 25 v) (h : DataW.Trod enc Try.prog W 0 (fun _ => true) true 25 v d p)
  (hs : (d.weights Try.prog 25).all (· ≤ reachBytes) = true) :
  ∃ (vb vl : Value) (dk : Dk), v = .agg #[vb, vl] ∧ BlocksP W vb dk.blocks ∧ LateP W vl dk.late ∧ dk.blocks.length ≤ 5864062014806 ∧ dk.late.length ≤ 5864062014806 := by
 obtain ⟨v0, v1, y0, y1, n, rfl, rfl, -, h0, h1⟩ := Go.Joins.open_agg2 Try.underlying25 (by kernel_rfl) (by kernel_rfl) hok h
 simp only [DataW.weights, Try.underlying25] at hs
 obtain ⟨bs, hb, hbl⟩ := open_blocks h0 (wt_each (j := 0) hs rfl rfl)
 obtain ⟨ws, hl, hll⟩ := open_late h1 (wt_each (j := 1) hs rfl rfl)
 exact ⟨v0, v1, ⟨bs, ws⟩, rfl, hb, hl, hbl, hll⟩
end
end Go.Proofs.Ytgaecpdokgklpab
