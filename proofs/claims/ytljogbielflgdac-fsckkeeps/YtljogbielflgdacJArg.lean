import Derived.Test.YtljogbielflgdacJSum
import Derived.ProofKit
import Derived.OpenShut
import Derived.SizedLaws
import Derived.Lib.SmallJoins
import Derived.Test.YtljogbielflgdacDk
import Derived.Deep.Slices
import Derived.Deep.SlicePairs
set_option maxHeartbeats 8000000
namespace Go.Proofs.Ytljogbielflgdac
set_option maxRecDepth 100000
open Go.RowKit Go.ChangeShapes Go.WideShapes Go.ChangeAt
open Plain Reg
theorem Zog {n : Int} (h : (Lit.int .u8 n).wf = true) : 0 ≤ n ∧ n < 256 := by
 have : 0 ≤ n ∧ n ≤ 255 := by simpa [Lit.wf, IntKind.min, IntKind.max, IntKind.signed, IntKind.bits] using h
 omega
def Jd (zs : List Int) : List UInt8 := zs.map fun n => UInt8.ofNat n.toNat
theorem Zl6 {w : World} {x : Addr} {len cap : Nat} {zs : List Int} (hl : len ≤ cap) (hz : zs.length = cap)
  (hc : ∀ i, i < zs.length → w.cell? (x.add i) = some (.int .u8 (zs.getD i 0))) (hw : ∀ n ∈ zs, (Lit.int .u8 n).wf = true) :
  Bytes w (.slice (some x) len cap) (Jd (zs.take len)) := by
 have e : (Jd (zs.take len)).length = len := by simp [Jd]; omega
 by_cases h0 : len = 0
 ·subst h0;exact .inl ⟨some x, cap, rfl, by simp [Jd], fun h => by cases h⟩
 ·obtain ⟨b, off, rfl, hc'⟩ := ints_at hc (by omega);refine .inr ⟨b, off, cap, by rw [e], by omega, fun i hi => ?_⟩;have hi' : i < zs.length := by omega
  rw [hc' i hi'];have h1 : zs.getD i 0 = zs[i] := by rw [List.getD_eq_getElem?_getD, List.getElem?_eq_getElem hi']; rfl
  have h2 := Zog (hw zs[i] (List.getElem_mem hi'));have h3 : ((Jd (zs.take len))[i].toNat : Int) = zs[i] := by
   simp only [Jd, List.getElem_map, List.getElem_take];rw [UInt8.toNat_ofNat'];omega
  rw [h1, h3]
end Go.Proofs.Ytljogbielflgdac
namespace Go.Proofs.Ytljogbielflgdac
set_option maxRecDepth 100000
open Go.RowKit Go.ChangeShapes Go.WideShapes Go.ChangeAt Go.Deep
open Plain Reg
section
variable {H : Type} {enc : TypeId × Value → H} {W : World}
theorem Zad {P : Program} {ts : List TypeId} {ds : List (DataW H)} (h : (DataW.weightsEach P ts ds).all (· ≤ reachBytes) = true) {j : Nat} {t : TypeId} {d : DataW H} (ht : ts[j]? = some t) (hd : ds[j]? = some d) : (d.weights P t).all (· ≤ reachBytes) = true := by
 rw [List.all_eq_true] at h ⊢;exact fun n hn => h n (DataW.weights_mem_each ht hd n hn)
end
end Go.Proofs.Ytljogbielflgdac
namespace Go.Proofs.Ytljogbielflgdac
set_option maxRecDepth 100000
open Go.RowKit Go.ChangeShapes Go.WideShapes Go.ChangeAt Go.Deep
open Plain Reg
section
variable {H : Type} {enc : TypeId × Value → H} {W : World}
theorem Zba {a : Addr} {u : Value} (h : W.cell? (a.add 0) = some u) : ∃ b off, a = ⟨b, off, none⟩ := by
 obtain ⟨b, off, spot⟩ := a;cases spot with
 | none => exact ⟨b, off, rfl⟩
 | some s =>
  exfalso;unfold World.cell? Addr.add at h;simp only [if_true] at h;split at h <;> simp_all
theorem Zan (b off i : Nat) : (⟨b, off, none⟩ : Addr).add i = ⟨b, off + i, none⟩ := by
 unfold Addr.add;split
 ·rename_i h; rw [h]; rfl
 ·rfl
theorem J0 {fuel : Nat} {v : Value} {x : DataW H × List MemPlace} (h : DataW.trod enc Try.prog W 0 (fun _ => true) true fuel 52 [v] = some x) : ∃ l, Bytes W v l := by
 rcases open_ints Try.underlying52 Try.underlying5 (by kernel_rfl) h with ⟨hcs, _⟩ | ⟨a, len, cap, zs, hcs, _, hl, hm, hz, hx, hcell, hwz⟩
 ·simp only [List.cons.injEq, and_true] at hcs;subst hcs;exact ⟨[], .inl ⟨none, 0, rfl, rfl, fun _ => rfl⟩⟩
 ·simp only [List.cons.injEq, and_true] at hcs;subst hcs;have hzz : zs.length = cap := by simpa using hz
  exact ⟨Jd (zs.take len), Zl6 hl hzz hcell hwz⟩
theorem Zhl {fuel : Nat} {v : Value} {x : DataW H × List MemPlace} (h : DataW.trod enc Try.prog W 0 (fun _ => true) true fuel 24 [v] = some x) (hs : (x.1.weights Try.prog 24).all (· ≤ reachBytes) = true) :
  ∃ bs, Yv W v bs ∧ bs.length ≤ 5864062014806 := by
 rcases open_slice1 Try.underlying24 (by kernel_rfl) h with ⟨hcs, _⟩ | ⟨a, len, cap, m, n, V, D, Pl, hcs, _, hl, hm, hmm, hx, hV⟩
 ·simp only [List.cons.injEq, and_true] at hcs;subst hcs;exact ⟨[], .inl ⟨none, 0, rfl, rfl, fun _ => rfl⟩, by simp⟩
 ·simp only [List.cons.injEq, and_true] at hcs;subst hcs;have hmc : m = cap := by simpa using hmm
  subst hmc;have hex : ∀ i, i < len → ∃ l, W.cell? (a.add i) = some (V i) ∧ Bytes W (V i) l := by
   intro i hi;obtain ⟨h1, h2⟩ := hV i (by omega);obtain ⟨l, hb⟩ := J0 h2;exact ⟨l, h1, hb⟩
  obtain ⟨f, hf⟩ := choose_lt hex;subst hx;have hw : len * 24 ≤ reachBytes := by
   have h3 := (List.all_eq_true.1 hs) ((((List.range len).map D).length + ((List.range (m - len)).map fun j => D (len + j)).length) * Try.prog.bytesOf 52) (by simp [DataW.weights, Try.underlying24]);rw [show Try.prog.bytesOf 52 = 24 from by kernel_rfl] at h3;simp at h3;omega
  refine ⟨(List.range len).map f, ?_, by simp [reachBytes] at hw ⊢; omega⟩;by_cases h0 : len = 0
  ·subst h0;exact .inl ⟨some a, m, rfl, by simp, fun h => by cases h⟩
  ·obtain ⟨b, off, rfl⟩ := Zba (hf 0 (by omega)).1;refine .inr ⟨b, off, m, by simp, by simpa using hl, fun i hi => ⟨V i, ?_, ?_⟩⟩
   ·have := (hf i (by simpa using hi)).1;rw [Zan] at this;exact this.trans (by simp)
   ·have := (hf i (by simpa using hi)).2;simpa using this
theorem Zlo {fuel : Nat} {v : Value} {x : DataW H × List MemPlace} (h : DataW.trod enc Try.prog W 0 (fun _ => true) true fuel 25 [v] = some x) (hs : (x.1.weights Try.prog 25).all (· ≤ reachBytes) = true) :
  ∃ ws, Qc W v ws ∧ ws.length ≤ 5864062014806 := by
 rcases open_slice_pairs Try.underlying25 Try.underlying76 (by kernel_rfl) rfl rfl (by kernel_rfl) (by kernel_rfl) h with ⟨hcs, _⟩ | ⟨a, len, cap, m, n, V0, V1, D0, D1, P0, P1, hcs, _, hl, hm, hmm, hx, hV⟩
 ·simp only [List.cons.injEq, and_true] at hcs;subst hcs;exact ⟨[], .inl ⟨none, 0, rfl, rfl, fun _ => rfl⟩, by simp⟩
 ·simp only [List.cons.injEq, and_true] at hcs;subst hcs;have hmc : m = cap := by simpa using hmm
  subst hmc;have hex : ∀ i, i < len → ∃ x : Wr, W.cell? (a.add (i * 2)) = some (.int .i64 x.1) ∧ W.cell? (a.add (i * 2 + 1)) = some (V1 i) ∧ Bytes W (V1 i) x.2 := by
   intro i hi;obtain ⟨h1, h2, h3, h4⟩ := hV i (by omega);obtain ⟨l, hb⟩ := J0 h4;obtain ⟨q, hq, -, -⟩ := DataW.trod_int Try.underlying3 h3;simp only [List.cons.injEq, and_true] at hq;rw [hq] at h1;exact ⟨(q, l), h1, h2, hb⟩
  obtain ⟨f, hf⟩ := choose_lt hex;subst hx;have hw : len * 32 ≤ reachBytes := by
   have h3 := (List.all_eq_true.1 hs) ((((List.range len).map fun i => DataW.agg [D0 i, D1 i]).length + ((List.range (m - len)).map fun j => DataW.agg [D0 (len + j), D1 (len + j)]).length) * Try.prog.bytesOf 76) (by simp [DataW.weights, Try.underlying25]);rw [show Try.prog.bytesOf 76 = 32 from by kernel_rfl] at h3;simp at h3;omega
  refine ⟨(List.range len).map f, ?_, by simp [reachBytes] at hw ⊢; omega⟩;by_cases h0 : len = 0
  ·subst h0;exact .inl ⟨some a, m, rfl, by simp, fun h => by cases h⟩
  ·obtain ⟨b, off, rfl⟩ := Zba (hf 0 (by omega)).1;refine .inr ⟨b, off, m, by simp, by simpa using hl, fun i hi => ?_⟩;obtain ⟨k0, k1, k2⟩ := hf i (by simpa using hi);rw [Zan] at k0 k1;exact ⟨by rw [k0]; simp, V1 i, by rw [Nat.add_assoc]; exact k1, by simpa using k2⟩
theorem Zb9 {r : Reach} {b0 : Nat} {v : Value} {d : DataW H} {p : List MemPlace} (hok : Value.okWide Try.prog W r b0 27 v) (h : DataW.Trod enc Try.prog W 0 (fun _ => true) true 27 v d p)
  (hs : (d.weights Try.prog 27).all (· ≤ reachBytes) = true) :
  ∃ (vb vl : Value) (dk : Dk), v = .agg #[vb, vl] ∧ Yv W vb dk.blocks ∧ Qc W vl dk.late ∧ dk.blocks.length ≤ 5864062014806 ∧ dk.late.length ≤ 5864062014806 := by
 obtain ⟨v0, v1, y0, y1, n, rfl, rfl, -, h0, h1⟩ := Go.Joins.open_agg2 Try.underlying27 (by kernel_rfl) (by kernel_rfl) hok h;simp only [DataW.weights, Try.underlying27] at hs;obtain ⟨bs, hb, hbl⟩ := Zhl h0 (Zad (j := 0) hs rfl rfl);obtain ⟨ws, hl, hll⟩ := Zlo h1 (Zad (j := 1) hs rfl rfl);exact ⟨v0, v1, ⟨bs, ws⟩, rfl, hb, hl, hbl, hll⟩
end
end Go.Proofs.Ytljogbielflgdac
