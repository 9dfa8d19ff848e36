import Derived.Test.YtpdnapbchcdhlaaIdxD
import Derived.Test.YtpdnapbchcdhlaaIdxF
import Derived.Test.YtpdnapbchcdhlaaIdxH
import Derived.ProofKit
import Derived.OpenShut
import Derived.SizedLaws
import Derived.Lib.SmallJoins
import Derived.Deep.SlicePairs
set_option maxHeartbeats 8000000
namespace Go.Proofs.Ytpdnapbchcdhlaa
set_option maxRecDepth 100000
open Go.RowKit
open Plain Reg
variable {l : List Ent}
theorem Ze3 {r : Rec} (h : Z2 r = 0) : r.data.length ≤ 8 := (Zhr h).2.2.2.2.2.2
theorem Ky (h : Xq l = true) : ∀ x ∈ l, x.rc.data.length ≤ 8 := fun x hx => Ze3 (((Xy l).1 h).2 x hx).1
theorem Zjk (h : Xq l = true) : ∀ x ∈ l, 0 ≤ x.pair := fun x hx => (((Xy l).1 h).2 x hx).2.2.1
theorem Qi (h : Xq l = true) : l.length ≤ 1000000 := by have := right_len h; omega
theorem Zk9 : Zj9 := fun S l v w _ hr hl => (Zhv S l v w hl (Qi hr) (Ky hr)).mono fun _ _ ⟨v', _, h1, h2, h3⟩ => ⟨v', h1, h2.from.mono fun _ h => .inr h, h3⟩
theorem Zks : Zjc := fun S l p v w _ hr hl => (Zf8 S l p v w hl (Qi hr) (Ky hr)).mono fun _ w' ⟨v', _, h1, h2, h3⟩ => ⟨v', h1, by
 have h4 := h2.from.mono (S' := Qg S w.heap.size) fun _ h => .inr h
 have e : (l.filter fun x => x.pair != p) = X1 l p := by
  unfold X1
  congr 1
  funext x
  by_cases h : x.pair = p <;> simp [h]
 rw [← e]; exact h4, h3⟩
theorem Zlc : Zka := fun S l e a c v w _ hr hne hw hl hb => (Zh0 S l e a c v w hl (Qi hr) (Ky hr) (Ze3 hw) hne hb).mono fun _ w' ⟨v', h1, h2, h3⟩ => ⟨v', h1, by
 rw [Vy, ← K1 e l ((Xy l).1 hr).1 hne];exact h2.mono fun _ h => .inr h, h3⟩
theorem Zkp : Zi9 := fun S l key v w _ hr hl => Zf4 S l key v w hl (Qi hr) (Ky hr)
theorem Zkr : Zjb := fun S l key ver v w _ hr hl => Zf7 S l key ver v w hl (Qi hr) (Ky hr)
theorem Zkq : Zja := fun S l pairs v w hr _ hl => Zf6 S l pairs v w hl (Qi hr) (Zjk hr)
theorem Zko : Zi8 := fun S d v w _ hF hd => (Zf2 d v w (hF.mono (by omega)) hd.p).mono fun _ w' ⟨v', h1, h2, h3⟩ => ⟨v', h1, h2.mono fun _ h => .inr h, h3⟩
end Go.Proofs.Ytpdnapbchcdhlaa
namespace Go.Proofs.Ytpdnapbchcdhlaa
set_option maxRecDepth 100000
open Go.RowKit Go.ChangeShapes Go.WideShapes Go.ChangeAt
open Plain Reg
theorem Zjf {n : Int} (h : (Lit.int .u8 n).wf = true) : 0 ≤ n ∧ n < 256 := by
 have : 0 ≤ n ∧ n ≤ 255 := by simpa [Lit.wf, IntKind.min, IntKind.max, IntKind.signed, IntKind.bits] using h
 omega
def Vm (zs : List Int) : List UInt8 := zs.map fun n => UInt8.ofNat n.toNat
theorem Zg1 {w : World} {x : Addr} {len cap : Nat} {zs : List Int} (hl : len ≤ cap) (hz : zs.length = cap)
  (hc : ∀ i, i < zs.length → w.cell? (x.add i) = some (.int .u8 (zs.getD i 0))) (hw : ∀ n ∈ zs, (Lit.int .u8 n).wf = true) :
  Bytes w (.slice (some x) len cap) (Vm (zs.take len)) := by
 have e : (Vm (zs.take len)).length = len := by simp [Vm]; omega
 by_cases h0 : len = 0
 ·subst h0;exact .inl ⟨some x, cap, rfl, by simp [Vm], fun h => by cases h⟩
 ·obtain ⟨b, off, rfl, hc'⟩ := ints_at hc (by omega);refine .inr ⟨b, off, cap, by rw [e], by omega, fun i hi => ?_⟩;have hi' : i < zs.length := by omega
  rw [hc' i hi'];have h1 : zs.getD i 0 = zs[i] := by rw [List.getD_eq_getElem?_getD, List.getElem?_eq_getElem hi']; rfl
  have h2 := Zjf (hw zs[i] (List.getElem_mem hi'));have h3 : ((Vm (zs.take len))[i].toNat : Int) = zs[i] := by
   simp only [Vm, List.getElem_map, List.getElem_take];rw [UInt8.toNat_ofNat'];omega
  rw [h1, h3]
end Go.Proofs.Ytpdnapbchcdhlaa
namespace Go.Proofs.Ytpdnapbchcdhlaa
set_option maxRecDepth 100000
open Go.RowKit Go.ChangeShapes Go.WideShapes Go.ChangeAt Go.Deep
open Plain Reg
section
variable {H : Type} {enc : TypeId × Value → H} {W : World}
theorem J5 {P : Program} {ts : List TypeId} {ds : List (DataW H)} (h : (DataW.weightsEach P ts ds).all (· ≤ reachBytes) = true) {j : Nat} {t : TypeId} {d : DataW H} (ht : ts[j]? = some t) (hd : ds[j]? = some d) : (d.weights P t).all (· ≤ reachBytes) = true := by
 rw [List.all_eq_true] at h ⊢;exact fun n hn => h n (DataW.weights_mem_each ht hd n hn)
end
end Go.Proofs.Ytpdnapbchcdhlaa
namespace Go.Proofs.Ytpdnapbchcdhlaa
set_option maxRecDepth 100000
open Go.RowKit Go.ChangeShapes Go.WideShapes Go.ChangeAt Go.Deep
open Plain Reg
variable {fuel : Nat} {v : Value}
section
variable {H : Type} {enc : TypeId × Value → H} {W : World}
theorem Kq {a : Addr} {u : Value} (h : W.cell? (a.add 0) = some u) : ∃ b off, a = ⟨b, off, none⟩ := by
 obtain ⟨b, off, spot⟩ := a;cases spot with
 | none => exact ⟨b, off, rfl⟩
 | some s =>
  exfalso;unfold World.cell? Addr.add at h;simp only [if_true] at h;split at h <;> simp_all
theorem Kb (b off i : Nat) : (⟨b, off, none⟩ : Addr).add i = ⟨b, off + i, none⟩ := by
 unfold Addr.add;split
 ·rename_i h; rw [h]; rfl
 ·rfl
theorem Vu {x : DataW H × List MemPlace} (h : DataW.trod enc Try.prog W 0 (fun _ => true) true fuel 22 [v] = some x) : ∃ l, Bytes W v l := by
 rcases open_ints Try.underlying22 Try.underlying5 (by kernel_rfl) h with ⟨hcs, _⟩ | ⟨a, len, cap, zs, hcs, _, hl, hm, hz, hx, hcell, hwz⟩
 ·simp only [List.cons.injEq, and_true] at hcs;subst hcs;exact ⟨[], .inl ⟨none, 0, rfl, rfl, fun _ => rfl⟩⟩
 ·simp only [List.cons.injEq, and_true] at hcs;subst hcs;have hzz : zs.length = cap := by simpa using hz
  exact ⟨Vm (zs.take len), Zg1 hl hzz hcell hwz⟩
theorem Zcx {x : DataW H × List MemPlace} (h : DataW.trod enc Try.prog W 0 (fun _ => true) true fuel 43 [v] = some x) (hs : (x.1.weights Try.prog 43).all (· ≤ reachBytes) = true) :
  ∃ bs, Xe W v bs ∧ bs.length ≤ 5864062014806 := by
 rcases open_slice1 Try.underlying43 (by kernel_rfl) h with ⟨hcs, _⟩ | ⟨a, len, cap, m, n, V, D, Pl, hcs, _, hl, hm, hmm, hx, hV⟩
 ·simp only [List.cons.injEq, and_true] at hcs;subst hcs;exact ⟨[], .inl ⟨none, 0, rfl, rfl, fun _ => rfl⟩, by simp⟩
 ·simp only [List.cons.injEq, and_true] at hcs;subst hcs;have hmc : m = cap := by simpa using hmm
  subst hmc;have hex : ∀ i, i < len → ∃ l, W.cell? (a.add i) = some (V i) ∧ Bytes W (V i) l := by
   intro i hi;obtain ⟨h1, h2⟩ := hV i (by omega);obtain ⟨l, hb⟩ := Vu h2;exact ⟨l, h1, hb⟩
  obtain ⟨f, hf⟩ := choose_lt hex;subst hx;have hw : len * 24 ≤ reachBytes := by
   have h3 := (List.all_eq_true.1 hs) ((((List.range len).map D).length + ((List.range (m - len)).map fun j => D (len + j)).length) * Try.prog.bytesOf 22) (by simp [DataW.weights, Try.underlying43]);rw [show Try.prog.bytesOf 22 = 24 from by kernel_rfl] at h3;simp at h3;omega
  refine ⟨(List.range len).map f, ?_, by simp [reachBytes] at hw ⊢; omega⟩;by_cases h0 : len = 0
  ·subst h0;exact .inl ⟨some a, m, rfl, by simp, fun h => by cases h⟩
  ·obtain ⟨b, off, rfl⟩ := Kq (hf 0 (by omega)).1;refine .inr ⟨b, off, m, by simp, by simpa using hl, fun i hi => ⟨V i, ?_, ?_⟩⟩
   ·have := (hf i (by simpa using hi)).1;rw [Kb] at this;exact this.trans (by simp)
   ·have := (hf i (by simpa using hi)).2;simpa using this
theorem Zgc {x : DataW H × List MemPlace} (h : DataW.trod enc Try.prog W 0 (fun _ => true) true fuel 44 [v] = some x) (hs : (x.1.weights Try.prog 44).all (· ≤ reachBytes) = true) :
  ∃ ws, Qs W v ws ∧ ws.length ≤ 5864062014806 := by
 rcases open_slice_pairs Try.underlying44 Try.underlying60 (by kernel_rfl) rfl rfl (by kernel_rfl) (by kernel_rfl) h with ⟨hcs, _⟩ | ⟨a, len, cap, m, n, V0, V1, D0, D1, P0, P1, hcs, _, hl, hm, hmm, hx, hV⟩
 ·simp only [List.cons.injEq, and_true] at hcs;subst hcs;exact ⟨[], .inl ⟨none, 0, rfl, rfl, fun _ => rfl⟩, by simp⟩
 ·simp only [List.cons.injEq, and_true] at hcs;subst hcs;have hmc : m = cap := by simpa using hmm
  subst hmc;have hex : ∀ i, i < len → ∃ x : Wr, W.cell? (a.add (i * 2)) = some (.int .i64 x.1) ∧ W.cell? (a.add (i * 2 + 1)) = some (V1 i) ∧ Bytes W (V1 i) x.2 := by
   intro i hi;obtain ⟨h1, h2, h3, h4⟩ := hV i (by omega);obtain ⟨l, hb⟩ := Vu h4;obtain ⟨q, hq, -, -⟩ := DataW.trod_int Try.underlying3 h3;simp only [List.cons.injEq, and_true] at hq;rw [hq] at h1;exact ⟨(q, l), h1, h2, hb⟩
  obtain ⟨f, hf⟩ := choose_lt hex;subst hx;have hw : len * 32 ≤ reachBytes := by
   have h3 := (List.all_eq_true.1 hs) ((((List.range len).map fun i => DataW.agg [D0 i, D1 i]).length + ((List.range (m - len)).map fun j => DataW.agg [D0 (len + j), D1 (len + j)]).length) * Try.prog.bytesOf 60) (by simp [DataW.weights, Try.underlying44]);rw [show Try.prog.bytesOf 60 = 32 from by kernel_rfl] at h3;simp at h3;omega
  refine ⟨(List.range len).map f, ?_, by simp [reachBytes] at hw ⊢; omega⟩;by_cases h0 : len = 0
  ·subst h0;exact .inl ⟨some a, m, rfl, by simp, fun h => by cases h⟩
  ·obtain ⟨b, off, rfl⟩ := Kq (hf 0 (by omega)).1;refine .inr ⟨b, off, m, by simp, by simpa using hl, fun i hi => ?_⟩;obtain ⟨k0, k1, k2⟩ := hf i (by simpa using hi);rw [Kb] at k0 k1;exact ⟨by rw [k0]; simp, V1 i, by rw [Nat.add_assoc]; exact k1, by simpa using k2⟩
theorem Zge {r : Reach} {b0 : Nat} {d : DataW H} {p : List MemPlace} (hok : Value.okWide Try.prog W r b0 46 v) (h : DataW.Trod enc Try.prog W 0 (fun _ => true) true 46 v d p)
  (hs : (d.weights Try.prog 46).all (· ≤ reachBytes) = true) :
  ∃ (vb vl : Value) (dk : Dk), v = .agg #[vb, vl] ∧ Xe W vb dk.blocks ∧ Qs W vl dk.late ∧ dk.blocks.length ≤ 5864062014806 ∧ dk.late.length ≤ 5864062014806 := by
 obtain ⟨v0, v1, y0, y1, n, rfl, rfl, -, h0, h1⟩ := Go.Joins.open_agg2 Try.underlying46 (by kernel_rfl) (by kernel_rfl) hok h;simp only [DataW.weights, Try.underlying46] at hs;obtain ⟨bs, hb, hbl⟩ := Zcx h0 (J5 (j := 0) hs rfl rfl);obtain ⟨ws, hl, hll⟩ := Zgc h1 (J5 (j := 1) hs rfl rfl);exact ⟨v0, v1, ⟨bs, ws⟩, rfl, hb, hl, hbl, hll⟩
end
end Go.Proofs.Ytpdnapbchcdhlaa
