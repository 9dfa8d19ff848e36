import Derived.Test.YtpdnapbchcdhlabJArg
import Derived.Test.YtpdnapbchcdhlabRow
set_option maxHeartbeats 8000000
namespace Go.Proofs.Ytpdnapbchcdhlab
set_option maxRecDepth 100000
open Go.RowKit Go.ChangeShapes Go.WideShapes Go.ChangeAt Go.Deep
open Plain Reg
variable {fuel : Nat} {v : Value}
section
variable {H : Type} {enc : TypeId × Value → H} {W : World}
theorem Zah {α : Type} (i0 : Inhabited α) (sh : Yv α) {t : TypeId} {fuel : Nat} {v : Value} {x : DataW H × List MemPlace} (ht : Try.prog.underlying t = some (.slice sh.T)) (hc : Try.prog.cellsOf sh.T = sh.size) (hz : 0 < sh.size) {by_ : Nat} (hby : Try.prog.bytesOf sh.T = by_)
  (hopen : ∀ (fuel : Nat) (cs : List Value) (y : DataW H × List MemPlace), DataW.trod enc Try.prog W 0 (fun _ => true) true fuel sh.T cs = some y → ∃ z : α, sh.enc (fun b => b < W.heap.size) W z cs)
  (h : DataW.trod enc Try.prog W 0 (fun _ => true) true fuel t [v] = some x) (hs : (x.1.weights Try.prog t).all (· ≤ reachBytes) = true) :
  ∃ xs, Zn sh (fun b => b < W.heap.size) W v xs ∧ xs.length * by_ ≤ 140737488351232 := by
 rcases open_slice ht h with ⟨hcs, _⟩ | ⟨a, len, cap, m, n, D, Pl, hcs, _, hl, hm, hmm, hx, hV⟩
 ·simp only [List.cons.injEq, and_true] at hcs;subst hcs;exact ⟨[], .inl ⟨none, 0, rfl, rfl, fun _ => rfl⟩, by simp⟩
 ·simp only [List.cons.injEq, and_true] at hcs;subst hcs;have hmc : m = cap := by simpa using hmm
  subst hmc;have hex : ∀ i, i < len → ∃ z : α, ∃ cs, sh.enc (fun b => b < W.heap.size) W z cs ∧ ∀ (j : Nat) (u : Value), cs[j]? = some u → W.cell? (a.add (i * sh.size + j)) = some u := by
   intro i hi;obtain ⟨cs, h1, h2⟩ := hV i (by omega);rw [hc] at h1;obtain ⟨_, hlen, hcell⟩ := World.cells?_some h1;obtain ⟨z, hz⟩ := hopen _ _ _ h2;refine ⟨z, cs, hz, fun j u hj => ?_⟩;have hjl := (List.getElem?_eq_some_iff.1 hj).1;have := hcell j (by omega);rw [add_add] at this;rw [this]; exact hj
  obtain ⟨f, hf⟩ := choose_lt hex;subst hx;have hw : len * by_ ≤ reachBytes := by
   have h3 := (List.all_eq_true.1 hs) ((((List.range len).map D).length + ((List.range (m - len)).map fun j => D (len + j)).length) * Try.prog.bytesOf sh.T) (by simp [DataW.weights, ht]);rw [hby] at h3;simp only [List.length_map, List.length_range, decide_eq_true_eq] at h3;exact Nat.le_trans (Nat.mul_le_mul_right _ (by omega)) h3
  refine ⟨(List.range len).map f, ?_, by simp [reachBytes] at hw ⊢; omega⟩;by_cases h0 : len = 0
  ·subst h0;exact .inl ⟨some a, m, rfl, by simp, fun h => by cases h⟩
  ·obtain ⟨cs0, e1, e2⟩ := hf 0 (by omega);have hl0 := sh.len e1;have e3 := e2 0 cs0[0] (List.getElem?_eq_getElem (by omega));rw [Nat.zero_mul, Nat.zero_add] at e3;obtain ⟨b, off, rfl⟩ := Jj e3;refine .inr ⟨b, off, m, ?_, by simp, by simpa using hl, fun i hi => ?_⟩
   ·rw [V4] at e3;exact Zr e3
   ·obtain ⟨cs, k1, k2⟩ := hf i (by simpa using hi);refine ⟨cs, by simpa using k1, fun j u hj => ?_⟩;have := k2 j u hj;rw [V4] at this;rw [Nat.add_assoc]; exact this
theorem Zac {cs : List Value} {x : DataW H × List MemPlace} (h : DataW.trod enc Try.prog W 0 (fun _ => true) true fuel 33 cs = some x) : ∃ (r : Rec) (u : Value), cs = [.int .i64 r.kind, .int .i64 r.key, .int .i64 r.ver, u] ∧ Bytes W u r.data := by
 obtain ⟨y0, y1, y2, y3, m, hx, hl, h0, h1, h2, h3⟩ := Go.Joins.trod_struct4 Try.underlying33 h;have hc4 : Try.prog.cellsOf 33 = 4 := by kernel_rfl
 have t0 : Try.prog.cellsOf 3 = 1 := by kernel_rfl
 have t1 : Try.prog.cellsOf 31 = 1 := by kernel_rfl
 rw [hc4] at hl
 match cs, hl with
 | [c0, c1, c2, c3], _ =>
  simp only [t0, t1, List.drop_zero, List.drop_succ_cons, List.take_succ_cons, List.take_zero] at h0 h1 h2 h3;obtain ⟨a0, e0, f0, -⟩ := DataW.trod_int Try.underlying3 h0;obtain ⟨a1, e1, f1, -⟩ := DataW.trod_int Try.underlying3 h1;obtain ⟨a2, e2, f2, -⟩ := DataW.trod_int Try.underlying3 h2;simp only [List.cons.injEq, and_true] at e0 e1 e2;subst e0; subst e1; subst e2;obtain ⟨l, hb⟩ := Kw h3;exact ⟨⟨a0, a1, a2, l⟩, c3, rfl, hb⟩
theorem Qc {x : DataW H × List MemPlace} (h : DataW.trod enc Try.prog W 0 (fun _ => true) true fuel 45 [v] = some x) (hs : (x.1.weights Try.prog 45).all (· ≤ reachBytes) = true) : ∃ l, Zv (fun b => b < W.heap.size) W v l ∧ l.length ≤ 2932031007403 := by
 obtain ⟨l, h1, h2⟩ := Zah ⟨⟨0, 0, 0, []⟩⟩ Zl Try.underlying45 (by kernel_rfl) (by decide) (by_ := 48) (by kernel_rfl) (fun _ cs _ h => by
  obtain ⟨r, u, rfl, hb⟩ := Zac h;exact ⟨r, u, rfl, Q7 hb⟩) h hs
 exact ⟨l, h1, by omega⟩
end
end Go.Proofs.Ytpdnapbchcdhlab
