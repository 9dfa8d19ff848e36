import Derived.Test.YtpdnapbchcdhlaaIdxP
set_option maxHeartbeats 8000000
namespace Go.Proofs.Ytpdnapbchcdhlaa
set_option maxRecDepth 100000
open Go.RowKit Go.ChangeShapes Go.WideShapes Go.ChangeAt Go.Deep
open Plain Reg
variable {cs : List Value} {fuel : Nat} {v : Value}
section
variable {H : Type} {enc : TypeId × Value → H} {W : World}
theorem Zgb {α : Type} (i0 : Inhabited α) (sh : Xh α) {t : TypeId} {fuel : Nat} {v : Value} {x : DataW H × List MemPlace} (ht : Try.prog.underlying t = some (.slice sh.T)) (hc : Try.prog.cellsOf sh.T = sh.size) (hz : 0 < sh.size) {by_ : Nat} (hby : Try.prog.bytesOf sh.T = by_)
  (hopen : ∀ (fuel : Nat) (cs : List Value) (y : DataW H × List MemPlace), DataW.trod enc Try.prog W 0 (fun _ => true) true fuel sh.T cs = some y → ∃ z : α, sh.enc (fun b => b < W.heap.size) W z cs)
  (h : DataW.trod enc Try.prog W 0 (fun _ => true) true fuel t [v] = some x) (hs : (x.1.weights Try.prog t).all (· ≤ reachBytes) = true) :
  ∃ xs, Z5 sh (fun b => b < W.heap.size) W v xs ∧ xs.length * by_ ≤ 140737488351232 := by
 rcases open_slice ht h with ⟨hcs, _⟩ | ⟨a, len, cap, m, n, D, Pl, hcs, _, hl, hm, hmm, hx, hV⟩
 ·simp only [List.cons.injEq, and_true] at hcs;subst hcs;exact ⟨[], .inl ⟨none, 0, rfl, rfl, fun _ => rfl⟩, by simp⟩
 ·simp only [List.cons.injEq, and_true] at hcs;subst hcs;have hmc : m = cap := by simpa using hmm
  subst hmc;have hex : ∀ i, i < len → ∃ z : α, ∃ cs, sh.enc (fun b => b < W.heap.size) W z cs ∧ ∀ (j : Nat) (u : Value), cs[j]? = some u → W.cell? (a.add (i * sh.size + j)) = some u := by
   intro i hi;obtain ⟨cs, h1, h2⟩ := hV i (by omega);rw [hc] at h1;obtain ⟨_, hlen, hcell⟩ := World.cells?_some h1;obtain ⟨z, hz⟩ := hopen _ _ _ h2;refine ⟨z, cs, hz, fun j u hj => ?_⟩;have hjl := (List.getElem?_eq_some_iff.1 hj).1;have := hcell j (by omega);rw [add_add] at this;rw [this]; exact hj
  obtain ⟨f, hf⟩ := choose_lt hex;subst hx;have hw : len * by_ ≤ reachBytes := by
   have h3 := (List.all_eq_true.1 hs) ((((List.range len).map D).length + ((List.range (m - len)).map fun j => D (len + j)).length) * Try.prog.bytesOf sh.T) (by simp [DataW.weights, ht]);rw [hby] at h3;simp only [List.length_map, List.length_range, decide_eq_true_eq] at h3;exact Nat.le_trans (Nat.mul_le_mul_right _ (by omega)) h3
  refine ⟨(List.range len).map f, ?_, by simp [reachBytes] at hw ⊢; omega⟩;by_cases h0 : len = 0
  ·subst h0;exact .inl ⟨some a, m, rfl, by simp, fun h => by cases h⟩
  ·obtain ⟨cs0, e1, e2⟩ := hf 0 (by omega);have hl0 := sh.len e1;have e3 := e2 0 cs0[0] (List.getElem?_eq_getElem (by omega));rw [Nat.zero_mul, Nat.zero_add] at e3;obtain ⟨b, off, rfl⟩ := Kq e3;refine .inr ⟨b, off, m, ?_, by simp, by simpa using hl, fun i hi => ?_⟩
   ·rw [Kb] at e3;exact Zn e3
   ·obtain ⟨cs, k1, k2⟩ := hf i (by simpa using hi);refine ⟨cs, by simpa using k1, fun j u hj => ?_⟩;have := k2 j u hj;rw [Kb] at this;rw [Nat.add_assoc]; exact this
theorem Zfz {x : DataW H × List MemPlace} (h : DataW.trod enc Try.prog W 0 (fun _ => true) true fuel 32 cs = some x) : ∃ (r : Rec) (u : Value), cs = [.int .i64 r.kind, .int .i64 r.key, .int .i64 r.ver, u] ∧ Bytes W u r.data := by
 obtain ⟨y0, y1, y2, y3, m, hx, hl, h0, h1, h2, h3⟩ := Go.Joins.trod_struct4 Try.underlying32 h;have hc4 : Try.prog.cellsOf 32 = 4 := by kernel_rfl
 have t0 : Try.prog.cellsOf 3 = 1 := by kernel_rfl
 have t1 : Try.prog.cellsOf 22 = 1 := by kernel_rfl
 rw [hc4] at hl
 match cs, hl with
 | [c0, c1, c2, c3], _ =>
  simp only [t0, t1, List.drop_zero, List.drop_succ_cons, List.take_succ_cons, List.take_zero] at h0 h1 h2 h3;obtain ⟨a0, e0, f0, -⟩ := DataW.trod_int Try.underlying3 h0;obtain ⟨a1, e1, f1, -⟩ := DataW.trod_int Try.underlying3 h1;obtain ⟨a2, e2, f2, -⟩ := DataW.trod_int Try.underlying3 h2;simp only [List.cons.injEq, and_true] at e0 e1 e2;subst e0; subst e1; subst e2;obtain ⟨l, hb⟩ := Vu h3;exact ⟨⟨a0, a1, a2, l⟩, c3, rfl, hb⟩
theorem Zbj {x : DataW H × List MemPlace} (h : DataW.trod enc Try.prog W 0 (fun _ => true) true fuel 71 cs = some x) : ∃ (e : Ent) (u : Value), cs = [.int .i64 e.rc.kind, .int .i64 e.rc.key, .int .i64 e.rc.ver, u, .int .i64 e.pair] ∧ Bytes W u e.rc.data ∧ (Lit.int .i64 e.pair).wf = true := by
 obtain ⟨y0, y1, m, hx, hl, h0, h1⟩ := trod_struct2 Try.underlying71 h;have hc5 : Try.prog.cellsOf 71 = 5 := by kernel_rfl
 have hc4 : Try.prog.cellsOf 32 = 4 := by kernel_rfl
 have t0 : Try.prog.cellsOf 3 = 1 := by kernel_rfl
 rw [hc5] at hl
 match cs, hl with
 | [c0, c1, c2, c3, c4], _ =>
  simp only [t0, hc4, List.drop_zero, List.drop_succ_cons, List.take_succ_cons, List.take_zero] at h0 h1;obtain ⟨r, u, e0, hb⟩ := Zfz h0;obtain ⟨a1, e1, f1, hw⟩ := DataW.trod_int Try.underlying3 h1;simp only [List.cons.injEq, and_true] at e0 e1;obtain ⟨rfl, rfl, rfl, rfl⟩ := e0;subst e1;exact ⟨⟨r, a1⟩, c3, rfl, hb, hw⟩
theorem Zgd {x : DataW H × List MemPlace} (h : DataW.trod enc Try.prog W 0 (fun _ => true) true fuel 69 [v] = some x) (hs : (x.1.weights Try.prog 69).all (· ≤ reachBytes) = true) : ∃ l, Yl (fun b => b < W.heap.size) W v l ∧ l.length ≤ 2513169434917 := by
 obtain ⟨l, h1, h2⟩ := Zgb ⟨⟨⟨0, 0, 0, []⟩, 0⟩⟩ Yc Try.underlying69 (by kernel_rfl) (by decide) (by_ := 56) (by kernel_rfl) (fun _ cs _ h => by
  obtain ⟨e, u, rfl, hb, -⟩ := Zbj h;exact ⟨e, u, rfl, Qx hb⟩) h hs
 exact ⟨l, h1, by omega⟩
theorem Zh8 {r : Reach} {b0 : Nat} {d : DataW H} {p : List MemPlace} (hok : Value.okWide Try.prog W r b0 71 v) (h : DataW.Trod enc Try.prog W 0 (fun _ => true) true 71 v d p) :
  ∃ (e : Ent) (ao : Option Addr) (cp : Nat), v = .agg #[.int .i64 e.rc.kind, .int .i64 e.rc.key, .int .i64 e.rc.ver, .slice ao e.rc.data.length cp, .int .i64 e.pair] ∧ Bytes W (.slice ao e.rc.data.length cp) e.rc.data ∧ (Lit.int .i64 e.pair).wf = true := by
 obtain ⟨cs, rfl, hsz⟩ := okWide_struct Try.underlying71 hok;obtain ⟨fuel, hf⟩ := h;obtain ⟨e, u, hcs, hb, hw⟩ := Zbj hf;obtain ⟨ao, cp, rfl, -, -⟩ := Yn hb;refine ⟨e, ao, cp, ?_, hb, hw⟩
 congr 1
 have : cs.toList = _ := hcs;rw [← Array.toList_inj, this]
end
end Go.Proofs.Ytpdnapbchcdhlaa
