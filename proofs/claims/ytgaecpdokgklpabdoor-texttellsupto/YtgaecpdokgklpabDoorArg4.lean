/-
  Rows of records and of entries that came in, as the walks want them.
  Condition: as the row reads them.
-/
import Derived.Test.YtgaecpdokgklpabDoorJArg
import Derived.Test.YtgaecpdokgklpabDoorRow
namespace Go.Proofs.YtgaecpdokgklpabDoor
set_option maxRecDepth 100000
open Go.RowKit Go.ChangeShapes Go.WideShapes Go.ChangeAt Go.Deep
open Go.Proofs.YtgaecpdokgklpabDoor.Plain Go.Proofs.YtgaecpdokgklpabDoor.Reg

section
variable {H : Type} {enc : TypeId × Value → H} {W : World}

/-- A row of whatever is known of each of its things. -/
theorem open_rows {α : Type} (i0 : Inhabited α) (sh : Shape α) {t : TypeId} {fuel : Nat} {v : Value} {x : DataW H × List MemPlace} (ht : Tryd.prog.underlying t = some (.slice sh.T)) (hc : Tryd.prog.cellsOf sh.T = sh.size) (hz : 0 < sh.size) {by_ : Nat} (hby : Tryd.prog.bytesOf sh.T = by_)
  (hopen : ∀ (fuel : Nat) (cs : List Value) (y : DataW H × List MemPlace), DataW.trod enc Tryd.prog W 0 (fun _ => true) true fuel sh.T cs = some y → ∃ z : α, sh.enc (fun b => b < W.heap.size) W z cs)
  (h : DataW.trod enc Tryd.prog W 0 (fun _ => true) true fuel t [v] = some x) (hs : (x.1.weights Tryd.prog t).all (· ≤ reachBytes) = true) :
  ∃ xs, SliceS sh (fun b => b < W.heap.size) W v xs ∧ xs.length * by_ ≤ 140737488351232 := by
 rcases open_slice ht h with ⟨hcs, _⟩ | ⟨a, len, cap, m, n, D, Pl, hcs, _, hl, hm, hmm, hx, hV⟩
 ·simp only [List.cons.injEq, and_true] at hcs
  subst hcs
  exact ⟨[], .inl ⟨none, 0, rfl, rfl, fun _ => rfl⟩, by simp⟩
 ·simp only [List.cons.injEq, and_true] at hcs
  subst hcs
  have hmc : m = cap := by simpa using hmm
  subst hmc
  have hex : ∀ i, i < len → ∃ z : α, ∃ cs, sh.enc (fun b => b < W.heap.size) W z cs ∧ ∀ (j : Nat) (u : Value), cs[j]? = some u → W.cell? (a.add (i * sh.size + j)) = some u := by
   intro i hi
   obtain ⟨cs, h1, h2⟩ := hV i (by omega)
   rw [hc] at h1
   obtain ⟨_, hlen, hcell⟩ := World.cells?_some h1
   obtain ⟨z, hz⟩ := hopen _ _ _ h2
   refine ⟨z, cs, hz, fun j u hj => ?_⟩
   have hjl := (List.getElem?_eq_some_iff.1 hj).1
   have := hcell j (by omega)
   rw [add_add] at this
   rw [this]; exact hj
  obtain ⟨f, hf⟩ := choose_lt hex
  subst hx
  have hw : len * by_ ≤ reachBytes := by
   have h3 := (List.all_eq_true.1 hs) ((((List.range len).map D).length + ((List.range (m - len)).map fun j => D (len + j)).length) * Tryd.prog.bytesOf sh.T) (by simp [DataW.weights, ht])
   rw [hby] at h3
   simp only [List.length_map, List.length_range, decide_eq_true_eq] at h3
   exact Nat.le_trans (Nat.mul_le_mul_right _ (by omega)) h3
  refine ⟨(List.range len).map f, ?_, by simp [reachBytes] at hw ⊢; omega⟩
  by_cases h0 : len = 0
  ·subst h0
   exact .inl ⟨some a, m, rfl, by simp, fun h => by cases h⟩
  ·obtain ⟨cs0, e1, e2⟩ := hf 0 (by omega)
   have hl0 := sh.len e1
   have e3 := e2 0 cs0[0] (List.getElem?_eq_getElem (by omega))
   rw [Nat.zero_mul, Nat.zero_add] at e3
   obtain ⟨b, off, rfl⟩ := plain_addr e3
   refine .inr ⟨b, off, m, ?_, by simp, by simpa using hl, fun i hi => ?_⟩
   ·rw [plain_add] at e3
    exact cell_lt e3
   ·obtain ⟨cs, k1, k2⟩ := hf i (by simpa using hi)
    refine ⟨cs, by simpa using k1, fun j u hj => ?_⟩
    have := k2 j u hj
    rw [plain_add] at this
    rw [Nat.add_assoc]; exact this

end
end Go.Proofs.YtgaecpdokgklpabDoor
