/-
  A map from numbers to true, in memory: what is told of it; and what IndexTells goes through, told of lists.
  No program but the types' numbers.
-/
import Derived.Test.YtppgbgfahifanaaIdxC
import Derived.Maps.OwnOps
import Derived.Maps.Views
namespace Go.Proofs.Ytppgbgfahifanaa
set_option maxRecDepth 100000
open Go.RowKit Go.Maps
open Go.Proofs.Ytppgbgfahifanaa.Plain Go.Proofs.Ytppgbgfahifanaa.Reg

theorem plain_bool_inv {H : Type} {P : Program} {e : TypeId} (he : P.underlying e = some .bool) {v : Value} {z : DataW H × List MemPlace} (h : plainElem P e v = some z) : ∃ x, v = .bool x ∧ z = (.lit (.bool x), []) := by
  unfold plainElem at h
  rw [he] at h
  cases v <;> simp at h
  case bool x => exact ⟨x, rfl, h.symm⟩
theorem zero_bool (w : World) : (zeroValue 4).run Try.prog w = .ok (.bool false) w := by kernel_rfl
/-- Block b is a map of at most n entries; it says true of just those numbers of which f does. -/
def SetB (w : World) (b n : Nat) (f : Int → Bool) : Prop := ∃ D : DataW Unit, w.ownsMap Try.prog 3 (plainElem Try.prog 4) b n D ∧ ∀ x : Int, (Lit.int .i64 x).wf = true → D.atKey (.int .i64 x) (.lit (.bool false)) = .lit (.bool (f x))
theorem owns_isMap {H : Type} {w : World} {P : Program} {k : TypeId} {R : Value → Option (DataW H × List MemPlace)} {b n : Nat} {D : DataW H} (h : w.ownsMap P k R b n D) : IsMap D := by
  obtain ⟨es, clock, _, _, _, rfl⟩ := h; exact ⟨_, rfl⟩
theorem SetB.made (w : World) : SetB (w.alloc (.map #[] 0)) w.heap.size 0 (fun _ => false) := ⟨.map [], World.ownsMap_made _ _ _ _, fun _ _ => rfl⟩
theorem SetB.lt {w : World} {b n : Nat} {f : Int → Bool} (h : SetB w b n f) : b < w.heap.size := by
  obtain ⟨D, h1, _⟩ := h; exact h1.lt
theorem SetB.same {w w' : World} {b n : Nat} {f : Int → Bool} (h : SetB w b n f) (hb : w'.heap[b]? = w.heap[b]?) : SetB w' b n f := by
  obtain ⟨D, ⟨es, clock, h1, h2⟩, h3⟩ := h
  exact ⟨D, ⟨es, clock, hb.trans h1, h2⟩, h3⟩
theorem SetB.grow {w w' : World} {b n : Nat} {f : Int → Bool} (h : SetB w b n f) (hg : Grow w w') : SetB w' b n f := h.same (hg.block _ h.lt)
theorem SetB.ask {w : World} {b n : Nat} {f : Int → Bool} (h : SetB w b n f) (x : Int) (hx : (Lit.int .i64 x).wf = true) : (Instr.lookup 75 (.map (some b)) (.int .i64 x) false).run Try.prog w = .ok (.bool (f x)) w := by
  obtain ⟨D, h1, h2⟩ := h
  obtain ⟨v, ps, hrun, hv⟩ := h1.lookup (int_keyed Try.underlying3) Try.underlying75 (zero_bool w) (plainElem_bool Try.underlying4 false) (keyOf_int_mk Try.underlying3 hx)
  obtain ⟨c, rfl, hc⟩ := plain_bool_inv Try.underlying4 hv
  simp only [Prod.mk.injEq] at hc
  have := h2 x hx
  rw [this] at hc
  have hcc : f x = c := by injection hc.1 with h; injection h
  rw [hcc]; exact hrun
theorem GrowBut.grown {g : Nat} {w w' : World} (h : w.grownBy w' (some g)) : GrowBut g w w' := ⟨h.os, h.tape, h.output, h.size, fun k hk hg => h.block k hk (by intro e; exact hg (Option.some.inj e))⟩
theorem SetB.put {w : World} {b n : Nat} {f : Int → Bool} (h : SetB w b n f) (x : Int) (hx : (Lit.int .i64 x).wf = true) (hn : n < 1000000) :
    ∃ w', (Instr.mapUpdate 75 (.map (some b)) (.int .i64 x) (.bool true)).run Try.prog w = .ok () w' ∧ SetB w' b (n + 1) (fun y => decide (y = x) || f y) ∧ GrowBut b w w' := by
  obtain ⟨D, h1, h2⟩ := h
  obtain ⟨w', hrun, h3, h4⟩ := h1.update (int_keyed Try.underlying3) Try.underlying75 (by unfold maxLen; omega) (keyOf_int_mk Try.underlying3 hx) (plainElem_bool Try.underlying4 true)
  refine ⟨w', hrun, ⟨_, h3, fun y hy => ?_⟩, GrowBut.grown h4⟩
  by_cases e : y = x
  · subst e
    rw [atKey_put_same (owns_isMap h1) (show WideAt.IsKeyLit (.int .i64 y) from trivial)]
    simp
  · rw [atKey_put_other (by intro e2; injection e2 with _ e2; exact e e2), h2 y hy]
    simp [e]
theorem SetB.on {w : World} {b n m : Nat} {f g : Int → Bool} (h : SetB w b n f) (hf : ∀ x, f x = g x) (hn : n ≤ m) : SetB w b m g := by
  obtain ⟨D, h1, h2⟩ := h
  exact ⟨D, h1.mono hn, fun x hx => by rw [h2 x hx, hf x]⟩
theorem OutR.other {α : Type} {sh : Shape α} {S0 : Nat → Prop} {B q : Nat} {v : Value} {xs : List α} {css : List (List Value)} {w w' : World} (h : OutR sh S0 B v xs css w) (hg : GrowBut q w w') (hq : q < B) (hn : ¬ S0 q) : OutR sh S0 B v xs css w' := by
  have hne : ∀ b, InS S0 B w b → b ≠ q := by
    rintro b (h1 | ⟨h1, _⟩) rfl
    · exact hn h1
    · omega
  refine ⟨h.len, fun i hi => (h.each i hi).imp fun _ x => ⟨x.1, sh.mono (sh.keep x.2 fun b hb hlt => hg.block b hlt (hne b hb)) fun b hb => ?_⟩, ?_⟩
  · exact or_map hb (fun x => x) fun ⟨k1, c, f, k2⟩ => ⟨k1, c, f, (hg.block b (heap_lt k2) (by omega)).trans k2⟩
  · have hr := h.row
    refine ⟨hr.1, or_map hr.2 (fun x => x) fun ⟨g, cap, cur, h1, h2, h3, r⟩ => ⟨g, cap, cur, h1, h2, ?_, r⟩⟩
    rw [hg.block _ (heap_lt h3) (by omega)]; exact h3

/-! ### What is gone through, told of lists -/

def LastIs (l : List Ent) (key : Int) (k : Nat) (n : Int) : Prop := (lastOf (l.take k) key = none ∧ n = -1) ∨ ∃ (i : Nat) (h : i < l.length), n = (i : Int) ∧ lastOf (l.take k) key = some l[i]
def FoundIs (l : List Ent) (key ver : Int) (k : Nat) (n : Int) : Prop := (findOf (l.take k) key ver = none ∧ n = -1) ∨ ∃ (i : Nat) (h : i < l.length), n = (i : Int) ∧ findOf (l.take k) key ver = some l[i]
theorem last_hit {l : List Ent} {key : Int} {k : Nat} (h : k < l.length) (hk : l[k].rc.key = key) : LastIs l key (k + 1) (k : Int) := by
  refine .inr ⟨k, h, rfl, ?_⟩
  unfold lastOf
  rw [List.take_succ_eq_append_getElem h, List.filter_append, List.getLast?_append]
  simp [hk]
theorem last_miss {l : List Ent} {key : Int} {k : Nat} {n : Int} (h : k < l.length) (hk : l[k].rc.key ≠ key) (hl : LastIs l key k n) : LastIs l key (k + 1) n := by
  have e : lastOf (l.take (k + 1)) key = lastOf (l.take k) key := by
    unfold lastOf
    rw [List.take_succ_eq_append_getElem h, List.filter_append]
    simp [hk]
  unfold LastIs
  rw [e]; exact hl
theorem found_hit {l : List Ent} {key ver : Int} {k : Nat} {n : Int} (h : k < l.length) (hk : l[k].rc.key = key ∧ l[k].rc.ver = ver) (hl : FoundIs l key ver k n) (hn : n < 0) : FoundIs l key ver (k + 1) (k : Int) := by
  rcases hl with ⟨h1, -⟩ | ⟨i, h1, h2, -⟩
  · refine .inr ⟨k, h, rfl, ?_⟩
    unfold findOf at h1 ⊢
    rw [List.take_succ_eq_append_getElem h, List.find?_append, h1]
    simp [hk]
  · omega
theorem found_kept {l : List Ent} {key ver : Int} {k : Nat} {n : Int} (h : k < l.length) (hl : FoundIs l key ver k n) (hn : 0 ≤ n) : FoundIs l key ver (k + 1) n := by
  rcases hl with ⟨-, h1⟩ | ⟨i, h1, h2, h3⟩
  · omega
  · refine .inr ⟨i, h1, h2, ?_⟩
    unfold findOf at h3 ⊢
    rw [List.take_succ_eq_append_getElem h, List.find?_append, h3]; rfl
theorem found_miss {l : List Ent} {key ver : Int} {k : Nat} {n : Int} (h : k < l.length) (hk : ¬ (l[k].rc.key = key ∧ l[k].rc.ver = ver)) (hl : FoundIs l key ver k n) : FoundIs l key ver (k + 1) n := by
  have e : findOf (l.take (k + 1)) key ver = findOf (l.take k) key ver := by
    unfold findOf
    rw [List.take_succ_eq_append_getElem h, List.find?_append]
    cases (l.take k).find? _ with
    | some x => rfl
    | none => simp [hk]
  unfold FoundIs
  rw [e]; exact hl
theorem LastIs.bd {l : List Ent} {key : Int} {k : Nat} {n : Int} (h : LastIs l key k n) : -1 ≤ n ∧ n < (l.length : Int) := by
  rcases h with ⟨_, rfl⟩ | ⟨i, h1, rfl, _⟩ <;> omega
theorem FoundIs.bd {l : List Ent} {key ver : Int} {k : Nat} {n : Int} (h : FoundIs l key ver k n) : -1 ≤ n ∧ n < (l.length : Int) := by
  rcases h with ⟨_, rfl⟩ | ⟨i, h1, rfl, _⟩ <;> omega
theorem drop_next (l : List Ent) (p : Int) (k : Nat) (h : k < l.length) : dropE (l.take (k + 1)) p = dropE (l.take k) p ++ (if l[k].pair = p then [] else [l[k]]) := by
  unfold dropE
  rw [List.take_succ_eq_append_getElem h, List.filter_append]
  by_cases e : l[k].pair = p
  · simp [e]
  · simp [e]
def usedB (l : List Ent) (y : Int) : Bool := l.any fun x => decide (y = x.pair)
theorem used_next (l : List Ent) (k : Nat) (h : k < l.length) (y : Int) : (decide (y = l[k].pair) || usedB (l.take k) y) = usedB (l.take (k + 1)) y := by
  unfold usedB
  rw [List.take_succ_eq_append_getElem h, List.any_append]
  simp [Bool.or_comm]
theorem used_iff (l : List Ent) (y : Int) : usedB l y = true ↔ ∃ x ∈ l, x.pair = y := by
  unfold usedB
  rw [List.any_eq_true]
  exact ⟨fun ⟨x, h1, h2⟩ => ⟨x, h1, (of_decide_eq_true h2).symm⟩, fun ⟨x, h1, h2⟩ => ⟨x, h1, by simp [h2]⟩⟩
theorem wf_small {x : Int} (h0 : 0 ≤ x) (h1 : x ≤ 1000000) : (Lit.int .i64 x).wf = true := WalkArith.wf_i64 (by omega)
end Go.Proofs.Ytppgbgfahifanaa
