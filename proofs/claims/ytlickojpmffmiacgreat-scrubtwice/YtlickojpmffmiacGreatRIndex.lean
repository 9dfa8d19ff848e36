import Derived.Test.YtlickojpmffmiacGreatRScan
import Derived.Test.YtlickojpmffmiacGreatPairC
import Derived.Maps.OwnOps
import Derived.Maps.Views
set_option maxHeartbeats 8000000
namespace Go.Proofs.YtlickojpmffmiacGreat
set_option maxRecDepth 100000
open Go.RowKit
open Plain Reg
/-- Behind these, this one is right: rising, of a right record, in a pair that none of them has. -/
def lastLess (pre : List Ent) (e : Ent) : Bool := match pre.getLast? with | none => true | some x => lessB x e
def okE (pre : List Ent) (e : Ent) : Bool := decide (wrong e.rc = 0 ∧ e.rc.kind ≠ 1 ∧ 0 ≤ e.pair ∧ e.pair ≤ 1000) && lastLess pre e && pre.all (fun x => decide (x.pair ≠ e.pair))
def rightFrom (pre : List Ent) : List Ent → Bool
 | [] => true
 | e :: l => okE pre e && rightFrom (pre ++ [e]) l
def rightI (l : List Ent) : Bool := rightFrom [] l
end Go.Proofs.YtlickojpmffmiacGreat
namespace Go.Proofs.YtlickojpmffmiacGreat
set_option maxRecDepth 100000
open Plain
/-! ### Into its place -/
def insR (e : Ent) : List Ent → List Ent
 | [] => [e]
 | x :: l => if lessB e x = true then e :: x :: l else x :: insR e l
theorem insSt_done (e : Ent) : ∀ (l pre : List Ent), l.foldl (insStep e) (pre, true) = (pre ++ l, true)
 | [], pre => by simp
 | x :: l, pre => by
  rw [List.foldl_cons, show insStep e (pre, true) x = (pre ++ [x], true) from by simp [insStep], insSt_done e l]
  simp
theorem insSt_rec (e : Ent) : ∀ (l pre : List Ent), (if (l.foldl (insStep e) (pre, false)).2 = true then (l.foldl (insStep e) (pre, false)).1 else (l.foldl (insStep e) (pre, false)).1 ++ [e]) = pre ++ insR e l
 | [], pre => by simp [insR]
 | x :: l, pre => by
  rw [List.foldl_cons]
  by_cases h : lessB e x = true
  ·rw [show insStep e (pre, false) x = (pre ++ [e] ++ [x], true) from by simp [insStep, h], insSt_done]
   simp [insR, h]
  ·rw [show insStep e (pre, false) x = (pre ++ [x], false) from by simp [insStep, h], insSt_rec e l]
   simp [insR, h]
theorem insertE_rec (e : Ent) (l : List Ent) : insertE e l = insR e l := by
 have := insSt_rec e l []
 unfold insertE insSt
 simpa using this
theorem insR_mem (e x : Ent) : ∀ l : List Ent, x ∈ insR e l ↔ x = e ∨ x ∈ l
 | [] => by simp [insR]
 | y :: l => by
  have ih := insR_mem e x l
  unfold insR
  split
  ·simp
  ·simp [ih]
   constructor
   ·rintro (h | h | h)
    ·exact .inr (.inl h)
    ·exact .inl h
    ·exact .inr (.inr h)
   ·rintro (h | h | h)
    ·exact .inr (.inl h)
    ·exact .inl h
    ·exact .inr (.inr h)
theorem insertE_mem (e x : Ent) (l : List Ent) : x ∈ insertE e l ↔ x = e ∨ x ∈ l := by rw [insertE_rec]; exact insR_mem e x l
/-! ### The order -/
theorem less_trans {a b c : Ent} (h1 : lessB a b = true) (h2 : lessB b c = true) : lessB a c = true := by
 unfold lessB at h1 h2 ⊢
 split at h1 <;> split at h2 <;> split <;> try split at h1 <;> try split at h2 <;> try split
 all_goals simp only [decide_eq_true_eq] at *
 all_goals first | omega | (split at h2 <;> simp only [decide_eq_true_eq] at * <;> first | omega | (split <;> simp only [decide_eq_true_eq] at * <;> omega)) | (split <;> simp only [decide_eq_true_eq] at * <;> omega)
theorem less_total {a b : Ent} (h : ¬ lessB a b = true) (hp : a.pair ≠ b.pair) : lessB b a = true := by
 unfold lessB at h ⊢
 by_cases hk : a.rc.key = b.rc.key
 ·rw [if_pos hk] at h
  rw [if_pos hk.symm]
  by_cases hv : a.rc.ver = b.rc.ver
  ·rw [if_pos hv] at h
   rw [if_pos hv.symm]
   simp only [decide_eq_true_eq] at *; omega
  ·rw [if_neg hv] at h
   rw [if_neg (fun e => hv e.symm)]
   simp only [decide_eq_true_eq] at *; omega
 ·rw [if_neg hk] at h
  rw [if_neg (fun e => hk e.symm)]
  simp only [decide_eq_true_eq] at *; omega
/-- An entry that an index may have. -/
def Good (e : Ent) : Prop := wrong e.rc = 0 ∧ e.rc.kind ≠ 1 ∧ 0 ≤ e.pair ∧ e.pair ≤ 1000
def Ups (a b : Ent) : Prop := lessB a b = true ∧ a.pair ≠ b.pair
theorem okE_iff (pre : List Ent) (e : Ent) : okE pre e = true ↔ Good e ∧ lastLess pre e = true ∧ ∀ x ∈ pre, x.pair ≠ e.pair := by
 unfold okE Good
 simp only [Bool.and_eq_true, decide_eq_true_eq, List.all_eq_true]
 exact ⟨fun ⟨⟨h1, h2⟩, h3⟩ => ⟨h1, h2, h3⟩, fun ⟨h1, h2, h3⟩ => ⟨⟨h1, h2⟩, h3⟩⟩
theorem last_all {e : Ent} : ∀ pre : List Ent, pre.Pairwise Ups → lastLess pre e = true → ∀ x ∈ pre, lessB x e = true := by
 intro pre hp hl x hx
 have h : pre ≠ [] := by rintro rfl; cases hx
 obtain ⟨pre', y, rfl⟩ : ∃ pre' y, pre = pre' ++ [y] := ⟨pre.dropLast, pre.getLast h, (List.dropLast_concat_getLast h).symm⟩
 have hy : lessB y e = true := by
  unfold lastLess at hl
  rw [List.getLast?_append] at hl
  simpa using hl
 rcases List.mem_append.1 hx with h1 | h1
 ·have := (List.pairwise_append.1 hp).2.2 x h1 y (by simp)
  exact less_trans this.1 hy
 ·rw [List.mem_singleton.1 h1]; exact hy
theorem rightFrom_iff : ∀ (l pre : List Ent), pre.Pairwise Ups → (rightFrom pre l = true ↔ (pre ++ l).Pairwise Ups ∧ ∀ x ∈ l, Good x)
 | [], pre, hp => by simp [rightFrom, hp]
 | e :: l, pre, hp => by
  unfold rightFrom
  rw [Bool.and_eq_true, okE_iff]
  constructor
  ·rintro ⟨⟨h1, h2, h3⟩, h4⟩
   have hp2 : (pre ++ [e]).Pairwise Ups := List.pairwise_append.2 ⟨hp, by simp, fun x hx y hy => by
    rw [List.mem_singleton.1 hy]; exact ⟨last_all pre hp h2 x hx, h3 x hx⟩⟩
   obtain ⟨h5, h6⟩ := (rightFrom_iff l (pre ++ [e]) hp2).1 h4
   refine ⟨by simpa using h5, fun x hx => ?_⟩
   rcases List.mem_cons.1 hx with rfl | hx
   ·exact h1
   ·exact h6 x hx
  ·rintro ⟨h1, h2⟩
   have hp2 : (pre ++ [e]).Pairwise Ups := by
    have : (pre ++ [e] ++ l).Pairwise Ups := by simpa using h1
    exact (List.pairwise_append.1 this).1
   have hq := (List.pairwise_append.1 hp2).2.2
   refine ⟨⟨h2 e (by simp), ?_, fun x hx => (hq x hx e (by simp)).2⟩, (rightFrom_iff l (pre ++ [e]) hp2).2 ⟨by simpa using h1, fun x hx => h2 x (by simp [hx])⟩⟩
   unfold lastLess
   cases hg : pre.getLast? with
   | none => rfl
   | some y => exact (hq y (List.mem_of_getLast? hg) e (by simp)).1
theorem rightI_iff (l : List Ent) : rightI l = true ↔ l.Pairwise Ups ∧ ∀ x ∈ l, Good x := by
 have := rightFrom_iff l [] (by simp)
 simpa [rightI] using this
theorem insR_ups (e : Ent) : ∀ l : List Ent, l.Pairwise Ups → (∀ x ∈ l, x.pair ≠ e.pair) → (insR e l).Pairwise Ups
 | [], _, _ => by simp [insR]
 | x :: l, hp, hne => by
  obtain ⟨h1, h2⟩ := List.pairwise_cons.1 hp
  unfold insR
  by_cases h : lessB e x = true
  ·rw [if_pos h]
   refine List.pairwise_cons.2 ⟨fun y hy => ?_, hp⟩
   rcases List.mem_cons.1 hy with rfl | hy
   ·exact ⟨h, fun e' => hne y (by simp) e'.symm⟩
   ·exact ⟨less_trans h (h1 y hy).1, fun e' => hne y (by simp [hy]) e'.symm⟩
  ·rw [if_neg h]
   refine List.pairwise_cons.2 ⟨fun y hy => ?_, insR_ups e l h2 fun y hy => hne y (by simp [hy])⟩
   rcases (insR_mem e y l).1 hy with rfl | hy
   ·exact ⟨less_total h fun e' => hne x (by simp) e'.symm, hne x (by simp)⟩
   ·exact h1 y hy
theorem insertE_right {e : Ent} {l : List Ent} (h : rightI l = true) (he : Good e) (hne : ∀ x ∈ l, x.pair ≠ e.pair) : rightI (insertE e l) = true := by
 obtain ⟨h1, h2⟩ := (rightI_iff l).1 h
 rw [rightI_iff, insertE_rec]
 refine ⟨insR_ups e l h1 hne, fun x hx => ?_⟩
 rcases (insR_mem e x l).1 hx with rfl | hx
 ·exact he
 ·exact h2 x hx
/-! ### What is asked of an index -/
def dropE (l : List Ent) (p : Int) : List Ent := l.filter fun x => decide (x.pair ≠ p)
/-- The first number from 0 on that is no pair of theirs. -/
def Least (l : List Ent) (f : Nat) : Prop := (∀ n : Nat, n < f → ∃ x ∈ l, x.pair = (n : Int)) ∧ ∀ x ∈ l, x.pair ≠ (f : Int)
/-! ### A disk's index -/
theorem scan_mem (d : Dk) (x : Ent) : ∀ n, x ∈ scanE d n ↔ ∃ p : Nat, p < n ∧ (d.tell (p : Int)).kind ≠ 1 ∧ x = ⟨d.tell (p : Int), (p : Int)⟩
 | 0 => by simp [scanE]
 | n + 1 => by
  have ih := scan_mem d x n
  unfold scanE
  by_cases h : (d.tell (n : Int)).kind = 1
  ·rw [if_pos h, ih]
   constructor
   ·rintro ⟨p, h1, h2⟩; exact ⟨p, by omega, h2⟩
   ·rintro ⟨p, h1, h2, h3⟩
    refine ⟨p, ?_, h2, h3⟩
    rcases Nat.lt_succ_iff_lt_or_eq.1 h1 with h4 | rfl
    ·exact h4
    ·exact absurd h h2
  ·rw [if_neg h, insertE_mem, ih]
   constructor
   ·rintro (rfl | ⟨p, h1, h2⟩)
    ·exact ⟨n, by omega, h, rfl⟩
    ·exact ⟨p, by omega, h2⟩
   ·rintro ⟨p, h1, h2, h3⟩
    rcases Nat.lt_succ_iff_lt_or_eq.1 h1 with h4 | rfl
    ·exact .inr ⟨p, h4, h2, h3⟩
    ·exact .inl h3
theorem scan_right (d : Dk) : ∀ n, n ≤ 1000 → rightI (scanE d n) = true
 | 0, _ => rfl
 | n + 1, hn => by
  have ih := scan_right d n (by omega)
  unfold scanE
  split
  ·exact ih
  ·rename_i h
   refine insertE_right ih ⟨tell_wrong d _, h, by show (0 : Int) ≤ (n : Int); omega, by show (n : Int) ≤ 1000; omega⟩ fun x hx => ?_
   obtain ⟨p, h1, _, rfl⟩ := (scan_mem d x n).1 hx
   show (p : Int) ≠ (n : Int)
   omega
end Go.Proofs.YtlickojpmffmiacGreat
namespace Go.Proofs.YtlickojpmffmiacGreat
set_option maxRecDepth 100000
open Go.RowKit
open Plain Reg
theorem nodup_lt : ∀ (n : Nat) (l : List Nat), l.Nodup → (∀ x ∈ l, x < n) → l.length ≤ n
 | 0, l, _, h => by
  cases l with
  | nil => simp
  | cons x l => exact absurd (h x (by simp)) (by omega)
 | n + 1, l, hn, h => by
  have h1 := nodup_lt n (l.erase n) (hn.erase n) fun x hx => by
   have h2 := (hn.mem_erase_iff).1 hx
   have := h x h2.2
   omega
  by_cases hm : n ∈ l
  ·have := List.length_erase_of_mem hm
   omega
  ·rw [List.erase_of_not_mem hm] at h1
   omega
end Go.Proofs.YtlickojpmffmiacGreat
namespace Go.Proofs.YtlickojpmffmiacGreat
set_option maxRecDepth 100000
open Go.RowKit Go.Maps
open Plain Reg
theorem plain_bool_inv {H : Type} {P : Program} {e : TypeId} (he : P.underlying e = some .bool) {v : Value} {z : DataW H × List MemPlace} (h : plainElem P e v = some z) : ∃ x, v = .bool x ∧ z = (.lit (.bool x), []) := by
 unfold plainElem at h
 rw [he] at h
 cases v <;> simp at h
 case bool x => exact ⟨x, rfl, h.symm⟩
theorem zero_bool (w : World) : (zeroValue 4).run Tryz.prog w = .ok (.bool false) w := by kernel_rfl
/-- Block b is a map of at most n entries; it says true of just those numbers of which f does. -/
def SetB (w : World) (b n : Nat) (f : Int → Bool) : Prop := ∃ D : DataW Unit, w.ownsMap Tryz.prog 3 (plainElem Tryz.prog 4) b n D ∧ ∀ x : Int, (Lit.int .i64 x).wf = true → D.atKey (.int .i64 x) (.lit (.bool false)) = .lit (.bool (f x))
theorem owns_isMap {H : Type} {w : World} {P : Program} {k : TypeId} {R : Value → Option (DataW H × List MemPlace)} {b n : Nat} {D : DataW H} (h : w.ownsMap P k R b n D) : IsMap D := by
 obtain ⟨es, clock, _, _, _, rfl⟩ := h; exact ⟨_, rfl⟩
theorem SetB.made (w : World) : SetB (w.alloc (.map #[] 0)) w.heap.size 0 (fun _ => false) := ⟨.map [], World.ownsMap_made _ _ _ _, fun _ _ => rfl⟩
theorem SetB.lt {w : World} {b n : Nat} {f : Int → Bool} (h : SetB w b n f) : b < w.heap.size := by
 obtain ⟨D, h1, _⟩ := h; exact h1.lt
theorem SetB.same {w w' : World} {b n : Nat} {f : Int → Bool} (h : SetB w b n f) (hb : w'.heap[b]? = w.heap[b]?) : SetB w' b n f := by
 obtain ⟨D, ⟨es, clock, h1, h2⟩, h3⟩ := h
 exact ⟨D, ⟨es, clock, hb.trans h1, h2⟩, h3⟩
theorem SetB.grow {w w' : World} {b n : Nat} {f : Int → Bool} (h : SetB w b n f) (hg : Grow w w') : SetB w' b n f := h.same (hg.block _ h.lt)
theorem SetB.ask {w : World} {b n : Nat} {f : Int → Bool} (h : SetB w b n f) (x : Int) (hx : (Lit.int .i64 x).wf = true) : (Instr.lookup 102 (.map (some b)) (.int .i64 x) false).run Tryz.prog w = .ok (.bool (f x)) w := by
 obtain ⟨D, h1, h2⟩ := h
 obtain ⟨v, ps, hrun, hv⟩ := h1.lookup (int_keyed Tryz.underlying3) Tryz.underlying102 (zero_bool w) (plainElem_bool Tryz.underlying4 false) (keyOf_int_mk Tryz.underlying3 hx)
 obtain ⟨c, rfl, hc⟩ := plain_bool_inv Tryz.underlying4 hv
 simp only [Prod.mk.injEq] at hc
 have := h2 x hx
 rw [this] at hc
 have hcc : f x = c := by injection hc.1 with h; injection h
 rw [hcc]; exact hrun
theorem GrowBut.grown {g : Nat} {w w' : World} (h : w.grownBy w' (some g)) : GrowBut g w w' := ⟨h.os, h.tape, h.output, h.size, fun k hk hg => h.block k hk (by intro e; exact hg (Option.some.inj e))⟩
theorem SetB.put {w : World} {b n : Nat} {f : Int → Bool} (h : SetB w b n f) (x : Int) (hx : (Lit.int .i64 x).wf = true) (hn : n < 1000000) :
  ∃ w', (Instr.mapUpdate 102 (.map (some b)) (.int .i64 x) (.bool true)).run Tryz.prog w = .ok () w' ∧ SetB w' b (n + 1) (fun y => decide (y = x) || f y) ∧ GrowBut b w w' := by
 obtain ⟨D, h1, h2⟩ := h
 obtain ⟨w', hrun, h3, h4⟩ := h1.update (int_keyed Tryz.underlying3) Tryz.underlying102 (by unfold maxLen; omega) (keyOf_int_mk Tryz.underlying3 hx) (plainElem_bool Tryz.underlying4 true)
 refine ⟨w', hrun, ⟨_, h3, fun y hy => ?_⟩, GrowBut.grown h4⟩
 by_cases e : y = x
 ·subst e
  rw [atKey_put_same (owns_isMap h1) (show WideAt.IsKeyLit (.int .i64 y) from trivial)]
  simp
 ·rw [atKey_put_other (by intro e2; injection e2 with _ e2; exact e e2), h2 y hy]
  simp [e]
theorem SetB.on {w : World} {b n m : Nat} {f g : Int → Bool} (h : SetB w b n f) (hf : ∀ x, f x = g x) (hn : n ≤ m) : SetB w b m g := by
 obtain ⟨D, h1, h2⟩ := h
 exact ⟨D, h1.mono hn, fun x hx => by rw [h2 x hx, hf x]⟩
/-! ### What is gone through, told of lists -/
theorem drop_next (l : List Ent) (p : Int) (k : Nat) (h : k < l.length) : dropE (l.take (k + 1)) p = dropE (l.take k) p ++ (if l[k].pair = p then [] else [l[k]]) := by
 unfold dropE
 rw [List.take_succ_eq_append_getElem h, List.filter_append]
 by_cases e : l[k].pair = p
 ·simp [e]
 ·simp [e]
def usedB (l : List Ent) (y : Int) : Bool := l.any fun x => decide (y = x.pair)
theorem used_next (l : List Ent) (k : Nat) (h : k < l.length) (y : Int) : (decide (y = l[k].pair) || usedB (l.take k) y) = usedB (l.take (k + 1)) y := by
 unfold usedB
 rw [List.take_succ_eq_append_getElem h, List.any_append]
 simp [Bool.or_comm]
theorem used_iff (l : List Ent) (y : Int) : usedB l y = true ↔ ∃ x ∈ l, x.pair = y := by
 unfold usedB
 rw [List.any_eq_true]
 exact ⟨fun ⟨x, h1, h2⟩ => ⟨x, h1, (of_decide_eq_true h2).symm⟩, fun ⟨x, h1, h2⟩ => ⟨x, h1, by simp [h2]⟩⟩
theorem wf_small {x : Int} (h0 : 0 ≤ x) (h1 : x ≤ 1000000) : (Lit.int .i64 x).wf = true := WalkArith.wf_i64 (by omega)
end Go.Proofs.YtlickojpmffmiacGreat
