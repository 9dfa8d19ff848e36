/-
  What is asked of the program's model: the contracts of its functions, as premises; and what comes of deeds, told of lists.
-/
import Derived.Test.YtgaecpdokgklpabRDo
import Derived.Test.YtgaecpdokgklpabMdlWC
import Derived.Test.YtgaecpdokgklpabRSameR
namespace Go.Proofs.Ytgaecpdokgklpab
set_option maxRecDepth 100000
open Go.RowKit
open Go.Proofs.Ytgaecpdokgklpab.Plain Go.Proofs.Ytgaecpdokgklpab.Reg

def MNextC : Prop := ∀ (S : Nat → Prop) (l : List Rec) (v : Value) (w : World), rightR l = true → RecsS S w v l →
 Calls Try.prog 23 #[v] w fun r w' => r = .returned (.int .i64 (nextV l)) ∧ Grow w w'
def MMadeC : Prop := ∀ (S : Nat → Prop) (d : Dd) (n : Int) (a : Option Addr) (c : Nat) (w : World), (∀ b, S b → b < w.heap.size) → wrongD d = 0 → d.kind ≠ 3 → 1 ≤ n → n ≤ 60000 → BytesS S w (.slice a d.data.length c) d.data →
 Calls Try.prog 29 #[.agg #[.int .i64 d.kind, .int .i64 d.key, .int .i64 d.num, .slice a d.data.length c], .int .i64 n] w fun r w' => ∃ a' c', r = .returned (.agg #[.int .i64 (1 + d.kind), .int .i64 d.key, .int .i64 n, .slice a' d.data.length c']) ∧ BytesS (Upon S w.heap.size) w' (.slice a' d.data.length c') d.data ∧ Grow w w'
def MDoC : Prop := ∀ (S : Nat → Prop) (l : List Rec) (d : Dd) (v : Value) (a : Option Addr) (c : Nat) (w : World), (∀ b, S b → b < w.heap.size) → rightR l = true → wrongD d = 0 → RecsS S w v l → BytesS S w (.slice a d.data.length c) d.data →
 Calls Try.prog 27 #[v, .agg #[.int .i64 d.kind, .int .i64 d.key, .int .i64 d.num, .slice a d.data.length c]] w fun r w' => ∃ v', r = .returned (.tuple #[v', .int .i64 (doR l d).n, .int .i64 (doR l d).e]) ∧ RecsS (Upon S w.heap.size) w' v' (doR l d).l ∧ Grow w w'
def MGetC : Prop := ∀ (S : Nat → Prop) (l : List Rec) (key : Int) (v : Value) (w : World), (∀ b, S b → b < w.heap.size) → rightR l = true → RecsS S w v l →
 Calls Try.prog 21 #[v, .int .i64 key] w fun r w' => ∃ u, r = .returned (.tuple #[u, .int .i64 (getK l key).e]) ∧ BytesS (Upon S w.heap.size) w' u (getK l key).data ∧ Grow w w'
def MSameC : Prop := ∀ (S S' : Nat → Prop) (s t : List Rec) (v u : Value) (w : World), rightR s = true → rightR t = true → RecsS S w v s → RecsS S' w u t →
 Calls Try.prog 25 #[v, u] w fun r w' => r = .returned (.bool (sameRs s t)) ∧ Grow w w'

/-! ### What is right -/

theorem rightR_iff (l : List Rec) : rightR l = true ↔ (∀ r ∈ l, wrong r = 0 ∧ r.kind ≠ 1) ∧ l.length ≤ 40 := by
 unfold rightR goodR
 simp only [Bool.and_eq_true, List.all_eq_true, decide_eq_true_eq]
theorem rightR_ver {l : List Rec} (h : rightR l = true) : ∀ r ∈ l, r.ver ≤ 60000 := fun r hr => (right_bd (((rightR_iff l).1 h).1 r hr).1).2.2.2.2.2.1
theorem wrongD_bd {d : Dd} (h : wrongD d = 0) : 1 ≤ d.kind ∧ d.kind ≤ 3 ∧ 1 ≤ d.key ∧ d.key ≤ 255 ∧ d.data.length ≤ 8 ∧ (d.kind = 1 ∨ d.data.length = 0) := by
 unfold wrongD at h
 by_cases h1 : d.kind < 1 ∨ 3 < d.kind
 ·rw [if_pos h1] at h; omega
 ·rw [if_neg h1] at h
  generalize (if d.kind = 3 then (1 : Int) else 0) = lo at h
  generalize (if d.kind = 3 then (60000 : Int) else 0) = hi at h
  by_cases h2 : d.key < 1 ∨ 255 < d.key ∨ d.num < lo ∨ hi < d.num
  ·rw [if_pos h2] at h; omega
  ·rw [if_neg h2] at h
   by_cases h3 : 8 < d.data.length ∨ d.kind ≠ 1 ∧ d.data.length ≠ 0
   ·rw [if_pos h3] at h; omega
   ·omega
theorem run_str6 (w : World) (v : Value) (l : List UInt8) (h : Bytes w v l) : (convert 31 9 v).run Try.prog w = .ok (.string ⟨l.toArray⟩) w := run_str w v l h
theorem SliceS.every {α : Type} {sh : Shape α} {S : Nat → Prop} {w : World} {v : Value} {xs : List α} (h : SliceS sh S w v xs) (hs : 0 < sh.size) : SliceS sh (fun b => b < w.heap.size) w v xs := (h.caps hs).mono fun _ h => h.2

/-! ### Newer is greater -/

theorem next_from : ∀ (l : List Rec) (n : Int), n ≤ l.foldl (fun n r => if n ≤ r.ver then r.ver + 1 else n) n ∧ ∀ r ∈ l, r.ver < l.foldl (fun n r => if n ≤ r.ver then r.ver + 1 else n) n
 | [], n => ⟨Int.le_refl _, fun r h => by cases h⟩
 | x :: l, n => by
  rw [List.foldl_cons]
  obtain ⟨h1, h2⟩ := next_from l (if n ≤ x.ver then x.ver + 1 else n)
  have h3 : n ≤ (if n ≤ x.ver then x.ver + 1 else n) ∧ x.ver < (if n ≤ x.ver then x.ver + 1 else n) := by split <;> omega
  refine ⟨by omega, fun r hr => ?_⟩
  rcases List.mem_cons.1 hr with rfl | hr
  ·omega
  ·exact h2 r hr
theorem next_gt {l : List Rec} : 1 ≤ nextV l ∧ ∀ r ∈ l, r.ver < nextV l := next_from l 1
theorem get_lt (key : Int) {N : Int} : ∀ (l : List Rec) (g : Got), g.n < N → (∀ r ∈ l, r.ver < N) → (l.foldl (getStep key) g).n < N
 | [], _, h, _ => h
 | x :: l, g, h, hl => by
  rw [List.foldl_cons]
  refine get_lt key l _ ?_ fun r hr => hl r (by simp [hr])
  have := hl x (by simp)
  unfold getStep
  split
  ·exact h
  ·split <;> exact this
/-- What was made last is what its key has. -/
theorem get_made {l : List Rec} {d : Dd} {n : Int} (h0 : 1 ≤ n) (h : ∀ r ∈ l, r.ver < n) : getK (l ++ [madeR d n]) d.key = if d.kind = 2 then ⟨n, 10, []⟩ else ⟨n, 0, d.data⟩ := by
 unfold getK
 rw [List.foldl_append]
 have hg := get_lt d.key l ⟨0, 6, []⟩ (show (0 : Int) < n by omega) h
 generalize l.foldl (getStep d.key) ⟨0, 6, []⟩ = g at *
 show getStep d.key g (madeR d n) = _
 unfold getStep
 have hn : ¬ ((madeR d n).key ≠ d.key ∨ (madeR d n).ver ≤ g.n) := by
  rintro (h1 | h1)
  ·exact h1 rfl
  ·have : n ≤ g.n := h1
   omega
 rw [if_neg hn]
 by_cases hk : d.kind = 2
 ·rw [if_pos hk, if_pos (show (madeR d n).kind = 3 from (show 1 + d.kind = 3 by omega))]; rfl
 ·rw [if_neg hk, if_neg (show ¬ ((madeR d n).kind = 3) from (show ¬ (1 + d.kind = 3) by omega))]; rfl
/-- What others have stays. -/
theorem get_other {l : List Rec} {d : Dd} {n key : Int} (h : key ≠ d.key) : getK (l ++ [madeR d n]) key = getK l key := by
 unfold getK
 rw [List.foldl_append]
 show getStep key _ (madeR d n) = _
 unfold getStep
 rw [if_pos (.inl (fun e => h e.symm))]
theorem made_right {d : Dd} {n : Int} (hw : wrongD d = 0) (hk : d.kind ≠ 3) (h0 : 1 ≤ n) (h1 : n ≤ 60000) : wrong (madeR d n) = 0 ∧ (madeR d n).kind ≠ 1 := by
 obtain ⟨a1, a2, a3, a4, a5, a6⟩ := wrongD_bd hw
 have hkk : d.kind = 1 ∨ d.kind = 2 := by omega
 refine ⟨?_, show 1 + d.kind ≠ 1 by omega⟩
 obtain ⟨dk, dy, dn, dd⟩ := d
 simp only at hkk a3 a4 a5 a6
 rcases hkk with rfl | rfl
 ·show wrong ⟨2, dy, n, dd⟩ = 0
  have h2 : inRangeB ⟨2, dy, n, dd⟩ = true := by simp [inRangeB]; omega
  unfold wrong
  rw [if_neg (by simp), h2, if_neg (by simp), if_neg (by simp [maxData]; omega)]
 ·have h6 : dd = [] := List.eq_nil_of_length_eq_zero (by omega)
  show wrong ⟨3, dy, n, dd⟩ = 0
  have h2 : inRangeB ⟨3, dy, n, dd⟩ = true := by simp [inRangeB]; omega
  unfold wrong
  rw [if_neg (by simp), h2, if_neg (by simp), if_neg (by simp [maxData, h6])]
theorem rightR_snoc {l : List Rec} {r : Rec} (h : rightR l = true) (hr : wrong r = 0 ∧ r.kind ≠ 1) (hn : l.length ≤ 39) : rightR (l ++ [r]) = true := by
 rw [rightR_iff] at h ⊢
 refine ⟨fun x hx => ?_, by simp; omega⟩
 rcases List.mem_append.1 hx with h1 | h1
 ·exact h.1 x h1
 ·rw [List.mem_singleton.1 h1]; exact hr

/-! ### What is taken is gone -/

def purgeD (d : Dd) (n : Int) : Dd := ⟨3, d.key, n, []⟩
theorem purge_right {d : Dd} {n : Int} (hw : wrongD d = 0) (h0 : 1 ≤ n) (h1 : n ≤ 60000) : wrongD (purgeD d n) = 0 := by
 obtain ⟨a1, a2, a3, a4, a5, a6⟩ := wrongD_bd hw
 unfold wrongD purgeD
 simp only
 rw [if_neg (by omega), if_neg (by simp; omega), if_neg (by simp)]
theorem found_not {l : List Rec} {d : Dd} {n : Int} (h : ∀ r ∈ l, r.ver < n) : ∀ x ∈ l, foundB (purgeD d n) x = false := fun x hx => by
 have := h x hx
 unfold foundB purgeD
 simp only [decide_eq_false_iff_not]
 omega
theorem do_purge {l : List Rec} {d : Dd} {n : Int} (h : ∀ r ∈ l, r.ver < n) : doR (l ++ [madeR d n]) (purgeD d n) = ⟨l, n, 0⟩ := by
 unfold doR
 rw [if_pos (show (purgeD d n).kind = 3 from rfl)]
 have hf : (l ++ [madeR d n]).findIdx? (foundB (purgeD d n)) = some l.length := by
  refine find_first (by simp) (fun x hx => ?_) ?_
  ·rw [List.take_left] at hx; exact found_not h x hx
  ·rw [List.getElem_append_right (Nat.le_refl _)]
   simp [foundB, purgeD, madeR]
 rw [hf]
 simp [purgeD]
theorem do_purged {l : List Rec} {d : Dd} {n : Int} (h : ∀ r ∈ l, r.ver < n) : doR l (purgeD d n) = ⟨l, 0, 6⟩ := by
 unfold doR
 rw [if_pos (show (purgeD d n).kind = 3 from rfl), find_not (found_not h)]
theorem sameRs_refl (l : List Rec) : sameRs l l = true := by
 unfold sameRs
 simp only [Bool.and_eq_true, List.all_eq_true, decide_eq_true_eq, and_true]
 intro r hr
 unfold among
 rw [List.any_eq_true]
 exact ⟨r, hr, sameB_refl r⟩
end Go.Proofs.Ytgaecpdokgklpab
