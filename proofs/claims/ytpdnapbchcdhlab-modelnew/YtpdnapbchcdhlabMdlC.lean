import Derived.Test.YtpdnapbchcdhlabRDo
import Derived.Test.YtpdnapbchcdhlabMdlWC
import Derived.Test.YtpdnapbchcdhlabRSameR
set_option maxHeartbeats 8000000
namespace Go.Proofs.Ytpdnapbchcdhlab
set_option maxRecDepth 100000
open Go.RowKit
open Plain Reg
variable {d : Dd} {l : List Rec} {n : Int}
def Vo : Prop := ∀ (S : Nat → Prop) (l : List Rec) (v : Value) (w : World), Z6 l = true → Zv S w v l →
 Calls Try.prog 23 #[v] w fun r w' => r = .returned (.int .i64 (Yc l)) ∧ Zi w w'
def Vp : Prop := ∀ (S : Nat → Prop) (d : Dd) (n : Int) (a : Option Addr) (c : Nat) (w : World), (∀ b, S b → b < w.heap.size) → Zq d = 0 → d.kind ≠ 3 → 1 ≤ n → n ≤ 60000 → Zu S w (.slice a d.data.length c) d.data →
 Calls Try.prog 29 #[.agg #[.int .i64 d.kind, .int .i64 d.key, .int .i64 d.num, .slice a d.data.length c], .int .i64 n] w fun r w' => ∃ a' c', r = .returned (.agg #[.int .i64 (1 + d.kind), .int .i64 d.key, .int .i64 n, .slice a' d.data.length c']) ∧ Zu (Xv S w.heap.size) w' (.slice a' d.data.length c') d.data ∧ Zi w w'
def Zbk : Prop := ∀ (S : Nat → Prop) (l : List Rec) (d : Dd) (v : Value) (a : Option Addr) (c : Nat) (w : World), (∀ b, S b → b < w.heap.size) → Z6 l = true → Zq d = 0 → Zv S w v l → Zu S w (.slice a d.data.length c) d.data →
 Calls Try.prog 27 #[v, .agg #[.int .i64 d.kind, .int .i64 d.key, .int .i64 d.num, .slice a d.data.length c]] w fun r w' => ∃ v', r = .returned (.tuple #[v', .int .i64 (doR l d).n, .int .i64 (doR l d).e]) ∧ Zv (Xv S w.heap.size) w' v' (doR l d).l ∧ Zi w w'
def K7 : Prop := ∀ (S : Nat → Prop) (l : List Rec) (key : Int) (v : Value) (w : World), (∀ b, S b → b < w.heap.size) → Z6 l = true → Zv S w v l →
 Calls Try.prog 21 #[v, .int .i64 key] w fun r w' => ∃ u, r = .returned (.tuple #[u, .int .i64 (Xm l key).e]) ∧ Zu (Xv S w.heap.size) w' u (Xm l key).data ∧ Zi w w'
def Vn : Prop := ∀ (S S' : Nat → Prop) (s t : List Rec) (v u : Value) (w : World), Z6 s = true → Z6 t = true → Zv S w v s → Zv S' w u t →
 Calls Try.prog 25 #[v, u] w fun r w' => r = .returned (.bool (Y3 s t)) ∧ Zi w w'
theorem Yk (l : List Rec) : Z6 l = true ↔ (∀ r ∈ l, Yd r = 0 ∧ r.kind ≠ 1) ∧ l.length ≤ 40 := by
 unfold Z6 Qe;simp only [Bool.and_eq_true, List.all_eq_true, decide_eq_true_eq]
theorem Vc (h : Z6 l = true) : ∀ r ∈ l, r.ver ≤ 60000 := fun r hr => (Zay (((Yk l).1 h).1 r hr).1).2.2.2.2.2.1
theorem Yo (h : Zq d = 0) : 1 ≤ d.kind ∧ d.kind ≤ 3 ∧ 1 ≤ d.key ∧ d.key ≤ 255 ∧ d.data.length ≤ 8 ∧ (d.kind = 1 ∨ d.data.length = 0) := by
 unfold Zq at h;by_cases h1 : d.kind < 1 ∨ 3 < d.kind
 ·rw [if_pos h1] at h; omega
 ·rw [if_neg h1] at h;generalize (if d.kind = 3 then (1 : Int) else 0) = lo at h;generalize (if d.kind = 3 then (60000 : Int) else 0) = hi at h;by_cases h2 : d.key < 1 ∨ 255 < d.key ∨ d.num < lo ∨ hi < d.num
  ·rw [if_pos h2] at h; omega
  ·rw [if_neg h2] at h;by_cases h3 : 8 < d.data.length ∨ d.kind ≠ 1 ∧ d.data.length ≠ 0
   ·rw [if_pos h3] at h; omega
   ·omega
theorem Xk (w : World) (v : Value) (l : List UInt8) (h : Bytes w v l) : (convert 31 9 v).run Try.prog w = .ok (.string ⟨l.toArray⟩) w := Qk w v l h
theorem Zn.every {α : Type} {sh : Yv α} {S : Nat → Prop} {w : World} {v : Value} {xs : List α} (h : Zn sh S w v xs) (hs : 0 < sh.size) : Zn sh (fun b => b < w.heap.size) w v xs := (h.caps hs).mono fun _ h => h.2
theorem V5 : ∀ (l : List Rec) (n : Int), n ≤ l.foldl (fun n r => if n ≤ r.ver then r.ver + 1 else n) n ∧ ∀ r ∈ l, r.ver < l.foldl (fun n r => if n ≤ r.ver then r.ver + 1 else n) n
 | [], n => ⟨Int.le_refl _, fun r h => by cases h⟩
 | x :: l, n => by
  rw [List.foldl_cons];obtain ⟨h1, h2⟩ := V5 l (if n ≤ x.ver then x.ver + 1 else n);have h3 : n ≤ (if n ≤ x.ver then x.ver + 1 else n) ∧ x.ver < (if n ≤ x.ver then x.ver + 1 else n) := by split <;> omega
  refine ⟨by omega, fun r hr => ?_⟩;rcases List.mem_cons.1 hr with rfl | hr
  ·omega
  ·exact h2 r hr
theorem J4 : 1 ≤ Yc l ∧ ∀ r ∈ l, r.ver < Yc l := V5 l 1
theorem Zbb (key : Int) {N : Int} : ∀ (l : List Rec) (g : Got), g.n < N → (∀ r ∈ l, r.ver < N) → (l.foldl (Yq key) g).n < N
 | [], _, h, _ => h
 | x :: l, g, h, hl => by
  rw [List.foldl_cons];refine Zbb key l _ ?_ fun r hr => hl r (by simp [hr])
  have := hl x (by simp);unfold Yq;split
  ·exact h
  ·split <;> exact this
theorem Zba (h0 : 1 ≤ n) (h : ∀ r ∈ l, r.ver < n) : Xm (l ++ [Zy d n]) d.key = if d.kind = 2 then ⟨n, 10, []⟩ else ⟨n, 0, d.data⟩ := by
 unfold Xm;rw [List.foldl_append];have hg := Zbb d.key l ⟨0, 6, []⟩ (show (0 : Int) < n by omega) h;generalize l.foldl (Yq d.key) ⟨0, 6, []⟩ = g at *;show Yq d.key g (Zy d n) = _;unfold Yq;have hn : ¬ ((Zy d n).key ≠ d.key ∨ (Zy d n).ver ≤ g.n) := by
  rintro (h1 | h1)
  ·exact h1 rfl
  ·have : n ≤ g.n := h1;omega
 rw [if_neg hn];by_cases hk : d.kind = 2
 ·rw [if_pos hk, if_pos (show (Zy d n).kind = 3 from (show 1 + d.kind = 3 by omega))]; rfl
 ·rw [if_neg hk, if_neg (show ¬ ((Zy d n).kind = 3) from (show ¬ (1 + d.kind = 3) by omega))]; rfl
theorem Vi (hw : Zq d = 0) (hk : d.kind ≠ 3) (h0 : 1 ≤ n) (h1 : n ≤ 60000) : Yd (Zy d n) = 0 ∧ (Zy d n).kind ≠ 1 := by
 obtain ⟨a1, a2, a3, a4, a5, a6⟩ := Yo hw;have hkk : d.kind = 1 ∨ d.kind = 2 := by omega
 refine ⟨?_, show 1 + d.kind ≠ 1 by omega⟩;obtain ⟨dk, dy, dn, dd⟩ := d;simp only at hkk a3 a4 a5 a6;rcases hkk with rfl | rfl
 ·show Yd ⟨2, dy, n, dd⟩ = 0;have h2 : Ya ⟨2, dy, n, dd⟩ = true := by simp [Ya]; omega
  unfold Yd;rw [if_neg (by simp), h2, if_neg (by simp), if_neg (by simp [Yn]; omega)]
 ·have h6 : dd = [] := List.eq_nil_of_length_eq_zero (by omega);show Yd ⟨3, dy, n, dd⟩ = 0;have h2 : Ya ⟨3, dy, n, dd⟩ = true := by simp [Ya]; omega
  unfold Yd;rw [if_neg (by simp), h2, if_neg (by simp), if_neg (by simp [Yn, h6])]
theorem Q1 {r : Rec} (h : Z6 l = true) (hr : Yd r = 0 ∧ r.kind ≠ 1) (hn : l.length ≤ 39) : Z6 (l ++ [r]) = true := by
 rw [Yk] at h ⊢;refine ⟨fun x hx => ?_, by simp; omega⟩;rcases List.mem_append.1 hx with h1 | h1
 ·exact h.1 x h1
 ·rw [List.mem_singleton.1 h1]; exact hr
def Yr (d : Dd) (n : Int) : Dd := ⟨3, d.key, n, []⟩
theorem Kv (hw : Zq d = 0) (h0 : 1 ≤ n) (h1 : n ≤ 60000) : Zq (Yr d n) = 0 := by
 obtain ⟨a1, a2, a3, a4, a5, a6⟩ := Yo hw;unfold Zq Yr;simp only;rw [if_neg (by omega), if_neg (by simp; omega), if_neg (by simp)]
theorem Kc (h : ∀ r ∈ l, r.ver < n) : ∀ x ∈ l, Yl (Yr d n) x = false := fun x hx => by
 have := h x hx;unfold Yl Yr;simp only [decide_eq_false_iff_not];omega
theorem Zbe (h : ∀ r ∈ l, r.ver < n) : doR (l ++ [Zy d n]) (Yr d n) = ⟨l, n, 0⟩ := by
 unfold doR;rw [if_pos (show (Yr d n).kind = 3 from rfl)];have hf : (l ++ [Zy d n]).findIdx? (Yl (Yr d n)) = some l.length := by
  refine Qh (by simp) (fun x hx => ?_) ?_
  ·rw [List.take_left] at hx; exact Kc h x hx
  ·rw [List.getElem_append_right (Nat.le_refl _)];simp [Yl, Yr, Zy]
 rw [hf];simp [Yr]
theorem Zas (h : ∀ r ∈ l, r.ver < n) : doR l (Yr d n) = ⟨l, 0, 6⟩ := by
 unfold doR;rw [if_pos (show (Yr d n).kind = 3 from rfl), Vm (Kc h)]
theorem Kr (l : List Rec) : Y3 l l = true := by
 unfold Y3;simp only [Bool.and_eq_true, List.all_eq_true, decide_eq_true_eq, and_true];intro r hr;unfold Yu;rw [List.any_eq_true];exact ⟨r, hr, X0 r⟩
end Go.Proofs.Ytpdnapbchcdhlab
