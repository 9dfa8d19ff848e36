import Derived.Test.YtpdnapbchcdhlabProg
import Derived.Test.YtpdnapbchcdhlabJReg
import Derived.WalkKit
import Derived.WalkSpells
import Derived.WalkLawsBesides
import Derived.Laws.BitsAllLaws
import Derived.Laws.AppendOwnNone
import Derived.Handy
set_option maxHeartbeats 8000000
namespace Go.Proofs.Ytpdnapbchcdhlab
set_option maxRecDepth 100000
open Go.RowKit
open Plain Reg
def Bytes (w : World) (v : Value) (l : List UInt8) : Prop :=
 (∃ ao cap, v = .slice ao 0 cap ∧ l = [] ∧ (ao = none → cap = 0)) ∨
 (∃ b off cap, v = .slice (some ⟨b, off, none⟩) l.length cap ∧ l.length ≤ cap ∧ ∀ (i : Nat) (h : i < l.length), w.cell? ⟨b, off + i, none⟩ = some (.int .u8 (l[i].toNat : Int)))
theorem Yp {k : IntKind} {a b : Int} (h : a = b) : Ending.returned (.int k a) = .returned (.int k b) := by rw [h]
end Go.Proofs.Ytpdnapbchcdhlab
namespace Go.Proofs.Ytpdnapbchcdhlab
set_option maxRecDepth 100000
open Go.RowKit
open Plain Reg
variable {l : List UInt8} {v : Value} {w : World}
def bv (c : UInt8) : Value := .int .u8 (c.toNat : Int)
theorem Zao : (Try.prog.info? 5).map (fun i => (i.zero, i.size, i.bytes)) = some (some (.int .u8 0), 1, 1) := by kernel_rfl
theorem Xg (h : Bytes w v l) :
  ∃ ao cap, v = .slice ao l.length cap ∧ (ao = none → l.length = 0 ∧ cap = 0) ∧ (∀ ad, ao = some ad → ∀ (j : Nat) u, (l.map bv)[j]? = some u → w.cell? (ad.add j) = some u) := by
 rcases h with ⟨ao, cap, rfl, rfl, h0⟩ | ⟨b, off, cap, rfl, _, hc⟩
 ·exact ⟨ao, cap, rfl, fun h => ⟨rfl, h0 h⟩, fun ad _ j u hj => by simp at hj⟩
 ·refine ⟨_, cap, rfl, fun h => (by cases h), fun ad had j u hj => ?_⟩;cases had;rw [List.getElem?_map] at hj;by_cases hl : j < l.length
  ·simp only [List.getElem?_eq_getElem hl, Option.map_some, bv, Option.some.injEq] at hj;subst hj;have e : (⟨b, off, none⟩ : Addr).add j = ⟨b, off + j, none⟩ := by simp [Addr.add]
   rw [e];exact hc j hl
  ·rw [List.getElem?_eq_none (by omega)] at hj; cases hj
theorem Jt (l : List UInt8) : ∀ u ∈ l.map bv, u.oneCell' = true := by
 intro u hu;obtain ⟨c, _, rfl⟩ := List.mem_map.1 hu;rfl
theorem Ys {w1 w2 : World} {row : Option Nat} (h : Zi w w1) (hg : w1.grownBy w2 row) (hr : ∀ k, row = some k → w.heap.size ≤ k) : Zi w w2 :=
 Below.grown h hg h.size hr
theorem Zr {p : Addr} (h : w.cell? p = some v) : p.block < w.heap.size := by
 rcases Nat.lt_or_ge p.block w.heap.size with hl | hl
 ·exact hl
 ·simp [World.cell?, Array.getElem?_eq_none hl] at h
theorem Zo {w' : World} (h : Bytes w v l) (hg : Zi w w') : Bytes w' v l := by
 rcases h with h | ⟨b, off, cap, rfl, h1, hc⟩
 ·exact .inl h
 ·refine .inr ⟨b, off, cap, rfl, h1, fun i hi => ?_⟩;have h2 := hc i hi;rw [← h2];exact Below.cell hg (Zr h2)
theorem Ze (w : World) (o : Obj) : Zi w (w.alloc o) := Below.alloc (Below.refl _ _) (Nat.le_refl _) o
theorem Zag (w : World) : (w.alloc (.cells #[] 5)).ownsRow w.heap.size 5 1 (.slice (some ⟨w.heap.size, 0, none⟩) 0 0) 0 [] :=
 ⟨rfl, .inr ⟨w.heap.size, 0, #[], rfl, Nat.le_refl _, by show (w.heap.push _)[w.heap.size]? = _; simp, Nat.le_refl _, by unfold maxLen; omega, rfl, rfl⟩⟩
end Go.Proofs.Ytpdnapbchcdhlab
namespace Go.Proofs.Ytpdnapbchcdhlab
set_option maxRecDepth 100000
open Go.RowKit
open Plain Reg
def str (l : List UInt8) : Value := .string ⟨l.toArray⟩
theorem Zaf (l : List UInt8) : ∀ (s : ByteArray), (l.map (fun c => (c.toNat : Int))).foldl (fun r n => r.push (UInt8.ofNat n.toNat)) s = ⟨s.data ++ l.toArray⟩ := by
 induction l with
 | nil => intro s; simp
 | cons c l ih =>
  intro s;simp only [List.map_cons, List.foldl_cons];rw [ih];simp [ByteArray.push]
theorem Qk (w : World) (v : Value) (l : List UInt8) (h : Bytes w v l) : (convert 31 9 v).run Try.prog w = .ok (str l) w := by
 obtain ⟨ao, cap, rfl, hnone, hcells⟩ := Xg h;rw [run_convert_bytes_string w 31 9 5 ao l.length cap Try.underlying31 Try.underlying5 Try.underlying9];cases ao with
 | none =>
  obtain ⟨h1, _⟩ := hnone rfl;obtain rfl := List.eq_nil_of_length_eq_zero h1;rfl
 | some ad =>
  have h1 : (loadCells ad l.length).run Try.prog w = .ok ((l.map (fun c => (c.toNat : Int))).map (Value.int .u8)).toArray w := by
   have h2 := run_loadCells_list (P := Try.prog) (w := w) ad (l.map bv) (hcells ad rfl);simp only [List.length_map] at h2;rw [h2];simp [bv, Function.comp_def]
  rw [run_bytesToString w ad l.length cap _ h1, Zaf];simp [str]
end Go.Proofs.Ytpdnapbchcdhlab
namespace Go.Proofs.Ytpdnapbchcdhlab
set_option maxRecDepth 100000
open Go.RowKit
open Plain Reg
theorem Zar (l m : List UInt8) (v u : Value) (w : World) (hv : Bytes w v l) (hu : Bytes w u m) :
  Calls Try.prog 102 #[v, u] w fun e w' => e = .returned (.bool (l == m)) ∧ w = w' := by
 have h1 := Qk w _ _ hv;have h2 := Qk w _ _ hu;unfold str at h1 h2;clear hv hu;go_enter Try.func102, Try.ntmps102;go_wp2;go_ret;exact ⟨rfl, rfl⟩
theorem Zt (w : World) (o p : Obj) : Zi w ((w.alloc o).alloc p) := (Ze w o).trans (Ze _ p)
theorem Zax (k y n k' y' n' : Int) (l m : List UInt8) (v u : Value) (w : World) (hv : Bytes w v l) (hu : Bytes w u m) :
  Calls Try.prog 85 #[.agg #[.int .i64 k, .int .i64 y, .int .i64 n, v], .agg #[.int .i64 k', .int .i64 y', .int .i64 n', u]] w fun e w' => e = .returned (.bool (Ye ⟨k, y, n, l⟩ ⟨k', y', n', m⟩)) ∧ Zi w w' := by
 go_enter Try.func85, Try.ntmps85;go_wp2_with (go_at_call 102; refine (Zar l m v u _ (by exact Zo hv (Zt _ _ _)) (by exact Zo hu (Zt _ _ _))).mono ?_; rintro e w' ⟨rfl, rfl⟩);all_goals go_ret
 all_goals refine ⟨?_, Zt _ _ _⟩
 all_goals simp_all [Ye]
theorem Xx (k y n k' y' n' : Int) (l m : List UInt8) (v u : Value) (w : World) (hv : Bytes w v l) (hu : Bytes w u m) :
  Calls Try.prog 13 #[.agg #[.int .i64 k, .int .i64 y, .int .i64 n, v], .agg #[.int .i64 k', .int .i64 y', .int .i64 n', u]] w fun e w' => e = .returned (.bool (Ye ⟨k, y, n, l⟩ ⟨k', y', n', m⟩)) ∧ Zi w w' := by
 by_cases h : k = k' ∧ y = y' ∧ n = n'
 ·obtain ⟨rfl, rfl, rfl⟩ := h;have h1 := Qk _ _ _ (Zo hv (Zt w (.cells #[.int .i64 k, .int .i64 y, .int .i64 n, v] 33) (.cells #[.int .i64 k, .int .i64 y, .int .i64 n, u] 33)));have h2 := Qk _ _ _ (Zo hu (Zt w (.cells #[.int .i64 k, .int .i64 y, .int .i64 n, v] 33) (.cells #[.int .i64 k, .int .i64 y, .int .i64 n, u] 33)));unfold str at h1 h2;clear hv hu;go_enter Try.func13, Try.ntmps13;go_wp2;go_ret;refine ⟨?_, Zt _ _ _⟩;simp [Ye]
 ·clear hv hu;by_cases h1 : k = k'
  ·subst h1;by_cases h2 : y = y'
   ·subst h2;have d3 : (n == n') = false := by simp at h; simpa using h
    have HN : Hid (Ye ⟨k, y, n, l⟩ ⟨k, y, n', m⟩ = false) := by show _ = _; simp [Ye, d3]
    rw [HN.out];clear h;go_enter Try.func13, Try.ntmps13;go_wp2_with fail;go_ret;exact ⟨rfl, Zt _ _ _⟩
   ·have d2 : (y == y') = false := by simpa using h2
    have HN : Hid (Ye ⟨k, y, n, l⟩ ⟨k, y', n', m⟩ = false) := by show _ = _; simp [Ye, d2]
    rw [HN.out];clear h h2;go_enter Try.func13, Try.ntmps13;go_wp2_with fail;go_ret;exact ⟨rfl, Zt _ _ _⟩
  ·have d1 : (k == k') = false := by simpa using h1
   have HN : Hid (Ye ⟨k, y, n, l⟩ ⟨k', y', n', m⟩ = false) := by show _ = _; simp [Ye, d1]
   rw [HN.out];clear h h1;go_enter Try.func13, Try.ntmps13;go_wp2_with fail;go_ret;exact ⟨rfl, Zt _ _ _⟩
end Go.Proofs.Ytpdnapbchcdhlab
