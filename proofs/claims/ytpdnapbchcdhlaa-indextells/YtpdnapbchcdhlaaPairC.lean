import Derived.Test.YtpdnapbchcdhlaaRNew
import Derived.Test.YtpdnapbchcdhlaaIdxLaw
set_option maxHeartbeats 8000000
namespace Go.Proofs.Ytpdnapbchcdhlaa
set_option maxRecDepth 100000
open Go.RowKit
open Plain Reg
variable {S : Nat → Prop} {n : Nat} {v : Value} {w : World}
def V4 (S : Nat → Prop) (d : Dk) (v : Value) (w : World) : Prop := ∃ vb vl, v = .agg #[vb, vl] ∧ Xb S w vb d.blocks ∧ Qr S w vl d.late
theorem V4.grow {d : Dk} {w' : World} (h : V4 S d v w) (hg : Zm w w') : V4 S d v w' := by
 obtain ⟨vb, vl, h1, h2, h3⟩ := h; exact ⟨vb, vl, h1, h2.grow hg, h3.grow hg⟩
theorem V4.mono {S' : Nat → Prop} {d : Dk} (h : V4 S d v w) (hS : ∀ b, S b → S' b) : V4 S' d v w := by
 obtain ⟨vb, vl, h1, h2, h3⟩ := h; exact ⟨vb, vl, h1, h2.mono hS, h3.mono hS⟩
theorem V4.p {d : Dk} (h : V4 S d v w) : Qf d v w := by
 obtain ⟨vb, vl, h1, h2, h3⟩ := h; exact ⟨vb, vl, h1, h2.p, h3.p⟩
theorem Qf.s {d : Dk} (h : Qf d v w) : V4 (fun b => b < w.heap.size) d v w := by
 obtain ⟨vb, vl, h1, h2, h3⟩ := h; exact ⟨vb, vl, h1, h2.s, h3.s⟩
structure Dk.Fine (n : Nat) (d : Dk) : Prop where
 len : d.blocks.length = 12
 few : d.late.length ≤ n
 block : ∀ x ∈ d.blocks, x.length = 16
 late : ∀ x ∈ d.late, x.2.length = 16
 place : ∀ x ∈ d.late, 0 ≤ x.1 ∧ x.1 < 12
theorem Dk.right_fine {d : Dk} (h : d.right = true) : d.Fine 40 := by
 have h12 := Dk.right_len h;refine ⟨h12, Dk.right_few h, fun x hx => ?_, fun x hx => ?_, fun x hx => ?_⟩
 ·obtain ⟨i, hi, rfl⟩ := List.mem_iff_getElem.1 hx; exact Dk.right_block h i hi
 ·obtain ⟨i, hi, rfl⟩ := List.mem_iff_getElem.1 hx; exact (Dk.right_late h i hi).2.2
 ·obtain ⟨i, hi, rfl⟩ := List.mem_iff_getElem.1 hx;have := Dk.right_late h i hi;rw [h12] at this;exact ⟨this.1, this.2.1⟩
theorem Dk.Fine.mono {m : Nat} {d : Dk} (h : d.Fine n) (hm : n ≤ m) : d.Fine m := ⟨h.len, Nat.le_trans h.few hm, h.block, h.late, h.place⟩
theorem Dk.Fine.b16 {d : Dk} (h : d.Fine n) : ∀ x ∈ d.blocks, x.length ≤ 1000 := fun x hx => by rw [h.block x hx]; omega
theorem Dk.Fine.l16 {d : Dk} (h : d.Fine n) : ∀ x ∈ d.late, x.2.length ≤ 1000 := fun x hx => by rw [h.late x hx]; omega
theorem Dk.Fine.keep {d : Dk} (h : d.Fine n) (on : Nat → Bool) : ∀ k, k ≤ d.late.length → ∀ x ∈ d.keepTo on k, x.length = 16
 | 0, _ => h.block
 | k + 1, hk => by
  have ih := keep h on k (by omega);show ∀ x ∈ (if on k = true then _ else _ : List (List UInt8)), x.length = 16;split
  ·intro x hx;rcases List.mem_or_eq_of_mem_set hx with h1 | h1
   ·exact ih x h1
   ·rw [h1, Zff _ _ _ (by omega)]; exact h.late _ (List.getElem_mem _)
  ·exact ih
theorem Dk.Fine.kept {d : Dk} (h : d.Fine n) (bt : Int) : (d.keep bt).Fine 0 :=
 ⟨(d.keepTo_length _ _).trans h.len, Nat.le_refl _, h.keep _ _ (Nat.le_refl _), (fun x hx => by cases hx), (fun x hx => by cases hx)⟩
theorem Zcq (d : Dk) (v : Value) (w : World) (hd : Qf d v w) : Calls Try.prog 37 #[v] w fun e w' => e = .returned (.bool d.right) ∧ Zm w w' := by
 obtain ⟨vb, vl, rfl, h1, h2⟩ := hd;exact Zay d vb vl w h1 h2
theorem Z5.all {α : Type} {sh : Xh α} {S : Nat → Prop} {w : World} {v : Value} {xs : List α} (h : Z5 sh S w v xs) (hs : 0 < sh.size) : Z5 sh (fun b => b < w.heap.size) w v xs := (h.caps hs).mono fun _ h => h.2
theorem Zc1 : ∀ (n : Nat) (l : List Nat), l.Nodup → (∀ x ∈ l, x < n) → l.length ≤ n
 | 0, l, _, h => by
  cases l with
  | nil => simp
  | cons x l => exact absurd (h x (by simp)) (by omega)
 | n + 1, l, hn, h => by
  have h1 := Zc1 n (l.erase n) (hn.erase n) fun x hx => by
   have h2 := (hn.mem_erase_iff).1 hx;have := h x h2.2;omega
  by_cases hm : n ∈ l
  ·have := List.length_erase_of_mem hm;omega
  ·rw [List.erase_of_not_mem hm] at h1;omega
theorem right_len {l : List Ent} (h : Xq l = true) : l.length ≤ 1001 := by
 obtain ⟨h1, h2⟩ := (Xy l).1 h;have hn : (l.map fun x => x.pair.toNat).Nodup := by
  rw [List.nodup_iff_pairwise_ne, List.pairwise_map];exact List.Pairwise.imp_of_mem (fun ha hb hR e => hR.2 (by have := (h2 _ ha).2.2; have := (h2 _ hb).2.2; omega)) h1
 have := Zc1 1001 _ hn fun n hn => by
  obtain ⟨x, hx, rfl⟩ := List.mem_map.1 hn;have := (h2 x hx).2.2;omega
 simpa using this
def Zj9 : Prop := ∀ (S : Nat → Prop) (l : List Ent) (v : Value) (w : World), (∀ b, S b → b < w.heap.size) → Xq l = true → Yl S w v l →
 Calls Try.prog 65 #[v] w fun r w' => ∃ v', r = .returned v' ∧ Yl (Qg S w.heap.size) w' v' l ∧ Zm w w'
def Zi8 : Prop := ∀ (S : Nat → Prop) (d : Dk) (v : Value) (w : World), (∀ b, S b → b < w.heap.size) → d.Fine 900 → V4 S d v w →
 Calls Try.prog 59 #[v] w fun r w' => ∃ v', r = .returned v' ∧ Yl (Qg S w.heap.size) w' v' (Y3 d 6) ∧ Zm w w'
def Zja : Prop := ∀ (S : Nat → Prop) (l : List Ent) (pairs : Int) (v : Value) (w : World), Xq l = true → pairs ≤ 1000 → Yl S w v l →
 Calls Try.prog 64 #[v, .int .i64 pairs] w fun r w' => ∃ n, r = .returned (.int .i64 n) ∧ Ju l pairs n ∧ Zm w w'
def Zka : Prop := ∀ (S : Nat → Prop) (l : List Ent) (e : Ent) (a : Option Addr) (c : Nat) (v : Value) (w : World), (∀ b, S b → b < w.heap.size) → Xq l = true → (∀ x ∈ l, x.pair ≠ e.pair) → Z2 e.rc = 0 → Yl S w v l → Z4 S w (.slice a e.rc.data.length c) e.rc.data →
 Calls Try.prog 67 #[v, .agg #[.int .i64 e.rc.kind, .int .i64 e.rc.key, .int .i64 e.rc.ver, .slice a e.rc.data.length c, .int .i64 e.pair]] w fun r w' => ∃ v', r = .returned v' ∧ Yl (Qg S w.heap.size) w' v' (Y5 e l) ∧ Zm w w'
def Zjc : Prop := ∀ (S : Nat → Prop) (l : List Ent) (p : Int) (v : Value) (w : World), (∀ b, S b → b < w.heap.size) → Xq l = true → Yl S w v l →
 Calls Try.prog 66 #[v, .int .i64 p] w fun r w' => ∃ v', r = .returned v' ∧ Yl (Qg S w.heap.size) w' v' (X1 l p) ∧ Zm w w'
def Zca (S : Nat → Prop) (o : Option Ent) (v : Value) (w : World) : Prop := ∃ (x : Ent) (a : Option Addr) (c : Nat), v = .tuple #[.agg #[.int .i64 x.rc.kind, .int .i64 x.rc.key, .int .i64 x.rc.ver, .slice a x.rc.data.length c, .int .i64 x.pair], .bool o.isSome] ∧ ∀ y, o = some y → y = x ∧ Z4 S w (.slice a x.rc.data.length c) x.rc.data
def Zi9 : Prop := ∀ (S : Nat → Prop) (l : List Ent) (key : Int) (v : Value) (w : World), (∀ b, S b → b < w.heap.size) → Xq l = true → Yl S w v l →
 Calls Try.prog 62 #[v, .int .i64 key] w fun r w' => ∃ v', r = .returned v' ∧ Zca (Qg S w.heap.size) (X5 l key) v' w' ∧ Zm w w'
def Zjb : Prop := ∀ (S : Nat → Prop) (l : List Ent) (key ver : Int) (v : Value) (w : World), (∀ b, S b → b < w.heap.size) → Xq l = true → Yl S w v l →
 Calls Try.prog 63 #[v, .int .i64 key, .int .i64 ver] w fun r w' => ∃ v', r = .returned v' ∧ Zca (Qg S w.heap.size) (X0 l key ver) v' w' ∧ Zm w w'
end Go.Proofs.Ytpdnapbchcdhlaa
