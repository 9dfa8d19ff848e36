/-
  What is asked of the program's pair: the contracts of Look, Put and Mend, as premises. No program but its functions' numbers.
-/
import Derived.Test.YtgaecpdokgklpabJPd
import Derived.Test.YtgaecpdokgklpabPairLaw
import Derived.Test.YtgaecpdokgklpabRNew
import Derived.Test.YtgaecpdokgklpabJRd
namespace Go.Proofs.Ytgaecpdokgklpab
set_option maxRecDepth 100000
open Go.RowKit
open Go.Proofs.Ytgaecpdokgklpab.Plain Go.Proofs.Ytgaecpdokgklpab.Reg

/-- A disk that leans on the blocks S of memory. -/
def DiskS (S : Nat → Prop) (d : Dk) (v : Value) (w : World) : Prop := ∃ vb vl, v = .agg #[vb, vl] ∧ BlocksS S w vb d.blocks ∧ LateS S w vl d.late
theorem DiskS.grow {S : Nat → Prop} {d : Dk} {v : Value} {w w' : World} (h : DiskS S d v w) (hg : Grow w w') : DiskS S d v w' := by
 obtain ⟨vb, vl, h1, h2, h3⟩ := h; exact ⟨vb, vl, h1, h2.grow hg, h3.grow hg⟩
theorem DiskS.mono {S S' : Nat → Prop} {d : Dk} {v : Value} {w : World} (h : DiskS S d v w) (hS : ∀ b, S b → S' b) : DiskS S' d v w := by
 obtain ⟨vb, vl, h1, h2, h3⟩ := h; exact ⟨vb, vl, h1, h2.mono hS, h3.mono hS⟩
theorem DiskS.but {S : Nat → Prop} {g : Nat} {d : Dk} {v : Value} {w w' : World} (h : DiskS S d v w) (hg : GrowBut g w w') (hn : ¬ S g) : DiskS S d v w' := by
 obtain ⟨vb, vl, h1, h2, h3⟩ := h; exact ⟨vb, vl, h1, h2.but hg hn, h3.but hg hn⟩
theorem DiskS.p {S : Nat → Prop} {d : Dk} {v : Value} {w : World} (h : DiskS S d v w) : DiskP d v w := by
 obtain ⟨vb, vl, h1, h2, h3⟩ := h; exact ⟨vb, vl, h1, h2.p, h3.p⟩
theorem DiskP.s {d : Dk} {v : Value} {w : World} (h : DiskP d v w) : DiskS (fun b => b < w.heap.size) d v w := by
 obtain ⟨vb, vl, h1, h2, h3⟩ := h; exact ⟨vb, vl, h1, h2.s, h3.s⟩
theorem DiskS.form {S : Nat → Prop} {d : Dk} {v : Value} {w : World} (h : DiskS S d v w) : ∃ ab cb al cl, v = .agg #[.slice ab d.blocks.length cb, .slice al d.late.length cl] ∧ BlocksS S w (.slice ab d.blocks.length cb) d.blocks ∧ LateS S w (.slice al d.late.length cl) d.late := by
 obtain ⟨vb, vl, h1, h2, h3⟩ := h
 obtain ⟨ab, cb, rfl⟩ := h2.p.form
 obtain ⟨al, cl, rfl⟩ := h3.p.form
 exact ⟨ab, cb, al, cl, h1, h2, h3⟩
/-- A disk all rows of which are its own leans on what is new. -/
theorem DiskQ.s {B : Nat} {d : Dk} {v : Value} {w : World} (S : Nat → Prop) (h : DiskQ B d v w) : DiskS (Upon S B) d v w := by
 obtain ⟨vb, vl, h1, ⟨us, h2⟩, ⟨ut, h3⟩⟩ := h
 refine ⟨vb, vl, h1, ?_, ?_⟩
 ·rcases h2.row.2 with ⟨rfl, h0⟩ | ⟨q, cap, cur, rfl, hb, hh, k1, k2, k3, k4⟩
  ·exact .inl ⟨none, 0, rfl, List.eq_nil_of_length_eq_zero h0, fun _ => rfl⟩
  ·refine .inr ⟨q, 0, cap, .inr hb, rfl, k1, fun i hi => ?_⟩
   have c0 := h2.row.cellAt i (by omega)
   obtain ⟨u, hu1, hu2⟩ := h2.each i hi
   rw [hu1] at c0
   exact ⟨u, by rw [Nat.zero_add]; exact c0, own_s S hu2⟩
 ·exact (late_own (S := Upon S B) h3.row h3.len (fun i hi => (h3.each i hi).imp fun _ hu => ⟨hu.1, own_s S hu.2⟩)).mono (fun b hb => hb.elim (fun x => x) .inr)

/-- A disk as the document has them, of at most n late writes. -/
structure Dk.Fine (n : Nat) (d : Dk) : Prop where
 len : d.blocks.length = 12
 few : d.late.length ≤ n
 block : ∀ x ∈ d.blocks, x.length = 16
 late : ∀ x ∈ d.late, x.2.length = 16
 place : ∀ x ∈ d.late, 0 ≤ x.1 ∧ x.1 < 12
theorem Dk.right_fine {d : Dk} (h : d.right = true) : d.Fine 40 := by
 have h12 := Dk.right_len h
 refine ⟨h12, Dk.right_few h, fun x hx => ?_, fun x hx => ?_, fun x hx => ?_⟩
 ·obtain ⟨i, hi, rfl⟩ := List.mem_iff_getElem.1 hx; exact Dk.right_block h i hi
 ·obtain ⟨i, hi, rfl⟩ := List.mem_iff_getElem.1 hx; exact (Dk.right_late h i hi).2.2
 ·obtain ⟨i, hi, rfl⟩ := List.mem_iff_getElem.1 hx
  have := Dk.right_late h i hi
  rw [h12] at this
  exact ⟨this.1, this.2.1⟩
theorem Dk.Fine.mono {n m : Nat} {d : Dk} (h : d.Fine n) (hm : n ≤ m) : d.Fine m := ⟨h.len, Nat.le_trans h.few hm, h.block, h.late, h.place⟩
theorem Dk.Fine.b16 {n : Nat} {d : Dk} (h : d.Fine n) : ∀ x ∈ d.blocks, x.length ≤ 1000 := fun x hx => by rw [h.block x hx]; omega
theorem Dk.Fine.l16 {n : Nat} {d : Dk} (h : d.Fine n) : ∀ x ∈ d.late, x.2.length ≤ 1000 := fun x hx => by rw [h.late x hx]; omega
theorem Dk.Fine.pl {n : Nat} {d : Dk} (h : d.Fine n) : ∀ x ∈ d.late, 0 ≤ x.1 ∧ x.1 < (d.blocks.length : Int) := fun x hx => by rw [h.len]; exact h.place x hx
theorem Dk.Fine.pair {n : Nat} {d : Dk} (h : d.Fine n) (p : Int) (r : Rec) : (d.pairD p r).Fine (n + 2) := by
 unfold Dk.pairD
 by_cases he : d.pairE p r = 0
 ·rw [if_pos he]
  unfold Dk.pairE at he
  by_cases ho : p < 0 ∨ ((d.blocks.length / 2 : Nat) : Int) ≤ p
  ·rw [if_pos ho] at he; omega
  ·rw [if_neg ho] at he
   have hl := (right_bd he).2.2.2.2.2.2
   have h12 := h.len
   rw [h12] at ho
   refine ⟨h.len, by show (d.late ++ [_, _]).length ≤ _; have := h.few; simp; omega, h.block, fun x hx => ?_, fun x hx => ?_⟩
   ·rcases List.mem_append.1 (show x ∈ d.late ++ [_, _] from hx) with h1 | h1
    ·exact h.late x h1
    ·rcases List.mem_cons.1 h1 with rfl | h2
     ·exact blk_length r _ hl
     ·rw [List.mem_singleton.1 h2]; exact blk_length r _ hl
   ·rcases List.mem_append.1 (show x ∈ d.late ++ [_, _] from hx) with h1 | h1
    ·exact h.place x h1
    ·rcases List.mem_cons.1 h1 with rfl | h2
     ·show 0 ≤ 2 * p ∧ 2 * p < 12; omega
     ·rw [List.mem_singleton.1 h2]; show 0 ≤ 2 * p + 1 ∧ 2 * p + 1 < 12; omega
 ·rw [if_neg he]; exact h.mono (by omega)
theorem Dk.Fine.mend {n : Nat} {d : Dk} (h : d.Fine n) (p : Int) : (d.mendD p).Fine (n + 2) := by
 unfold Dk.mendD
 split
 ·exact h.pair p _
 ·exact h.mono (by omega)
theorem Dk.Fine.keep {n : Nat} {d : Dk} (h : d.Fine n) (on : Nat → Bool) : ∀ k, k ≤ d.late.length → ∀ x ∈ d.keepTo on k, x.length = 16
 | 0, _ => h.block
 | k + 1, hk => by
  have ih := keep h on k (by omega)
  show ∀ x ∈ (if on k = true then _ else _ : List (List UInt8)), x.length = 16
  split
  ·intro x hx
   rcases List.mem_or_eq_of_mem_set hx with h1 | h1
   ·exact ih x h1
   ·rw [h1, getD_at _ _ _ (by omega)]; exact h.late _ (List.getElem_mem _)
  ·exact ih
theorem Dk.Fine.kept {n : Nat} {d : Dk} (h : d.Fine n) (bt : Int) : (d.keep bt).Fine 0 :=
 ⟨(d.keepTo_length _ _).trans h.len, Nat.le_refl _, h.keep _ _ (Nat.le_refl _), (fun x hx => by cases hx), (fun x hx => by cases hx)⟩
theorem Dk.Fine.flush {n : Nat} {d : Dk} (h : d.Fine n) : d.flush.Fine 0 :=
 ⟨(d.keepTo_length _ _).trans h.len, Nat.le_refl _, h.keep _ _ (Nat.le_refl _), (fun x hx => by cases hx), (fun x hx => by cases hx)⟩
theorem Dk.Fine.spoil {n : Nat} {d : Dk} (h : d.Fine n) (a k y : Int) : (d.spoil a k y).Fine n := by
 unfold Dk.spoil
 split
 ·rename_i ha
  refine ⟨by rw [List.length_set]; exact h.len, h.few, fun x hx => ?_, h.late, h.place⟩
  rcases List.mem_or_eq_of_mem_set hx with h1 | h1
  ·exact h.block x h1
  ·rw [h1, turned_length, getD_at _ _ _ (by omega)]; exact h.block _ (List.getElem_mem _)
 ·exact h
theorem new_fine : Dk.new.Fine 0 :=
 ⟨rfl, Nat.le_refl _, fun x hx => by
  obtain ⟨i, hi, rfl⟩ := List.mem_iff_getElem.1 hx
  rw [new_at i hi]; exact blk_length _ _ (by simp), (fun x hx => by cases hx), (fun x hx => by cases hx)⟩

/-! ### The document's answers, told of disks -/

theorem Dk.pairD_blocks (d : Dk) (p : Int) (r : Rec) : (d.pairD p r).blocks = d.blocks := by unfold Dk.pairD; split <;> rfl
theorem Dk.mendD_blocks (d : Dk) (p : Int) : (d.mendD p).blocks = d.blocks := by
 unfold Dk.mendD; split
 ·exact d.pairD_blocks p _
 ·rfl
theorem rright_c (d : Dk) (v : Value) (w : World) (hd : DiskP d v w) : Calls Try.prog 9 #[v] w fun e w' => e = .returned (.bool d.right) ∧ Grow w w' := by
 obtain ⟨vb, vl, rfl, h1, h2⟩ := hd
 exact rightDisk_any d vb vl w h1 h2
theorem rlook_c (d : Dk) (p : Int) (v : Value) (w : World) (hd : DiskP d v w) (hlen : d.blocks.length ≤ 256) (hm : d.late.length ≤ 999990) :
  Calls Try.prog 12 #[v, .int .i64 p] w fun e w' => ∃ dv, e = .returned (.tuple #[.int .i64 (d.how p), .agg #[.int .i64 (d.tell p).kind, .int .i64 (d.tell p).key, .int .i64 (d.tell p).ver, dv]]) ∧ w'.ownsRow w.heap.size 5 1 dv (d.tell p).data.length ((d.tell p).data.map bv) ∧ Grow w w' := by
 obtain ⟨vb, vl, rfl, h1, h2⟩ := hd
 exact look_any _ d p vb vl w h1.s h2.s hlen hm
theorem rputPair_c (S : Nat → Prop) (d : Dk) (p k y n : Int) (l : List UInt8) (v u : Value) (w : World) (hS : ∀ b, S b → b < w.heap.size) (hd : DiskS S d v w) (hu : Bytes w u l) (hlen : d.blocks.length ≤ 256) (hm : d.late.length ≤ 999990) :
  Calls Try.prog 32 #[v, .int .i64 p, .agg #[.int .i64 k, .int .i64 y, .int .i64 n, u]] w fun e w' => ∃ v', e = .returned (.tuple #[v', .int .i64 (d.pairE p ⟨k, y, n, l⟩)]) ∧ DiskS (Upon S w.heap.size) (d.pairD p ⟨k, y, n, l⟩) v' w' ∧ Grow w w' := by
 obtain ⟨vb, vl, rfl, h1, h2⟩ := hd
 refine (putPair_any S d p k y n l vb vl u w hS h1.p h2 hu hlen hm).mono fun e w' ⟨vl', h3, h4, h5⟩ => ⟨_, h3, ⟨vb, vl', rfl, ?_, h4⟩, h5⟩
 rw [d.pairD_blocks]; exact (h1.grow h5).mono upon_l
theorem rnew_c (S : Nat → Prop) (w : World) : Calls Try.prog 33 #[] w fun e w' => ∃ v, e = .returned v ∧ DiskS (Upon S w.heap.size) Dk.new v w' ∧ Grow w w' :=
 (newDisk_any w).mono fun _ _ ⟨v, h1, h2, h3⟩ => ⟨v, h1, h2.s S, h3⟩

def LookC : Prop := ∀ (d : Dk) (p : Int) (v : Value) (w : World), d.Fine 900 → DiskP d v w →
 Calls Try.prog 37 #[v, .int .i64 p] w fun e w' => ∃ dv, e = .returned (.tuple #[.int .i64 (d.how p), .agg #[.int .i64 (d.tell p).kind, .int .i64 (d.tell p).key, .int .i64 (d.tell p).ver, dv]]) ∧ w'.ownsRow w.heap.size 5 1 dv (d.tell p).data.length ((d.tell p).data.map bv) ∧ Grow w w'
end Go.Proofs.Ytgaecpdokgklpab
