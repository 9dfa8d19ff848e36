/-
  What block.Bytes makes of a right record at a place: the block that tells it.
  Condition: the record's data lie in memory.
-/
import Derived.Test.YtgaecpdokgklpabOwn
import Derived.Test.YtgaecpdokgklpabJReg
import Derived.Laws.CopyRow
namespace Go.Proofs.Ytgaecpdokgklpab
set_option maxRecDepth 100000
open Go.RowKit
open Go.Proofs.Ytgaecpdokgklpab.Plain Go.Proofs.Ytgaecpdokgklpab.Reg

/-- All but block g is as it was; more may be there. -/
structure GrowBut (g : Nat) (w w' : World) : Prop where
 os : w'.os = w.os
 tape : w'.tape = w.tape
 output : w'.output = w.output
 size : w.heap.size ≤ w'.heap.size
 block : ∀ k, k < w.heap.size → k ≠ g → w'.heap[k]? = w.heap[k]?
theorem GrowBut.refl (g : Nat) (w : World) : GrowBut g w w := ⟨rfl, rfl, rfl, Nat.le_refl _, fun _ _ _ => rfl⟩
theorem GrowBut.trans {g : Nat} {a b c : World} (h : GrowBut g a b) (k : GrowBut g b c) : GrowBut g a c :=
 ⟨k.os.trans h.os, k.tape.trans h.tape, k.output.trans h.output, Nat.le_trans h.size k.size, fun i hi hg => (k.block i (Nat.lt_of_lt_of_le hi h.size) hg).trans (h.block i hi hg)⟩
theorem GrowBut.of {g : Nat} {a b : World} (h : Grow a b) : GrowBut g a b := ⟨h.os, h.tape, h.output, h.size, fun k hk _ => h.block k hk⟩
theorem GrowBut.row {g : Nat} {a b : World} (h : GrowBut g a b) (c : Array Value) : GrowBut g a (b.setRow g c) :=
 h.trans ⟨rfl, rfl, rfl, by simp [World.setRow], fun k _ hk => by simp only [World.setRow, Array.getElem?_modify]; rw [if_neg (fun e => hk e.symm)]⟩
theorem GrowBut.set {g : Nat} {a b : World} (h : GrowBut g a b) (o : Nat) (s) (x : Value) : GrowBut g a (b.setCell ⟨g, o, s⟩ x) :=
 h.trans ⟨rfl, rfl, rfl, by simp, fun k _ hk => Below.heap_setCell _ _ _ _ hk⟩
theorem GrowBut.cell {g : Nat} {a b : World} (h : GrowBut g a b) {p : Addr} (hp : p.block < a.heap.size) (hg : p.block ≠ g) : b.cell? p = a.cell? p := World.cell?_of_block (h.block _ hp hg)
theorem GrowBut.grow {g : Nat} {w a b : World} (h : GrowBut g a b) (hw : Grow w a) (hg : w.heap.size ≤ g) : Grow w b :=
 Below.trans (a := w) (b := a) hw ⟨h.os, h.tape, h.output, h.size, fun k hk => h.block k (Nat.lt_of_lt_of_le hk hw.size) (by omega)⟩

theorem make14 (w : World) : (Instr.makeSlice 31 (.int .i64 14) (.int .i64 14)).run Try.prog w = .ok (.slice (some ⟨w.heap.size, 0, none⟩) 14 14)
  (w.alloc (.cells #[.int .u8 0, .int .u8 0, .int .u8 0, .int .u8 0, .int .u8 0, .int .u8 0, .int .u8 0, .int .u8 0, .int .u8 0, .int .u8 0, .int .u8 0, .int .u8 0, .int .u8 0, .int .u8 0] 5)) := by
 obtain ⟨i0, hif, hz0, hz1, hz2⟩ := info_parts info_byte
 have h := run_make (P := Try.prog) w 31 5 i0 (.int .u8 0) Try.underlying31 hif hz0 .i64 .i64 14 14 (by omega) (by omega) (by rw [hz2]; omega) (by omega)
 rw [h, hz1, show madeCells (Value.int .u8 0).cells (Int.toNat 14 * 1) = #[.int .u8 0, .int .u8 0, .int .u8 0, .int .u8 0, .int .u8 0, .int .u8 0, .int .u8 0, .int .u8 0, .int .u8 0, .int .u8 0, .int .u8 0, .int .u8 0, .int .u8 0, .int .u8 0] from by kernel_rfl]
 rfl

theorem GrowBut.drew {g : Nat} {a b : World} (h : GrowBut g a b) : GrowBut g a b.drew := ⟨h.os, h.tape, h.output, h.size, h.block⟩
theorem GrowBut.frozen {g : Nat} {a b : World} (h : GrowBut g a b) {p : Addr} (hp : p.block < a.heap.size) (hg : p.block ≠ g) : b.frozen? p = a.frozen? p := World.frozen?_of_block (h.block _ hp hg)

/-- Block g is a row of just these bytes. -/
def RowB (w : World) (g : Nat) (xs : List UInt8) : Prop := w.heap[g]? = some (.cells (xs.map bv).toArray 5 (0, 0))
theorem RowB.lt {w : World} {g : Nat} {xs : List UInt8} (h : RowB w g xs) : g < w.heap.size := by
 rcases Nat.lt_or_ge g w.heap.size with hl | hl
 ·exact hl
 ·unfold RowB at h; rw [Array.getElem?_eq_none hl] at h; cases h
theorem RowB.grow {w w' : World} {g : Nat} {xs : List UInt8} (h : RowB w g xs) (hg : Grow w w') : RowB w' g xs := (hg.block g h.lt).trans h
theorem RowB.drew {w : World} {g : Nat} {xs : List UInt8} (h : RowB w g xs) : RowB w.drew g xs := h
theorem RowB.cell {w : World} {g : Nat} {xs : List UInt8} (h : RowB w g xs) (i : Nat) (hi : i < xs.length) : w.cell? ⟨g, i, none⟩ = some (.int .u8 (xs[i].toNat : Int)) := by
 unfold RowB at h
 simp [World.cell?, h, hi, bv]
theorem RowB.frozen {w : World} {g : Nat} {xs : List UInt8} (h : RowB w g xs) (i : Nat) : w.frozen? ⟨g, i, none⟩ = false := by
 unfold RowB at h
 simp [World.frozen?, h]
theorem RowB.set {w : World} {g : Nat} {xs : List UInt8} (h : RowB w g xs) (i : Nat) (c : UInt8) : RowB (w.setCell ⟨g, i, none⟩ (.int .u8 (c.toNat : Int))) g (xs.set i c) := by
 unfold RowB at h ⊢
 simp only [World.setCell, Array.getElem?_modify, if_true, h, Option.map_some]
 simp [List.map_set, bv]
theorem RowB.row {w : World} {g : Nat} {xs ys : List UInt8} (h : RowB w g xs) : RowB (w.setRow g (ys.map bv).toArray) g ys := by
 unfold RowB at h ⊢
 simp only [World.setRow, Array.getElem?_modify, if_true, h, Option.map_some]
theorem RowB.bytes {w : World} {g : Nat} {xs : List UInt8} (h : RowB w g xs) (o n cap : Nat) (hn : o + n ≤ xs.length) (hc : n ≤ cap) : Bytes w (.slice (some ⟨g, o, none⟩) n cap) ((xs.drop o).take n) := by
 have e : ((xs.drop o).take n).length = n := by simp; omega
 refine .inr ⟨g, o, cap, by rw [e], by omega, fun i hi => ?_⟩
 rw [h.cell (o + i) (by omega)]
 simp
theorem RowB.alloc (w : World) (xs : List UInt8) : RowB (w.alloc (.cells (xs.map bv).toArray 5)) w.heap.size xs := by
 unfold RowB World.alloc
 simp

theorem bytes_but {g : Nat} {w w' : World} {v : Value} {l : List UInt8} (h : Bytes w v l) (hg : GrowBut g w w') (hn : ∀ b o n c, v = .slice (some ⟨b, o, none⟩) n c → b ≠ g) : Bytes w' v l := by
 rcases h with h | ⟨b, off, cap, rfl, h1, hc⟩
 ·exact .inl h
 ·refine .inr ⟨b, off, cap, rfl, h1, fun i hi => ?_⟩
  have h2 := hc i hi
  rw [← h2]
  exact hg.cell (cell_lt h2) (hn _ _ _ _ rfl)

theorem size_byte : (Try.prog.info? 5).map (·.size) = some 1 := by
 have := info_byte
 cases h : Try.prog.info? 5 with
 | none => rw [h] at this; cases this
 | some i => rw [h] at this; simp at this; simp [this]

/-- 'copy' into a row of bytes. -/
theorem copy_row (w : World) (g o dLen dCap : Nat) (xs ys : List UInt8) (v : Value) (ty : TypeId) (hrow : RowB w g xs) (hsrc : Bytes w v ys) (hfit : o + dLen ≤ xs.length) (hle : ys.length ≤ dLen) :
  ∃ w', (Builtin.copy_ #[31, 31] ty #[.slice (some ⟨g, o, none⟩) dLen dCap, v]).run Try.prog w = .ok (goInt ys.length) w' ∧ GrowBut g w w' ∧ RowB w' g (xs.take o ++ ys ++ xs.drop (o + ys.length)) := by
 obtain ⟨ao, cap, rfl, hnone, hcells⟩ := bytes_src hsrc
 by_cases h0 : ys.length = 0
 ·obtain rfl := List.eq_nil_of_length_eq_zero h0
  refine ⟨w, ?_, GrowBut.refl _ _, by simpa using hrow⟩
  exact run_copy_none (P := Try.prog) w 31 31 ty 5 _ ao dLen dCap 0 cap Try.underlying31 size_byte (by simp)
 ·cases ao with
  | none => exact absurd (hnone rfl).1 h0
  | some ad =>
   have h := run_copy_row (P := Try.prog) w 31 31 ty 5 g o dLen dCap ad ys.length cap (xs.map bv).toArray 5 (ys.map bv) Try.underlying31 size_byte hrow (by rw [List.length_map]; exact (Nat.min_eq_left hle).symm) (hcells ad rfl) (by simp; omega) (bv_oneCell ys)
   rw [h]
   have e : ((xs.map bv).toArray.toList.take o ++ ys.map bv ++ (xs.map bv).toArray.toList.drop (o + (ys.map bv).length)) = (xs.take o ++ ys ++ xs.drop (o + ys.length)).map bv := by simp [List.map_take, List.map_drop]
   rw [e]
   exact ⟨_, by simp, (GrowBut.refl _ _).row _, hrow.row⟩

theorem bv_lo (k : Int) (h0 : 0 ≤ k) (h1 : k < 256) : bv (lo k) = .int .u8 k := by unfold bv; rw [lo_val]; exact val_int (by omega)

/-- Two bytes of n, in a row from block B on. -/
def TwoQ (B : Nat) (n : Int) (v : Value) (w : World) : Prop := ∃ b cap, B ≤ b ∧ v = .slice (some ⟨b, 0, none⟩) 2 cap ∧ Bytes w v [hi n, lo n]
theorem st_twoq (B : Nat) (n : Int) : Stable (TwoQ B n) := by
 rintro v w w' hg ⟨b, cap, h1, h2, h3⟩
 exact ⟨b, cap, h1, h2, bytes_grow h3 hg⟩
theorem bytes_two (w : World) (n : Int) : Bytes (w.alloc (.cells #[.int .u8 ((hi n).toNat : Int), .int .u8 ((lo n).toNat : Int)] 5)) (.slice (some ⟨w.heap.size, 0, none⟩) 2 2) [hi n, lo n] := by
 refine .inr ⟨w.heap.size, 0, 2, rfl, by simp, fun i hi => ?_⟩
 match i, hi with
 | 0, _ => simp
 | 1, _ => simp
theorem sp_twoq (B g : Nat) (n : Int) (h : g < B) (v : Value) (w w' : World) (hg : GrowBut g w w') (hq : TwoQ B n v w) : TwoQ B n v w' := by
 obtain ⟨b, cap, h1, rfl, h3⟩ := hq
 exact ⟨b, cap, h1, rfl, bytes_but h3 hg (fun b' o n c e => by cases e; omega)⟩

/-- A row on its way from one state to the next, all else as it was. -/
def Way (g : Nat) (W : World) (xs ys : List UInt8) (w : World) : Prop := GrowBut g W w ∧ (RowB w g xs ∨ RowB w g ys)
theorem Way.start {g : Nat} {W : World} {xs ys : List UInt8} (h : RowB W g xs) : Way g W xs ys W.drew := ⟨(GrowBut.refl _ _).drew, .inl h⟩
theorem Way.grow {g : Nat} {W w w' : World} {xs ys : List UInt8} (h : Way g W xs ys w) (hg : Grow w w') : Way g W xs ys w' := ⟨h.1.trans (GrowBut.of hg), or_map h.2 (·.grow hg) (·.grow hg)⟩

theorem st_row (g : Nat) (xs : List UInt8) : Stable (fun _ w => RowB w g xs) := fun _ _ _ hg h => RowB.grow h hg
theorem run_goInt (n : Nat) : goInt n = .int .i64 (n : Int) := rfl

theorem body_eq1 (k y n at_ : Int) (l : List UInt8) :
  (([lo k, lo at_, lo y, hi n, lo n] ++ List.replicate 9 0).set 5 (lo (l.length : Int))).take 6 ++ l ++ (([lo k, lo at_, lo y, hi n, lo n] ++ List.replicate 9 0).set 5 (lo (l.length : Int))).drop (6 + l.length) = body ⟨k, y, n, l⟩ at_ := by
 have e : ([lo k, lo at_, lo y, hi n, lo n] ++ List.replicate 9 0).set 5 (lo (l.length : Int)) = [lo k, lo at_, lo y, hi n, lo n, lo (l.length : Int)] ++ List.replicate 8 0 := by
  simp [List.replicate]
 have e2 : ([lo k, lo at_, lo y, hi n, lo n, lo (l.length : Int)] ++ List.replicate 8 (0 : UInt8)).drop (6 + l.length) = List.replicate (8 - l.length) 0 := by
  rw [List.drop_append, List.drop_eq_nil_of_le (by simp), List.nil_append, List.drop_replicate]
  congr 1
  simp
 rw [e, e2]
 simp [body]
theorem body_eq2 (k y n at_ : Int) (l : List UInt8) :
  (body ⟨k, y, n, l⟩ at_).take 6 ++ l ++ (body ⟨k, y, n, l⟩ at_).drop (6 + l.length) = body ⟨k, y, n, l⟩ at_ := by
 unfold body
 rw [List.drop_append, List.drop_append]
 simp

end Go.Proofs.Ytgaecpdokgklpab
