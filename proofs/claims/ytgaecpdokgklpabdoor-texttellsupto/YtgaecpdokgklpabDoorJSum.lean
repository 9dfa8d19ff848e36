/-
  Sum, Seal, Sealed, Same: several texts in one.
-/
import Derived.Test.YtgaecpdokgklpabDoorProg
import Derived.Test.YtgaecpdokgklpabDoorJReg
import Derived.WalkKit
import Derived.WalkSpells
import Derived.WalkLawsBesides
import Derived.Laws.BitsAllLaws
import Derived.Laws.AppendOwnNone
import Derived.Handy
/-
  What sum.Of and the document's Sum tell of any bytes that lie in memory: their sum.
  Condition: the slice holds those bytes, and fewer than 2^47 of them.
-/
namespace Go.Proofs.YtgaecpdokgklpabDoor
set_option maxRecDepth 100000
open Go.RowKit
open Go.Proofs.YtgaecpdokgklpabDoor.Plain Go.Proofs.YtgaecpdokgklpabDoor.Reg

/-- The slice value v holds the bytes l. -/
def Bytes (w : World) (v : Value) (l : List UInt8) : Prop :=
 (∃ ao cap, v = .slice ao 0 cap ∧ l = [] ∧ (ao = none → cap = 0)) ∨
 (∃ b off cap, v = .slice (some ⟨b, off, none⟩) l.length cap ∧ l.length ≤ cap ∧ ∀ (i : Nat) (h : i < l.length), w.cell? ⟨b, off + i, none⟩ = some (.int .u8 (l[i].toNat : Int)))

theorem ret_int {k : IntKind} {a b : Int} (h : a = b) : Ending.returned (.int k a) = .returned (.int k b) := by rw [h]
theorem val_int {k : IntKind} {a b : Int} (h : a = b) : Value.int k a = .int k b := by rw [h]

theorem or_i64 (a b : Nat) (ha : a < 256) (hb : b < 256) : bits .or .i64 ((a : Int) * 256) (b : Int) = (a : Int) * 256 + (b : Int) := by
 have hx : a * 256 ||| b = a * 256 + b := nat_join 8 (a * 256) b (by omega) (by omega)
 have e1 : (BitVec.ofInt 64 ((a * 256 : Nat) : Int)).toNat = a * 256 := by
  rw [BitVec.ofInt_natCast, BitVec.toNat_ofNat]; exact Nat.mod_eq_of_lt (by omega)
 have e2 : (BitVec.ofInt 64 (b : Int)).toNat = b := by
  rw [BitVec.ofInt_natCast, BitVec.toNat_ofNat]; exact Nat.mod_eq_of_lt (by omega)
 rw [show ((a : Int) * 256) = ((a * 256 : Nat) : Int) from by omega]
 show IntKind.i64.wrap ((BitVec.ofInt 64 ((a * 256 : Nat) : Int) ||| BitVec.ofInt 64 (b : Int)).toNat : Int) = _
 rw [BitVec.toNat_or, e1, e2, hx, IntKind.wrap_i64]
 omega

end Go.Proofs.YtgaecpdokgklpabDoor

/-
  What sum.Seal and the document's Seal make of any bytes: those bytes and the two bytes of their sum behind, in memory of their own.
  Condition: the slice holds those bytes, and fewer than 2^47 - 2 of them.
-/
namespace Go.Proofs.YtgaecpdokgklpabDoor
set_option maxRecDepth 100000
open Go.RowKit
open Go.Proofs.YtgaecpdokgklpabDoor.Plain Go.Proofs.YtgaecpdokgklpabDoor.Reg

/-- A byte as a value. -/
def bv (c : UInt8) : Value := .int .u8 (c.toNat : Int)

theorem info_byte : (Tryd.prog.info? 5).map (fun i => (i.zero, i.size, i.bytes)) = some (some (.int .u8 0), 1, 1) := by kernel_rfl

/-- A slice of bytes as append wants its source. -/
theorem bytes_src {w : World} {v : Value} {l : List UInt8} (h : Bytes w v l) :
  ∃ ao cap, v = .slice ao l.length cap ∧ (ao = none → l.length = 0 ∧ cap = 0) ∧ (∀ ad, ao = some ad → ∀ (j : Nat) u, (l.map bv)[j]? = some u → w.cell? (ad.add j) = some u) := by
 rcases h with ⟨ao, cap, rfl, rfl, h0⟩ | ⟨b, off, cap, rfl, _, hc⟩
 ·exact ⟨ao, cap, rfl, fun h => ⟨rfl, h0 h⟩, fun ad _ j u hj => by simp at hj⟩
 ·refine ⟨_, cap, rfl, fun h => (by cases h), fun ad had j u hj => ?_⟩
  cases had
  rw [List.getElem?_map] at hj
  by_cases hl : j < l.length
  ·simp only [List.getElem?_eq_getElem hl, Option.map_some, bv, Option.some.injEq] at hj
   subst hj
   have e : (⟨b, off, none⟩ : Addr).add j = ⟨b, off + j, none⟩ := by simp [Addr.add]
   rw [e]
   exact hc j hl
  ·rw [List.getElem?_eq_none (by omega)] at hj; cases hj

theorem bv_oneCell (l : List UInt8) : ∀ u ∈ l.map bv, u.oneCell' = true := by
 intro u hu
 obtain ⟨c, _, rfl⟩ := List.mem_map.1 hu
 rfl

theorem grow_of_grown {w w1 w2 : World} {row : Option Nat} (h : Grow w w1) (hg : w1.grownBy w2 row) (hr : ∀ k, row = some k → w.heap.size ≤ k) : Grow w w2 :=
 Below.grown h hg h.size hr

theorem cell_lt {w : World} {p : Addr} {v : Value} (h : w.cell? p = some v) : p.block < w.heap.size := by
 rcases Nat.lt_or_ge p.block w.heap.size with hl | hl
 ·exact hl
 ·simp [World.cell?, Array.getElem?_eq_none hl] at h

theorem bytes_grow {w w' : World} {v : Value} {l : List UInt8} (h : Bytes w v l) (hg : Grow w w') : Bytes w' v l := by
 rcases h with h | ⟨b, off, cap, rfl, h1, hc⟩
 ·exact .inl h
 ·refine .inr ⟨b, off, cap, rfl, h1, fun i hi => ?_⟩
  have h2 := hc i hi
  rw [← h2]
  exact Below.cell hg (cell_lt h2)

/-- What is owned reads as bytes. -/
theorem bytes_own {w : World} {base : Nat} {e : TypeId} {v : Value} {n : Nat} {l : List UInt8} (h : w.ownsRow base e 1 v n (l.map bv)) : Bytes w v l := by
 have hl : l.length = n := by simpa using h.1
 subst hl
 rcases h.2 with ⟨rfl, h0⟩ | ⟨g, cap, cur, rfl, hb, hh, h1, h2, h3, h4⟩
 ·exact .inl ⟨none, 0, rfl, List.eq_nil_of_length_eq_zero h0, fun _ => rfl⟩
 ·refine .inr ⟨g, 0, cap, rfl, h1, fun i hi => ?_⟩
  have := h.cellAt i (by omega)
  rw [Nat.zero_add, this]
  simp [hi, bv]

theorem sealed_map (l : List UInt8) : (sealed l).map bv = l.map bv ++ [.int .u8 ((hi (sumOf l)).toNat : Int), .int .u8 ((lo (sumOf l)).toNat : Int)] := by
 simp [sealed, bv]

theorem news_two (w : World) (x y : Value) (e : TypeId) (j : Nat) (u : Value) (h : [x, y][j]? = some u) : (w.alloc (.cells #[x, y] e)).cell? ((⟨w.heap.size, 0, none⟩ : Addr).add j) = some u := by
 match j, h with
 | 0, h => simp at h; subst h; simp [Addr.add]
 | 1, h => simp at h; subst h; simp [Addr.add]
 | j + 2, h => simp at h

theorem grow_make {w w1 : World} (hg : w.grownBy w1 none) : Grow w w1 := grow_of_grown (Grow.refl w) hg (fun k h => by cases h)
theorem grow_row {w w1 w2 : World} (h : Grow w w1) (hg : w1.grownBy w2 (some w.heap.size)) : Grow w w2 := grow_of_grown h hg (fun k e => by cases e; exact Nat.le_refl _)
theorem grow_alloc (w : World) (o : Obj) : Grow w (w.alloc o) := Below.alloc (Below.refl _ _) (Nat.le_refl _) o

theorem src_grow {w w' : World} {ao : Option Addr} {l : List UInt8} (h : ∀ ad, ao = some ad → ∀ (j : Nat) u, (l.map bv)[j]? = some u → w.cell? (ad.add j) = some u) (hg : Grow w w') :
  ∀ ad, ao = some ad → ∀ (j : Nat) u, (l.map bv)[j]? = some u → w'.cell? (ad.add j) = some u := by
 intro ad ha j u hj
 have h2 := h ad ha j u hj
 rw [← h2]
 exact Below.cell hg (cell_lt h2)

theorem own_empty (w : World) : (w.alloc (.cells #[] 5)).ownsRow w.heap.size 5 1 (.slice (some ⟨w.heap.size, 0, none⟩) 0 0) 0 [] :=
 ⟨rfl, .inr ⟨w.heap.size, 0, #[], rfl, Nat.le_refl _, by show (w.heap.push _)[w.heap.size]? = _; simp, Nat.le_refl _, by unfold maxLen; omega, rfl, rfl⟩⟩

end Go.Proofs.YtgaecpdokgklpabDoor

/-
  What sum.Sealed tells of any bytes: whether there are two at least, and the last two are those of the sum of the ones ahead.
  Condition: the slice holds those bytes, and fewer than 2^47 of them.
-/
namespace Go.Proofs.YtgaecpdokgklpabDoor
set_option maxRecDepth 100000
open Go.RowKit
open Go.Proofs.YtgaecpdokgklpabDoor.Plain Go.Proofs.YtgaecpdokgklpabDoor.Reg

theorem slice_bytes {w : World} {b off cap n m : Nat} {l : List UInt8} (hl : l.length = m) (hn : n ≤ m) (hcap : m ≤ cap) (hc : ∀ (i : Nat) (h : i < l.length), w.cell? ⟨b, off + i, none⟩ = some (.int .u8 (l[i].toNat : Int))) :
  Bytes w (.slice (some ⟨b, off, none⟩) n cap) (l.take n) := by
 have e : (l.take n).length = n := by simp; omega
 refine .inr ⟨b, off, cap, by rw [e], by omega, fun i hi => ?_⟩
 rw [List.getElem_take]
 exact hc i (by omega)

/-- Bytes as a string. -/
def str (l : List UInt8) : Value := .string ⟨l.toArray⟩

theorem push_fold (l : List UInt8) : ∀ (s : ByteArray), (l.map (fun c => (c.toNat : Int))).foldl (fun r n => r.push (UInt8.ofNat n.toNat)) s = ⟨s.data ++ l.toArray⟩ := by
 induction l with
 | nil => intro s; simp
 | cons c l ih =>
  intro s
  simp only [List.map_cons, List.foldl_cons]
  rw [ih]
  simp [ByteArray.push]

theorem run_str (w : World) (v : Value) (l : List UInt8) (h : Bytes w v l) : (convert 22 9 v).run Tryd.prog w = .ok (str l) w := by
 obtain ⟨ao, cap, rfl, hnone, hcells⟩ := bytes_src h
 rw [run_convert_bytes_string w 22 9 5 ao l.length cap Tryd.underlying22 Tryd.underlying5 Tryd.underlying9]
 cases ao with
 | none =>
  obtain ⟨h1, _⟩ := hnone rfl
  obtain rfl := List.eq_nil_of_length_eq_zero h1
  rfl
 | some ad =>
  have h1 : (loadCells ad l.length).run Tryd.prog w = .ok ((l.map (fun c => (c.toNat : Int))).map (Value.int .u8)).toArray w := by
   have h2 := run_loadCells_list (P := Tryd.prog) (w := w) ad (l.map bv) (hcells ad rfl)
   simp only [List.length_map] at h2
   rw [h2]
   simp [bv, Function.comp_def]
  rw [run_bytesToString w ad l.length cap _ h1, push_fold]
  simp [str]

theorem st_bytes (l : List UInt8) : Stable (fun v w => Bytes w v l) := fun _ _ _ hg h => bytes_grow h hg

theorem sealedB_eq (l : List UInt8) (h : 2 ≤ l.length) : (sealed (l.take (l.length - 2)) == l) = sealedB l := by
 have hs := sumOf_bd (l.take (l.length - 2))
 have hl : l = l.take (l.length - 2) ++ [l[l.length - 2], l[l.length - 1]] := by
  conv => lhs; rw [← List.take_append_drop (l.length - 2) l]
  congr 1
  rw [List.drop_eq_getElem_cons (by omega), List.drop_eq_getElem_cons (by omega), List.drop_eq_nil_of_le (by omega)]
  simp [show l.length - 2 + 1 = l.length - 1 from by omega]
 have e1 : l.getD (l.length - 2) 0 = l[l.length - 2] := by rw [List.getD_eq_getElem?_getD, List.getElem?_eq_getElem (by omega)]; rfl
 have e2 : l.getD (l.length - 1) 0 = l[l.length - 1] := by rw [List.getD_eq_getElem?_getD, List.getElem?_eq_getElem (by omega)]; rfl
 unfold sealedB
 rw [decide_eq_true h, Bool.true_and, e1, e2, Bool.eq_iff_iff, beq_iff_eq, beq_iff_eq, two_eq _ _ _ hs.1 (by omega)]
 unfold sealed
 constructor
 ·intro h3
  have h4 : l.take (l.length - 2) ++ [hi (sumOf (l.take (l.length - 2))), lo (sumOf (l.take (l.length - 2)))] = l.take (l.length - 2) ++ [l[l.length - 2], l[l.length - 1]] := h3.trans hl
  have h5 := List.append_cancel_left h4
  simp only [List.cons.injEq, and_true] at h5
  exact h5
 ·rintro ⟨h3, h4⟩
  rw [h3, h4]
  exact hl.symm

end Go.Proofs.YtgaecpdokgklpabDoor

/-
  What block.Same and the document's Same tell of any two records: whether they are alike.
  Condition: the records' data lie in memory.
-/
namespace Go.Proofs.YtgaecpdokgklpabDoor
set_option maxRecDepth 100000
open Go.RowKit
open Go.Proofs.YtgaecpdokgklpabDoor.Plain Go.Proofs.YtgaecpdokgklpabDoor.Reg

theorem grow_alloc2 (w : World) (o p : Obj) : Grow w ((w.alloc o).alloc p) := (grow_alloc w o).trans (grow_alloc _ p)

end Go.Proofs.YtgaecpdokgklpabDoor
