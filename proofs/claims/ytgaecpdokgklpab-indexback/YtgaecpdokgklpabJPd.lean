/-
  PBlocks, PLate, POwn, PGet, PPut, DkP, PFlush, PNew: several texts in one.
-/
import Derived.Test.YtgaecpdokgklpabROut
import Derived.Laws.OwnMore
import Derived.Test.YtgaecpdokgklpabRRead
import Derived.Test.YtgaecpdokgklpabDkLaw
import Derived.Test.YtgaecpdokgklpabJReg
/-
  Disks whose rows are all their own, and what the program's disk.ownBlocks makes of blocks.
  Condition: the blocks lie in memory, at most 256 of them, of at most 1000 bytes.
-/
namespace Go.Proofs.Ytgaecpdokgklpab
set_option maxRecDepth 100000
open Go.RowKit
open Go.Proofs.Ytgaecpdokgklpab.Plain Go.Proofs.Ytgaecpdokgklpab.Reg

/-- The slice v is a row of its own, from block B on, of slices us that are rows of their own of these bytes. -/
structure OwnU (B : Nat) (v : Value) (bs : List (List UInt8)) (us : List Value) (w : World) : Prop where
 len : us.length = bs.length
 row : w.ownsRow B 31 1 v bs.length us
 each : ∀ i (hi : i < bs.length), ∃ u, us[i]? = some u ∧ w.ownsRow B 5 1 u bs[i].length (bs[i].map bv)
/-- No two of them are the same row. -/
def Apart (us : List Value) : Prop := ∀ (i j : Nat) (u u' : Value) (p : Nat), i < j → us[i]? = some u → us[j]? = some u' → u.ownBlock = some p → u'.ownBlock ≠ some p
def OwnBs (B : Nat) (v : Value) (bs : List (List UInt8)) (w : World) : Prop := ∃ us, OwnU B v bs us w
theorem OwnU.grow {B : Nat} {v : Value} {bs : List (List UInt8)} {us : List Value} {w w' : World} (h : OwnU B v bs us w) (hg : Grow w w') : OwnU B v bs us w' :=
 ⟨h.len, own_grow h.row hg, fun i hi => (h.each i hi).imp fun _ hu => ⟨hu.1, own_grow hu.2 hg⟩⟩
theorem OwnU.mono {B B' : Nat} {v : Value} {bs : List (List UInt8)} {us : List Value} {w : World} (h : OwnU B v bs us w) (hb : B' ≤ B) : OwnU B' v bs us w :=
 ⟨h.len, own_mono h.row hb, fun i hi => (h.each i hi).imp fun _ hu => ⟨hu.1, own_mono hu.2 hb⟩⟩
theorem OwnU.box {B : Nat} {v : Value} {bs : List (List UInt8)} {us : List Value} {w w' : World} (h : OwnU B v bs us w) (hs : BoxStep 25 w w') : OwnU B v bs us w' :=
 ⟨h.len, own_box (by decide) hs h.row, fun i hi => (h.each i hi).imp fun _ hu => ⟨hu.1, own_box (by decide) hs hu.2⟩⟩
theorem OwnU.p {B : Nat} {v : Value} {bs : List (List UInt8)} {us : List Value} {w : World} (h : OwnU B v bs us w) : BlocksP w v bs := by
 rcases h.row.2 with ⟨rfl, h0⟩ | ⟨q, cap, cur, rfl, hb, hh, k1, k2, k3, k4⟩
 ·exact .inl ⟨none, 0, rfl, List.eq_nil_of_length_eq_zero h0, fun _ => rfl⟩
 ·refine .inr ⟨q, 0, cap, rfl, k1, fun i hi => ?_⟩
  have c0 := h.row.cellAt i (by omega)
  obtain ⟨u, hu1, hu2⟩ := h.each i hi
  rw [hu1] at c0
  exact ⟨u, by rw [Nat.zero_add]; exact c0, bytes_own hu2⟩
theorem OwnBs.grow {B : Nat} {v : Value} {bs : List (List UInt8)} {w w' : World} (h : OwnBs B v bs w) (hg : Grow w w') : OwnBs B v bs w' := h.imp fun _ x => x.grow hg
theorem OwnBs.mono {B B' : Nat} {v : Value} {bs : List (List UInt8)} {w : World} (h : OwnBs B v bs w) (hb : B' ≤ B) : OwnBs B' v bs w := h.imp fun _ x => x.mono hb
theorem OwnBs.box {B : Nat} {v : Value} {bs : List (List UInt8)} {w w' : World} (h : OwnBs B v bs w) (hs : BoxStep 25 w w') : OwnBs B v bs w' := h.imp fun _ x => x.box hs
theorem OwnBs.p {B : Nat} {v : Value} {bs : List (List UInt8)} {w : World} (h : OwnBs B v bs w) : BlocksP w v bs := h.elim fun _ x => x.p
theorem OwnBs.form {B : Nat} {v : Value} {bs : List (List UInt8)} {w : World} (h : OwnBs B v bs w) : ∃ ao cap, v = .slice ao bs.length cap := h.p.form

theorem makeBlocks (w : World) (n : Nat) (hn : n ≤ 256) : (Instr.makeSlice 22 (.int .i64 (n : Int)) (.int .i64 (n : Int))).run Try.prog w = .ok (.slice (some ⟨w.heap.size, 0, none⟩) n n) (w.alloc (.cells (Array.replicate n (.slice none 0 0)) 31)) := by
 obtain ⟨i0, hif, hz0, hz1, hz2⟩ := info_parts info_bytes
 have h := run_make (P := Try.prog) w 22 31 i0 (.slice none 0 0) Try.underlying22 hif hz0 .i64 .i64 n n (by omega) (by omega) (by rw [hz2]; omega) (by omega)
 rw [h, hz1]
 have e : madeCells (Value.slice none 0 0).cells ((n : Int).toNat * 1) = Array.replicate n (Value.slice none 0 0) := by
  have h2 := toList_madeCells_one (.slice none 0 0) n
  rw [Int.toNat_natCast, Nat.mul_one, ← List.toArray_replicate, ← h2]
  rfl
 rw [e, Int.toNat_natCast]

/-- What holds while blocks are copied, k of them done. -/
structure CopyL (B : Nat) (bs : List (List UInt8)) (k : Nat) (us : List Value) (w : World) : Prop where
 len : us.length = bs.length
 row : w.ownsRow B 31 1 (.slice (some ⟨B, 0, none⟩) bs.length bs.length) bs.length us
 each : ∀ i (hi : i < bs.length), i < k → ∃ u, us[i]? = some u ∧ w.ownsRow B 5 1 u bs[i].length (bs[i].map bv)
 apart : ∀ (i j : Nat) (u u' : Value) (p : Nat), i < j → j < k → us[i]? = some u → us[j]? = some u' → u.ownBlock = some p → u'.ownBlock ≠ some p

theorem own_block {w : World} {B n : Nat} {e : TypeId} {size g cap : Nat} {xs : List Value} (h : w.ownsRow B e size (.slice (some ⟨g, 0, none⟩) n cap) n xs) : ∃ cur, w.heap[g]? = some (.cells cur e (0, 0)) := by
 rcases h.2 with ⟨e, _⟩ | ⟨q', cap', cur, e, _, hh, _⟩
 ·cases e
 ·cases e; exact ⟨cur, hh⟩

theorem CopyL.step {B k : Nat} {bs : List (List UInt8)} {us : List Value} {w w1 : World} {u : Value} (h : CopyL B bs k us w) (hk : k < bs.length) (hB : B ≤ w.heap.size) (hg : Grow w w1) (hu : w1.ownsRow w.heap.size 5 1 u bs[k].length (bs[k].map bv)) : CopyL B bs (k + 1) (us.set k u) (w1.setCell ⟨B, k, none⟩ u) := by
 obtain ⟨cur, hcur⟩ := own_block (own_grow h.row hg)
 refine ⟨by rw [List.length_set]; exact h.len, ((own_grow h.row hg).stored k u).1, fun i hi hik => ?_, fun i j x x' p hij hjk hx hx' hp => ?_⟩
 ·by_cases e : k = i
  ·subst e
   exact ⟨u, by rw [List.getElem?_set]; simp [h.len, hi], own_type2 (own_mono hu hB) hcur (by decide)⟩
  ·obtain ⟨x, h1, h2⟩ := h.each i hi (by omega)
   exact ⟨x, by rw [List.getElem?_set]; simp [e, h1], own_type2 (own_grow h2 hg) hcur (by decide)⟩
 ·have hi : i < bs.length := by omega
  rw [List.getElem?_set, if_neg (by omega)] at hx
  by_cases e : k = j
  ·subst e
   rw [List.getElem?_set, if_pos rfl, if_pos (by rw [h.len]; exact hk)] at hx'
   cases hx'
   obtain ⟨y, h1, h2⟩ := h.each i hi (by omega)
   rw [hx] at h1; cases h1
   intro hq
   have a1 := (h2.lt p hp).2
   have a2 := (hu.lt p hq).1
   omega
  ·rw [List.getElem?_set, if_neg e] at hx'
   exact h.apart i j x x' p hij (by omega) hx hx' hp

end Go.Proofs.Ytgaecpdokgklpab

/-
  Late writes whose rows are all their own, and what the program's disk.ownWrites makes of writes.
  Condition: the writes lie in memory, at most 1000 of them, of at most 1000 bytes.
-/
namespace Go.Proofs.Ytgaecpdokgklpab
set_option maxRecDepth 100000
open Go.RowKit
open Go.Proofs.Ytgaecpdokgklpab.Plain Go.Proofs.Ytgaecpdokgklpab.Reg

/-- The slice v is a row of its own, from block B on, of these writes, the bytes us of each a row of its own. -/
structure OwnL (B : Nat) (v : Value) (ws : List Wr) (us : List Value) (w : World) : Prop where
 len : us.length = ws.length
 row : w.ownsRow B 68 2 v ws.length (flat ws us)
 each : ∀ i (hi : i < ws.length), ∃ u, us[i]? = some u ∧ w.ownsRow B 5 1 u ws[i].2.length (ws[i].2.map bv)
def OwnLt (B : Nat) (v : Value) (ws : List Wr) (w : World) : Prop := ∃ us, OwnL B v ws us w
theorem OwnL.grow {B : Nat} {v : Value} {ws : List Wr} {us : List Value} {w w' : World} (h : OwnL B v ws us w) (hg : Grow w w') : OwnL B v ws us w' :=
 ⟨h.len, own_grow h.row hg, fun i hi => (h.each i hi).imp fun _ hu => ⟨hu.1, own_grow hu.2 hg⟩⟩
theorem OwnL.mono {B B' : Nat} {v : Value} {ws : List Wr} {us : List Value} {w : World} (h : OwnL B v ws us w) (hb : B' ≤ B) : OwnL B' v ws us w :=
 ⟨h.len, own_mono h.row hb, fun i hi => (h.each i hi).imp fun _ hu => ⟨hu.1, own_mono hu.2 hb⟩⟩
theorem OwnL.box {B : Nat} {v : Value} {ws : List Wr} {us : List Value} {w w' : World} (h : OwnL B v ws us w) (hs : BoxStep 25 w w') : OwnL B v ws us w' :=
 ⟨h.len, own_box (by decide) hs h.row, fun i hi => (h.each i hi).imp fun _ hu => ⟨hu.1, own_box (by decide) hs hu.2⟩⟩
theorem OwnL.p {B : Nat} {v : Value} {ws : List Wr} {us : List Value} {w : World} (h : OwnL B v ws us w) : LateP w v ws :=
 (late_own (S := Upon (fun _ => False) B) h.row h.len (fun i hi => (h.each i hi).imp fun _ hu => ⟨hu.1, own_s _ hu.2⟩)).p
theorem OwnLt.grow {B : Nat} {v : Value} {ws : List Wr} {w w' : World} (h : OwnLt B v ws w) (hg : Grow w w') : OwnLt B v ws w' := h.imp fun _ x => x.grow hg
theorem OwnLt.mono {B B' : Nat} {v : Value} {ws : List Wr} {w : World} (h : OwnLt B v ws w) (hb : B' ≤ B) : OwnLt B' v ws w := h.imp fun _ x => x.mono hb
theorem OwnLt.box {B : Nat} {v : Value} {ws : List Wr} {w w' : World} (h : OwnLt B v ws w) (hs : BoxStep 25 w w') : OwnLt B v ws w' := h.imp fun _ x => x.box hs
theorem OwnLt.p {B : Nat} {v : Value} {ws : List Wr} {w : World} (h : OwnLt B v ws w) : LateP w v ws := h.elim fun _ x => x.p
theorem OwnLt.form {B : Nat} {v : Value} {ws : List Wr} {w : World} (h : OwnLt B v ws w) : ∃ ao cap, v = .slice ao ws.length cap := h.p.form
theorem OwnLt.nil (B : Nat) (w : World) : OwnLt B (.slice none 0 0) [] w := ⟨[], rfl, World.ownsRow_nil _ _ _ _, fun i hi => by simp at hi⟩

/-- One write more. -/
theorem OwnL.snoc {B : Nat} {v u : Value} {ws : List Wr} {us : List Value} {w : World} {x : Wr} (hl : us.length = ws.length) (hr : w.ownsRow B 68 2 v (ws.length + 1) (flat ws us ++ [.int .i64 x.1, u]))
  (he : ∀ i (hi : i < ws.length), ∃ u, us[i]? = some u ∧ w.ownsRow B 5 1 u ws[i].2.length (ws[i].2.map bv)) (hu : w.ownsRow B 5 1 u x.2.length (x.2.map bv)) : OwnL B v (ws ++ [x]) (us ++ [u]) w := by
 refine ⟨by simp [hl], ?_, fun i hi => ?_⟩
 ·rw [flat_app ws us x u hl]; simpa using hr
 ·by_cases hi2 : i < ws.length
  ·obtain ⟨y, h1, h2⟩ := he i hi2
   refine ⟨y, by rw [List.getElem?_append_left (by omega)]; exact h1, ?_⟩
   rw [List.getElem_append_left hi2]; exact h2
  ·have e : i = ws.length := by simp at hi; omega
   subst e
   exact ⟨u, by rw [← hl]; simp, by simpa using hu⟩

theorem makeWrites (w : World) (n : Nat) (hn : n ≤ 10000) : ∃ c, c.size = n * 2 ∧ (Instr.makeSlice 23 (.int .i64 0) (.int .i64 (n : Int))).run Try.prog w = .ok (.slice (some ⟨w.heap.size, 0, none⟩) 0 n) (w.alloc (.cells c 68)) := by
 obtain ⟨i0, hif, hz0, hz1, hz2⟩ := info_parts info_write
 have h := run_make (P := Try.prog) w 23 68 i0 (.agg #[.int .i64 0, .slice none 0 0]) Try.underlying23 hif hz0 .i64 .i64 0 n (by omega) (by omega) (by rw [hz2]; omega) (by omega)
 rw [h, hz1]
 exact ⟨_, size_madeCells _ _, by rw [Int.toNat_natCast]; rfl⟩

/-- The row in block g grew, or nothing was done. -/
def RowStep (g : Nat) (w w' : World) : Prop := w' = w ∨ w.grownBy w' (some g)
theorem own_past {w w' : World} {base g : Nat} {e : TypeId} {size : Nat} {v : Value} {n : Nat} {xs : List Value} (hs : RowStep g w w') (hg : g < base) (h : w.ownsRow base e size v n xs) : w'.ownsRow base e size v n xs := by
 rcases hs with rfl | hs
 ·exact h
 ·refine ⟨h.1, or_map h.2 (fun x => x) fun ⟨q, cap, cur, h1, h2, h3, r⟩ => ⟨q, cap, cur, h1, h2, ?_, r⟩⟩
  rw [hs.block _ (heap_lt h3) (by intro e; cases e; omega)]
  exact h3
theorem own_past2 {w w' : World} {base g : Nat} {e T : TypeId} {c f} {size : Nat} {v : Value} {n : Nat} {xs : List Value} (hs : w.grownBy w' (some g)) (hg : w.heap[g]? = some (.cells c T f)) (hT : e ≠ T) (h : w.ownsRow base e size v n xs) : w'.ownsRow base e size v n xs := by
 refine ⟨h.1, or_map h.2 (fun x => x) fun ⟨q, cap, cur, h1, h2, h3, r⟩ => ⟨q, cap, cur, h1, h2, ?_, r⟩⟩
 rw [hs.block _ (heap_lt h3) (by intro e; cases e; rw [hg] at h3; cases h3; exact hT rfl)]
 exact h3

/-- What holds while a write is appended. -/
def LateJ (w : World) (g bx : Nat) (c : Array Value) (v : Value) (ws : List Wr) (us : List Value) (dn : Nat → Bool) (w' : World) : Prop :=
 Grow w w' ∧ w'.heap[bx]? = some (.cells c 68 (0, 0)) ∧ (dn 8 = false → w'.ownsRow g 68 2 v ws.length (flat ws us)) ∧
  (∀ i (hi : i < ws.length), ∃ u, us[i]? = some u ∧ w'.ownsRow g 5 1 u ws[i].2.length (ws[i].2.map bv))
theorem LateJ.grow {w : World} {g bx : Nat} {c : Array Value} {v : Value} {ws : List Wr} {us : List Value} {dn : Nat → Bool} {w' w'' : World} (h : LateJ w g bx c v ws us dn w') (hg : Grow w' w'') : LateJ w g bx c v ws us dn w'' :=
 ⟨h.1.trans hg, (hg.block _ (heap_lt h.2.1)).trans h.2.1, fun h8 => own_grow (h.2.2.1 h8) hg, fun i hi => (h.2.2.2 i hi).imp fun _ hu => ⟨hu.1, own_grow hu.2 hg⟩⟩
def WrP (g : Nat) (x : Wr) (v : Value) (w : World) : Prop := ∃ u, v = .agg #[.int .i64 x.1, u] ∧ w.ownsRow (g + 1) 5 1 u x.2.length (x.2.map bv)
def OneW (g : Nat) (x : Wr) (v : Value) (w : World) : Prop := ∃ b0 u, v = .slice (some ⟨b0, 0, none⟩) 1 1 ∧ g < b0 ∧ w.heap[b0]? = some (.cells #[.int .i64 x.1, u] 68 (0, 0)) ∧ w.ownsRow (g + 1) 5 1 u x.2.length (x.2.map bv)
def AppW (g cap : Nat) (ws : List Wr) (us : List Value) (x : Wr) (v : Value) (w : World) : Prop := v = .slice (some ⟨g, 0, none⟩) (ws.length + 1) cap ∧ ∃ u, w.ownsRow g 68 2 v (ws.length + 1) (flat ws us ++ [.int .i64 x.1, u]) ∧ w.ownsRow (g + 1) 5 1 u x.2.length (x.2.map bv)
theorem st_wrp (g : Nat) (x : Wr) : Stable (WrP g x) := by
 rintro v w w' hg ⟨u, h1, h2⟩; exact ⟨u, h1, own_grow h2 hg⟩
theorem sp_wrp {g : Nat} {x : Wr} {v : Value} {w w' : World} (hs : RowStep g w w') (h : WrP g x v w) : WrP g x v w' := by
 obtain ⟨u, h1, h2⟩ := h; exact ⟨u, h1, own_past hs (by omega) h2⟩
theorem st_onew (g : Nat) (x : Wr) : Stable (OneW g x) := by
 rintro v w w' hg ⟨b0, u, h1, h2, h3, h4⟩; exact ⟨b0, u, h1, h2, (hg.block _ (heap_lt h3)).trans h3, own_grow h4 hg⟩
theorem sp_onew {g : Nat} {x : Wr} {v : Value} {w w' : World} (hs : RowStep g w w') (h : OneW g x v w) : OneW g x v w' := by
 obtain ⟨b0, u, h1, h2, h3, h4⟩ := h
 refine ⟨b0, u, h1, h2, ?_, own_past hs (by omega) h4⟩
 rcases hs with rfl | hs
 ·exact h3
 ·exact (hs.block _ (heap_lt h3) (by intro e; cases e; omega)).trans h3
theorem st_appw (g cap : Nat) (ws : List Wr) (us : List Value) (x : Wr) : Stable (AppW g cap ws us x) := by
 rintro v w w' hg ⟨h1, u, h2, h3⟩; exact ⟨h1, u, own_grow h2 hg, own_grow h3 hg⟩
theorem st_ownb (B : Nat) (l : List UInt8) : Stable (fun v w => w.ownsRow B 5 1 v l.length (l.map bv)) := fun _ _ _ hg h => own_grow h hg

/-- 'append' of one write that fits. -/
theorem app_write (w : World) (g cap b0 : Nat) (ws : List Wr) (us : List Value) (x : Wr) (u : Value) (ty : TypeId) (hown : w.ownsRow g 68 2 (.slice (some ⟨g, 0, none⟩) ws.length cap) ws.length (flat ws us)) (hx : w.heap[b0]? = some (.cells #[.int .i64 x.1, u] 68 (0, 0))) (hu : u.oneCell' = true) (hm : ws.length < cap) :
  ∃ w', (Builtin.append_ #[23, 23] ty #[.slice (some ⟨g, 0, none⟩) ws.length cap, .slice (some ⟨b0, 0, none⟩) 1 1]).run Try.prog w = .ok (.slice (some ⟨g, 0, none⟩) (ws.length + 1) cap) w' ∧ w'.ownsRow g 68 2 (.slice (some ⟨g, 0, none⟩) (ws.length + 1) cap) (ws.length + 1) (flat ws us ++ [.int .i64 x.1, u]) ∧ w.grownBy w' (some g) := by
 obtain ⟨i0, hif, hz0, hz1, hz2⟩ := info_parts info_write
 exact run_append_fits (P := Try.prog) w g 23 ty 68 i0 2 Try.underlying23 hif hz1 g ws.length cap (flat ws us) hown ⟨b0, 0, none⟩ 1 1 [.int .i64 x.1, u] rfl
  (fun j z hj => by
   match j, hj with
   | 0, hj => simp at hj; subst hj; simp [Addr.add, World.cell?, hx]
   | 1, hj => simp at hj; subst hj; simp [Addr.add, World.cell?, hx]
   | j + 2, hj => simp at hj) (by intro z hz; simp at hz; rcases hz with rfl | rfl <;> first | rfl | exact hu) (by omega)

end Go.Proofs.Ytgaecpdokgklpab

/-
  What the program's disk.Own makes of a disk: the same, all of it in memory of its own.
  Condition: the disk lies in memory, of at most 256 blocks and 1000 writes, of at most 1000 bytes.
-/
namespace Go.Proofs.Ytgaecpdokgklpab
set_option maxRecDepth 100000
open Go.RowKit
open Go.Proofs.Ytgaecpdokgklpab.Plain Go.Proofs.Ytgaecpdokgklpab.Reg

/-- A disk all rows of which are its own, from block B on. -/
def DiskQ (B : Nat) (d : Dk) (v : Value) (w : World) : Prop := ∃ vb vl, v = .agg #[vb, vl] ∧ OwnBs B vb d.blocks w ∧ OwnLt B vl d.late w
theorem DiskQ.grow {B : Nat} {d : Dk} {v : Value} {w w' : World} (h : DiskQ B d v w) (hg : Grow w w') : DiskQ B d v w' := by
 obtain ⟨vb, vl, h1, h2, h3⟩ := h; exact ⟨vb, vl, h1, h2.grow hg, h3.grow hg⟩
theorem DiskQ.mono {B B' : Nat} {d : Dk} {v : Value} {w : World} (h : DiskQ B d v w) (hb : B' ≤ B) : DiskQ B' d v w := by
 obtain ⟨vb, vl, h1, h2, h3⟩ := h; exact ⟨vb, vl, h1, h2.mono hb, h3.mono hb⟩
theorem DiskQ.box {B : Nat} {d : Dk} {v : Value} {w w' : World} (h : DiskQ B d v w) (hs : BoxStep 25 w w') : DiskQ B d v w' := by
 obtain ⟨vb, vl, h1, h2, h3⟩ := h; exact ⟨vb, vl, h1, h2.box hs, h3.box hs⟩
theorem st_diskq (B : Nat) (d : Dk) : Stable (DiskQ B d) := fun _ _ _ hg h => h.grow hg

/-- All of these rows lie ahead of block C. -/
def Ahead (us : List Value) (C : Nat) : Prop := ∀ (i : Nat) (u : Value) (p : Nat), us[i]? = some u → u.ownBlock = some p → p < C
/-- .. of which no two blocks are the same row, nor a block's and a write's. -/
def DiskA (B : Nat) (d : Dk) (v : Value) (w : World) : Prop := ∃ vb vl us C, v = .agg #[vb, vl] ∧ OwnU B vb d.blocks us w ∧ Apart us ∧ Ahead us C ∧ B ≤ C ∧ OwnLt C vl d.late w
theorem DiskA.grow {B : Nat} {d : Dk} {v : Value} {w w' : World} (h : DiskA B d v w) (hg : Grow w w') : DiskA B d v w' := by
 obtain ⟨vb, vl, us, C, h1, h2, h3, h4, h5, h6⟩ := h; exact ⟨vb, vl, us, C, h1, h2.grow hg, h3, h4, h5, h6.grow hg⟩
theorem DiskA.mono {B B' : Nat} {d : Dk} {v : Value} {w : World} (h : DiskA B d v w) (hb : B' ≤ B) : DiskA B' d v w := by
 obtain ⟨vb, vl, us, C, h1, h2, h3, h4, h5, h6⟩ := h; exact ⟨vb, vl, us, C, h1, h2.mono hb, h3, h4, by omega, h6⟩
theorem DiskA.q {B : Nat} {d : Dk} {v : Value} {w : World} (h : DiskA B d v w) : DiskQ B d v w := by
 obtain ⟨vb, vl, us, C, h1, h2, h3, h4, h5, h6⟩ := h; exact ⟨vb, vl, h1, ⟨us, h2⟩, h6.mono h5⟩
theorem DiskA.box {B : Nat} {d : Dk} {v : Value} {w w' : World} (h : DiskA B d v w) (hs : BoxStep 25 w w') : DiskA B d v w' := by
 obtain ⟨vb, vl, us, C, h1, h2, h3, h4, h5, h6⟩ := h; exact ⟨vb, vl, us, C, h1, h2.box hs, h3, h4, h5, h6.box hs⟩
theorem st_diska (B : Nat) (d : Dk) : Stable (DiskA B d) := fun _ _ _ hg h => h.grow hg
/-- Writes behind the blocks v5. -/
def LtQ (B : Nat) (d : Dk) (v v5 : Value) (w : World) : Prop := ∃ us C, OwnU B v5 d.blocks us w ∧ Apart us ∧ Ahead us C ∧ B ≤ C ∧ OwnLt C v d.late w
theorem st_ltq (B : Nat) (d : Dk) (i : Nat) : StableW (pl1 i (LtQ B d)) := by
 rintro v ds w w' hg ⟨us, C, h2, h3, h4, h5, h6⟩
 exact ⟨us, C, h2.grow hg, h3, h4, h5, h6.grow hg⟩
theorem sp_ltq {B : Nat} {d : Dk} {v v5 : Value} {w w' : World} (hs : BoxStep 25 w w') (h : LtQ B d v v5 w) : LtQ B d v v5 w' := by
 obtain ⟨us, C, h2, h3, h4, h5, h6⟩ := h; exact ⟨us, C, h2.box hs, h3, h4, h5, h6.box hs⟩
theorem ahead_now {B : Nat} {v : Value} {bs : List (List UInt8)} {us : List Value} {w : World} (h : OwnU B v bs us w) : Ahead us w.heap.size := by
 intro i u p h1 h2
 have hi : i < bs.length := by
  rcases Nat.lt_or_ge i us.length with h' | h'
  ·rw [← h.len]; exact h'
  ·rw [List.getElem?_eq_none h'] at h1; cases h1
 obtain ⟨x, h3, h4⟩ := h.each i hi
 rw [h1] at h3; cases h3
 exact (h4.lt p h2).2
def BlkA (B : Nat) (bs : List (List UInt8)) (v : Value) (w : World) : Prop := ∃ us, OwnU B v bs us w ∧ Apart us
theorem st_blka (B : Nat) (bs : List (List UInt8)) : Stable (BlkA B bs) := fun _ _ _ hg h => h.imp fun _ x => ⟨x.1.grow hg, x.2⟩
theorem sp_blka {B : Nat} {bs : List (List UInt8)} {v : Value} {w w' : World} (hs : BoxStep 25 w w') (h : BlkA B bs v w) : BlkA B bs v w' := h.imp fun _ x => ⟨x.1.box hs, x.2⟩
theorem st_ownlt (B : Nat) (ws : List Wr) : Stable (fun v w => OwnLt B v ws w) := fun _ _ _ hg h => OwnLt.grow h hg
/-- A variable holds the disk that v is. -/
def HeldA (B g : Nat) (d : Dk) (v : Value) (w : World) : Prop := ∃ vb vl, w.heap[g]? = some (.cells #[vb, vl] 25 (0, 0)) ∧ v = .agg #[vb, vl] ∧ DiskA B d v w
theorem st_helda (B g : Nat) (d : Dk) (i : Nat) : StableW (pl1 i (fun _ v w => HeldA B g d v w)) := by
 rintro v ds w w' hg ⟨vb, vl, h2, h1, h3⟩
 exact ⟨vb, vl, (hg.block _ (heap_lt h2)).trans h2, h1, h3.grow hg⟩

/-- What holds while a disk is copied into the variable in block g + 1. -/
def OwnJ (w : World) (c : Array Value) (dn : Nat → Bool) (w' : World) : Prop :=
 Grow w w' ∧ w'.heap[w.heap.size]? = some (.cells c 25 (0, 0)) ∧ w.heap.size + 1 < w'.heap.size ∧ (dn 7 = false → w'.heap[w.heap.size + 1]? = some (.cells #[.slice none 0 0, .slice none 0 0] 25 (0, 0)))
theorem OwnJ.grow {w : World} {c : Array Value} {dn : Nat → Bool} {w' w'' : World} (h : OwnJ w c dn w') (hg : Grow w' w'') : OwnJ w c dn w'' :=
 ⟨h.1.trans hg, (hg.block _ (heap_lt h.2.1)).trans h.2.1, Nat.lt_of_lt_of_le h.2.2.1 hg.size, fun hd => (hg.block _ (heap_lt (h.2.2.2 hd))).trans (h.2.2.2 hd)⟩

end Go.Proofs.Ytgaecpdokgklpab

/-
  What the program's disk.has and disk.Get tell of any disk.
  Condition: the disk lies in memory, its blocks of at most 1000 bytes.
-/
namespace Go.Proofs.Ytgaecpdokgklpab
set_option maxRecDepth 100000
open Go.RowKit
open Go.Proofs.Ytgaecpdokgklpab.Plain Go.Proofs.Ytgaecpdokgklpab.Reg

def hasB (n : Nat) (a : Int) : Bool := decide (0 ≤ a ∧ a < (n : Int))

set_option maxHeartbeats 1000000 in
theorem has_any (n : Nat) (a : Int) (ab al : Option Addr) (cb nl cl : Nat) (w : World) :
  Calls Try.prog 104 #[.agg #[.slice ab n cb, .slice al nl cl], .int .i64 a] w fun e w' => e = .returned (.bool (hasB n a)) ∧ Grow w w' := by
 by_cases h0 : 0 ≤ a
 ·by_cases h1 : a < (n : Int)
  ·have HB : Hid (hasB n a = true) := by show hasB n a = true; unfold hasB; simp [h0, h1]
   rw [HB.out]
   go_enter Try.func104, Try.ntmps104
   go_wp2_with fail
   go_ret
   exact ⟨rfl, grow_alloc _ _⟩
  ·have HB : Hid (hasB n a = false) := by show hasB n a = false; unfold hasB; simp; omega
   rw [HB.out]
   go_enter Try.func104, Try.ntmps104
   go_wp2_with fail
   go_ret
   exact ⟨rfl, grow_alloc _ _⟩
 ·have HB : Hid (hasB n a = false) := by show hasB n a = false; unfold hasB; simp; omega
  rw [HB.out]
  have h2 : a < 0 := by omega
  clear h0
  go_enter Try.func104, Try.ntmps104
  go_wp2_with fail
  go_ret
  exact ⟨rfl, grow_alloc _ _⟩

set_option maxHeartbeats 2000000 in
theorem get_any (d : Dk) (a : Int) (vb vl : Value) (w : World) (hb : BlocksP w vb d.blocks) (hl : LateP w vl d.late) (hm2 : d.late.length ≤ 999990) (hb16 : ∀ x ∈ d.blocks, x.length ≤ 1000) (hl16 : ∀ x ∈ d.late, x.2.length ≤ 1000) :
  Calls Try.prog 89 #[.agg #[vb, vl], .int .i64 a] w fun e w' => ∃ v, e = .returned (.tuple #[v, .int .i64 (d.getE a)]) ∧ w'.ownsRow w.heap.size 5 1 v ((d.get a).getD []).length (((d.get a).getD []).map bv) ∧ Grow w w' := by
 obtain ⟨ab, cb, rfl⟩ := hb.form
 obtain ⟨al, cl, rfl⟩ := hl.form
 have gW := grow_alloc w (.cells #[.slice ab d.blocks.length cb, .slice al d.late.length cl] 25)
 have hx := heap_new w #[.slice ab d.blocks.length cb, .slice al d.late.length cl] 25
 by_cases hout : a < 0 ∨ (d.blocks.length : Int) ≤ a
 ·have HE : Hid (d.getE a = 3) := by show d.getE a = 3; unfold Dk.getE; rw [if_pos hout]
  have HG : Hid (d.get a = none) := by show d.get a = none; unfold Dk.get; rw [if_pos hout]
  have HH : Hid (hasB d.blocks.length a = false) := by show hasB _ a = false; unfold hasB; simp; omega
  rw [HE.out, HG.out]
  clear hout
  go_enter Try.func89, Try.ntmps89
  go_wp2_with fail
  refine (has_any d.blocks.length a _ _ _ _ _ _).mono ?_
  rw [HH.out]
  rintro e w1 ⟨rfl, g1⟩
  go_wp2_with fail
  go_ret2
  exact ⟨_, rfl, World.ownsRow_nil _ _ _ _, gW.trans g1⟩
 ·have HE : Hid (d.getE a = 0) := by show d.getE a = 0; unfold Dk.getE; rw [if_neg hout]
  have HG : Hid (d.get a = some ((lastW d.late a).getD (d.blocks.getD a.toNat []))) := by show d.get a = _; unfold Dk.get; rw [if_neg hout]
  have HH : Hid (hasB d.blocks.length a = true) := by show hasB _ a = true; unfold hasB; simp; omega
  rw [HE.out, HG.out, Option.getD_some]
  obtain ⟨p, rfl⟩ := Int.eq_ofNat_of_zero_le (by omega : 0 ≤ a)
  have hp : p < d.blocks.length := by omega
  clear hout
  rw [Int.toNat_natCast]
  obtain ⟨R, hR⟩ : ∃ R, R = (lastW d.late (p : Int)).getD (d.blocks.getD p []) := ⟨_, rfl⟩
  rw [← hR]
  have HR : Hid _ := hR
  clear hR
  have hsz := World.size_alloc w (.cells #[.slice ab d.blocks.length cb, .slice al d.late.length cl] 25)
  go_enter Try.func89, Try.ntmps89
  go_wp2_with fail
  refine (has_any d.blocks.length (p : Int) _ _ _ _ _ _).mono ?_
  rw [HH.out]
  rintro e W ⟨rfl, g1⟩
  have gW1 := gW.trans g1
  have hx1 := (g1.block _ (heap_lt hx)).trans hx
  have hbW := hb.grow gW1
  have hlW := hl.grow gW1
  clear hb hl hx gW g1 hsz
  obtain ⟨x0, x1⟩ := box2 hx1 rfl rfl
  go_wp2_with fail
  go_loop [6] (fun i => ∃ k : Nat, k ≤ d.late.length ∧ i = .int .i64 ((k : Int) - 1) ∧ lastW d.late p = lastW (d.late.take k) p) (fun i => (intOf i + 1).toNat)
  case atStart => exact ⟨d.late.length, Nat.le_refl _, rfl, by rw [List.take_length]⟩
  case round =>
   obtain ⟨k, hk, rfl, hla⟩ := hrel
   have HLA : Hid (lastW d.late p = lastW (d.late.take k) p) := hla
   clear hla
   match k, hk, HLA with
   | 0, hk, HLA =>
    have HB : Hid (lastW d.late p = none) := HLA
    obtain ⟨b, off, rfl, u, hu, hub⟩ := hbW.at p hp
    have hle := hb16 _ (List.getElem_mem hp)
    have hRe : R = d.blocks[p] := by rw [HR.out, HB.out, Option.getD_none]; exact getD_at _ _ _ hp
    rw [← hRe] at hub hle
    obtain ⟨au, cu, rfl, -, -⟩ := bytes_src hub
    clear HLA hRe
    go_wp2_with fail
    refine (clone_any R _ _ (by omega) hub).mono ?_
    rintro e w2 ⟨v2, rfl, ho, g2⟩
    obtain ⟨a2, c2, rfl⟩ := own_slice ho
    go_wp2_with fail
    go_ret2
    exact ⟨_, rfl, own_mono ho gW1.size, gW1.trans g2⟩
   | k + 1, hk, HLA =>
    have hkl : k < d.late.length := by omega
    obtain ⟨b, off, rfl, hc0, u, hu, hub⟩ := hlW.at k hkl
    have hle := hl16 _ (List.getElem_mem hkl)
    have hst := lastW_take d.late p k hkl
    by_cases he : d.late[k].1 = (p : Int)
    ·rw [he] at hc0
     rw [if_pos he] at hst
     have hRe : R = d.late[k].2 := by rw [HR.out, HLA.out.trans hst, Option.getD_some]
     rw [← hRe] at hub hle
     clear HLA hst he hRe
     obtain ⟨au, cu, rfl, -, -⟩ := bytes_src hub
     have e1 : ((k + 1 : Nat) : Int) - 1 = (k : Int) := by omega
     rw [e1]
     clear e1
     go_wp2_with fail
     refine (clone_any R _ _ (by omega) hub).mono ?_
     rintro e w2 ⟨v2, rfl, ho, g2⟩
     obtain ⟨a2, c2, rfl⟩ := own_slice ho
     go_wp2_with fail
     go_ret2
     exact ⟨_, rfl, own_mono ho gW1.size, gW1.trans g2⟩
    ·rw [if_neg he] at hst
     have HV : Hid (lastW d.late p = lastW (d.late.take k) p) := HLA.out.trans hst
     have d2 : (d.late[k].1 == (p : Int)) = false := beq_false' he
     clear HLA hst he hub hle
     generalize d.late[k].1 = q at *
     have e1 : ((k + 1 : Nat) : Int) - 1 = (k : Int) := by omega
     rw [e1]
     clear e1
     go_wp2_with fail
     go_round
     case rel => exact ⟨k, by omega, by go_num, HV.out⟩
     case measure => simp [intOf]
end Go.Proofs.Ytgaecpdokgklpab

/-
  What the program's disk.Put makes of a disk.
  Condition: the disk lies in memory, of at most 256 blocks and 1000 writes, of at most 1000 bytes; the bytes that are put do.
-/
namespace Go.Proofs.Ytgaecpdokgklpab
set_option maxRecDepth 100000
open Go.RowKit
open Go.Proofs.Ytgaecpdokgklpab.Plain Go.Proofs.Ytgaecpdokgklpab.Reg

/-- A row stays while another one, of another type, grows. -/
theorem own_grown {w w3 : World} {B base n m size sz : Nat} {e T : TypeId} {v u : Value} {xs ys : List Value} {o : Obj} (hrow : w.ownsRow B T size v n xs) (hg : (w.alloc o).grownBy w3 v.ownBlock) (hT : e ≠ T) (h : w.ownsRow base e sz u m ys) : w3.ownsRow base e sz u m ys := by
 refine ⟨h.1, or_map h.2 (fun x => x) fun ⟨q, cap, cur, h1, h2, h3, r⟩ => ⟨q, cap, cur, h1, h2, ?_, r⟩⟩
 have hq := heap_lt h3
 rw [hg.block q (by simp; omega) ?_, (grow_alloc w o).block q hq]
 ·exact h3
 ·rcases hrow.2 with ⟨rfl, _⟩ | ⟨g, cap', cur', rfl, _, hh, _⟩
  ·simp [Value.ownBlock]
  ·intro e1
   simp [Value.ownBlock] at e1
   subst e1
   rw [h3] at hh; cases hh; exact hT rfl


theorem grown_below {B n size : Nat} {e : TypeId} {v : Value} {us : List Value} {w w3 : World} {o : Obj} (hle : B ≤ w.heap.size) (hown : w.ownsRow B e size v n us) (hg : (w.alloc o).grownBy w3 v.ownBlock) : Below B w w3 :=
 Below.grown (Below.alloc (Below.refl _ _) hle o) hg (by simp; omega) (fun k hk => (hown.lt k hk).1)

theorem each_grown {w w3 : World} {B : Nat} {v : Value} {ws : List Wr} {us : List Value} {o : Obj} (h : OwnL B v ws us w) (hg : (w.alloc o).grownBy w3 v.ownBlock) : ∀ i (hi : i < ws.length), ∃ u, us[i]? = some u ∧ w3.ownsRow B 5 1 u ws[i].2.length (ws[i].2.map bv) :=
 fun i hi => (h.each i hi).imp fun _ hu => ⟨hu.1, own_grown h.row hg (by decide) hu.2⟩

end Go.Proofs.Ytgaecpdokgklpab

/-
  A disk that lies in memory, wherever: what is told of it. No program but its types' numbers.
-/
namespace Go.Proofs.Ytgaecpdokgklpab
set_option maxRecDepth 100000
open Go.RowKit
open Go.Proofs.Ytgaecpdokgklpab.Plain Go.Proofs.Ytgaecpdokgklpab.Reg

/-- A disk, wherever it lies. -/
def DiskP (d : Dk) (v : Value) (w : World) : Prop := ∃ vb vl, v = .agg #[vb, vl] ∧ BlocksP w vb d.blocks ∧ LateP w vl d.late
theorem st_diskp (d : Dk) : Stable (DiskP d) := by
 rintro v w w' hg ⟨vb, vl, h1, h2, h3⟩; exact ⟨vb, vl, h1, h2.grow hg, h3.grow hg⟩
theorem DiskQ.p {B : Nat} {d : Dk} {v : Value} {w : World} (h : DiskQ B d v w) : DiskP d v w := by
 obtain ⟨vb, vl, h1, h2, h3⟩ := h; exact ⟨vb, vl, h1, h2.p, h3.p⟩
theorem DiskP.form {d : Dk} {v : Value} {w : World} (h : DiskP d v w) : ∃ ab cb al cl, v = .agg #[.slice ab d.blocks.length cb, .slice al d.late.length cl] ∧ BlocksP w (.slice ab d.blocks.length cb) d.blocks ∧ LateP w (.slice al d.late.length cl) d.late := by
 obtain ⟨vb, vl, h1, h2, h3⟩ := h
 obtain ⟨ab, cb, rfl⟩ := h2.form
 obtain ⟨al, cl, rfl⟩ := h3.form
 exact ⟨ab, cb, al, cl, h1, h2, h3⟩
theorem late_nil (w : World) : LateP w (.slice none 0 0) [] := .inl ⟨none, 0, rfl, rfl, fun _ => rfl⟩

theorem Dk.right_all {d : Dk} (h : d.right = true) : d.blocks.length = 12 ∧ d.late.length ≤ 40 ∧ (∀ x ∈ d.blocks, x.length ≤ 1000) ∧ (∀ x ∈ d.late, x.2.length ≤ 1000) ∧ (∀ x ∈ d.late, 0 ≤ x.1 ∧ x.1 < (d.blocks.length : Int)) := by
 refine ⟨Dk.right_len h, Dk.right_few h, fun x hx => ?_, fun x hx => ?_, fun x hx => ?_⟩
 ·obtain ⟨i, hi, rfl⟩ := List.mem_iff_getElem.1 hx
  rw [Dk.right_block h i hi]; omega
 ·obtain ⟨i, hi, rfl⟩ := List.mem_iff_getElem.1 hx
  rw [(Dk.right_late h i hi).2.2]; omega
 ·obtain ⟨i, hi, rfl⟩ := List.mem_iff_getElem.1 hx
  exact ⟨(Dk.right_late h i hi).1, (Dk.right_late h i hi).2.1⟩
theorem Dk.putD_len (d : Dk) (a : Int) (l : List UInt8) : (d.putD a l).blocks = d.blocks ∧ (d.putD a l).late.length ≤ d.late.length + 1 := by
 unfold Dk.putD Dk.put
 split
 ·exact ⟨rfl, by simp⟩
 ·exact ⟨rfl, by omega⟩
theorem Dk.spoil_len (d : Dk) (a n y : Int) : (d.spoil a n y).blocks.length = d.blocks.length ∧ (d.spoil a n y).late = d.late := by
 unfold Dk.spoil
 split
 ·exact ⟨by simp, rfl⟩
 ·exact ⟨rfl, rfl⟩
end Go.Proofs.Ytgaecpdokgklpab

/-
  What the program's disk.land and disk.Flush make of a disk.
  Condition: the disk lies in memory, of some blocks, at most 256, and at most 1000 writes, of places that there are, of at most 1000 bytes.
-/
namespace Go.Proofs.Ytgaecpdokgklpab
set_option maxRecDepth 100000
open Go.RowKit
open Go.Proofs.Ytgaecpdokgklpab.Plain Go.Proofs.Ytgaecpdokgklpab.Reg

/-- What holds while a write lands in the row q. -/
def LandJ (w : World) (q B n cap : Nat) (us : List Value) (c1 c2 : Array Value) (dn : Nat → Bool) (w' : World) : Prop :=
 GrowBut q w w' ∧ w'.heap[w.heap.size]? = some (.cells c1 25 (0, 0)) ∧ w'.heap[w.heap.size + 1]? = some (.cells c2 68 (0, 0)) ∧ (dn 8 = false → Grow w w' ∧ w'.ownsRow B 31 1 (.slice (some ⟨q, 0, none⟩) n cap) n us)
theorem LandJ.grow {w : World} {q B n cap : Nat} {us : List Value} {c1 c2 : Array Value} {dn : Nat → Bool} {w' w'' : World} (h : LandJ w q B n cap us c1 c2 dn w') (hg : Grow w' w'') : LandJ w q B n cap us c1 c2 dn w'' :=
 ⟨h.1.trans (GrowBut.of hg), (hg.block _ (heap_lt h.2.1)).trans h.2.1, (hg.block _ (heap_lt h.2.2.1)).trans h.2.2.1, fun hd => ⟨(h.2.2.2 hd).1.trans hg, own_grow (h.2.2.2 hd).2 hg⟩⟩
def LandQ (q B n cap m base : Nat) (us : List Value) (l : List UInt8) (v : Value) (w : World) : Prop :=
 w.ownsRow B 31 1 (.slice (some ⟨q, 0, none⟩) n cap) n (us.set m v) ∧ w.ownsRow base 5 1 v l.length (l.map bv)
theorem st_landq (q B n cap m base : Nat) (us : List Value) (l : List UInt8) (i : Nat) : StableW (pl1 i (fun _ v w => LandQ q B n cap m base us l v w)) := by
 rintro v ds w w' hg ⟨h1, h2⟩; exact ⟨own_grow h1 hg, own_grow h2 hg⟩
theorem own_other {w w' : World} {base q : Nat} {e : TypeId} {size : Nat} {v : Value} {n : Nat} {xs : List Value} (hg : GrowBut q w w') (hq : q < base) (h : w.ownsRow base e size v n xs) : w'.ownsRow base e size v n xs := by
 refine ⟨h.1, or_map h.2 (fun x => x) fun ⟨g, cap, cur, h1, h2, h3, r⟩ => ⟨g, cap, cur, h1, h2, ?_, r⟩⟩
 rw [hg.block _ (heap_lt h3) (by omega)]; exact h3
theorem own_other2 {w w' : World} {base q : Nat} {e T : TypeId} {c f} {size : Nat} {v : Value} {n : Nat} {xs : List Value} (hg : GrowBut q w w') (hq : w.heap[q]? = some (.cells c T f)) (hT : e ≠ T) (h : w.ownsRow base e size v n xs) : w'.ownsRow base e size v n xs := by
 refine ⟨h.1, or_map h.2 (fun x => x) fun ⟨g, cap, cur, h1, h2, h3, r⟩ => ⟨g, cap, cur, h1, h2, ?_, r⟩⟩
 rw [hg.block _ (heap_lt h3) (by rintro rfl; rw [hq] at h3; cases h3; exact hT rfl)]; exact h3

theorem boxDW1 (w : World) (c e : Array Value) : ((w.alloc (.cells c 25)).alloc (.cells e 68)).heap[w.heap.size]? = some (.cells c 25 (0, 0)) :=
 ((grow_alloc (w.alloc (.cells c 25)) _).block _ (by simp)).trans (heap_new _ _ _)
theorem boxDW2 (w : World) (c e : Array Value) : ((w.alloc (.cells c 25)).alloc (.cells e 68)).heap[w.heap.size + 1]? = some (.cells e 68 (0, 0)) := by
 have h := heap_new (w.alloc (.cells c 25)) e 68
 rw [World.size_alloc] at h
 exact h

/-- A write has landed. -/
theorem OwnU.put {q B cap m base : Nat} {bs : List (List UInt8)} {us : List Value} {l : List UInt8} {v' : Value} {w w' : World} (h : OwnU B (.slice (some ⟨q, 0, none⟩) bs.length cap) bs us w) (hB : B ≤ base) (hg : GrowBut q w w') (hQ : LandQ q B bs.length cap m base us l v' w') : OwnU B (.slice (some ⟨q, 0, none⟩) bs.length cap) (bs.set m l) (us.set m v') w' := by
 obtain ⟨cur, hcur⟩ := own_block h.row
 refine ⟨by simp [h.len], by rw [List.length_set]; exact hQ.1, fun i hi => ?_⟩
 rw [List.length_set] at hi
 by_cases e : m = i
 ·subst e
  refine ⟨v', by rw [List.getElem?_set]; simp [h.len, hi], ?_⟩
  simp only [List.getElem_set_self]
  exact own_mono hQ.2 hB
 ·obtain ⟨x, h1, h2⟩ := h.each i hi
  refine ⟨x, by rw [List.getElem?_set]; simp [e, h1], ?_⟩
  rw [List.getElem_set_ne e]
  exact own_other2 hg hcur (by decide) h2

/-- What holds while writes land in the variable g, k of them looked at. -/
def LandL (d : Dk) (w : World) (c : Array Value) (v : Value) (g : Nat) (on : Nat → Bool) (k : Nat) (wr : World) : Prop :=
 Grow w wr ∧ wr.heap[w.heap.size]? = some (.cells c 25 (0, 0)) ∧ wr.heap[w.heap.size + 1]? = some (.cells #[.slice none 0 0, .slice none 0 0] 25 (0, 0)) ∧
  wr.heap[g]? = some (.cells #[v, .slice none 0 0] 25 (0, 0)) ∧ ∃ us, OwnU (w.heap.size + 1 + 1) v (d.keepTo on k) us wr
theorem LandL.grow {d : Dk} {w : World} {c : Array Value} {v : Value} {g : Nat} {on : Nat → Bool} {k : Nat} {wr w' : World} (h : LandL d w c v g on k wr) (hg : Grow wr w') : LandL d w c v g on k w' :=
 ⟨h.1.trans hg, (hg.block _ (heap_lt h.2.1)).trans h.2.1, (hg.block _ (heap_lt h.2.2.1)).trans h.2.2.1, (hg.block _ (heap_lt h.2.2.2.1)).trans h.2.2.2.1, h.2.2.2.2.imp fun _ x => x.grow hg⟩
theorem LandL.skip {d : Dk} {w : World} {c : Array Value} {v : Value} {g : Nat} {on : Nat → Bool} {k : Nat} {wr : World} (h : LandL d w c v g on k wr) (ho : on k = false) : LandL d w c v g on (k + 1) wr :=
 ⟨h.1, h.2.1, h.2.2.1, h.2.2.2.1, by show ∃ us, OwnU _ v (if on k = true then _ else _) us wr; rw [ho, if_neg (by decide)]; exact h.2.2.2.2⟩
theorem LandL.land {d : Dk} {w : World} {c : Array Value} {q cap g m : Nat} {on : Nat → Bool} {k : Nat} {wr w' : World} {us : List Value} {l : List UInt8} {v' : Value} (h : LandL d w c (.slice (some ⟨q, 0, none⟩) d.blocks.length cap) g on k wr) (ho : on k = true) (hk : k < d.late.length) (hm : d.late[k].1 = (m : Int)) (hl : d.late[k].2 = l)
  (hU : OwnU (w.heap.size + 1 + 1) (.slice (some ⟨q, 0, none⟩) d.blocks.length cap) (d.keepTo on k) us wr) (hg : GrowBut q wr w') (hQ : LandQ q (w.heap.size + 1 + 1) d.blocks.length cap m wr.heap.size us l v' w') : LandL d w c (.slice (some ⟨q, 0, none⟩) d.blocks.length cap) g on (k + 1) w' := by
 have hlen : (d.keepTo on k).length = d.blocks.length := d.keepTo_length _ _
 have hrow := hU.row
 rw [hlen] at hrow
 obtain ⟨cur, hcur⟩ := own_block hrow
 have hq := (hrow.lt q rfl).1
 have hgq : g ≠ q := by rintro rfl; rw [h.2.2.2.1] at hcur; cases hcur
 have hsz := heap_lt h.2.2.1
 refine ⟨hg.grow h.1 (by omega), (hg.block _ (heap_lt h.2.1) (by omega)).trans h.2.1, (hg.block _ (heap_lt h.2.2.1) (by omega)).trans h.2.2.1, (hg.block _ (heap_lt h.2.2.2.1) hgq).trans h.2.2.2.1, us.set m v', ?_⟩
 rw [← hlen] at hU hQ
 have := OwnU.put hU (by omega) hg hQ
 rw [hlen] at this
 show OwnU _ _ (if on k = true then _ else _) _ _
 rw [ho, if_pos rfl, getD_at _ _ _ hk, hm, hl, Int.toNat_natCast]
 exact this

theorem row_some2 {B : Nat} {v : Value} {bs : List (List UInt8)} {us : List Value} {w : World} (h : OwnU B v bs us w) (h0 : 0 < bs.length) : ∃ q cap, v = .slice (some ⟨q, 0, none⟩) bs.length cap := by
 rcases h.row.2 with ⟨_, e⟩ | ⟨q, cap, cur, e, _⟩
 ·omega
 ·exact ⟨q, cap, e⟩

end Go.Proofs.Ytgaecpdokgklpab

/-
  What the program's disk.New makes: a disk all blocks of which are free.
  No condition.
-/
namespace Go.Proofs.Ytgaecpdokgklpab
set_option maxRecDepth 100000
open Go.RowKit
open Go.Proofs.Ytgaecpdokgklpab.Plain Go.Proofs.Ytgaecpdokgklpab.Reg

theorem new_len : Dk.new.blocks.length = 12 := rfl
theorem new_at (k : Nat) (h : k < Dk.new.blocks.length) : Dk.new.blocks[k] = blk ⟨1, 0, 0, []⟩ (k : Int) := by
 simp [Dk.new]
theorem free_right : wrong ⟨1, 0, 0, []⟩ = 0 := by decide
theorem bytes_nil (w : World) : Bytes w (.slice none 0 0) [] := .inl ⟨none, 0, rfl, rfl, fun _ => rfl⟩

theorem CopyL.land {B k : Nat} {bs : List (List UInt8)} {us : List Value} {w w' : World} {u : Value} (h : CopyL B bs k us w) (hk : k < bs.length) (hB : B ≤ w.heap.size) (hg : GrowBut B w w') (hQ : LandQ B B bs.length bs.length k w.heap.size us bs[k] u w') : CopyL B bs (k + 1) (us.set k u) w' := by
 obtain ⟨cur, hcur⟩ := own_block h.row
 refine ⟨by rw [List.length_set]; exact h.len, hQ.1, fun i hi hik => ?_, fun i j x x' p hij hjk hx hx' hp => ?_⟩
 ·by_cases e : k = i
  ·subst e
   exact ⟨u, by rw [List.getElem?_set]; simp [h.len, hi], own_mono hQ.2 hB⟩
  ·obtain ⟨x, h1, h2⟩ := h.each i hi (by omega)
   exact ⟨x, by rw [List.getElem?_set]; simp [e, h1], own_other2 hg hcur (by decide) h2⟩
 ·have hi : i < bs.length := by omega
  rw [List.getElem?_set, if_neg (by omega)] at hx
  by_cases e : k = j
  ·subst e
   rw [List.getElem?_set, if_pos rfl, if_pos (by rw [h.len]; exact hk)] at hx'
   cases hx'
   obtain ⟨y, h1, h2⟩ := h.each i hi (by omega)
   rw [hx] at h1; cases h1
   intro hq
   have a1 := (h2.lt p hp).2
   have a2 := (hQ.2.lt p hq).1
   omega
  ·rw [List.getElem?_set, if_neg e] at hx'
   exact h.apart i j x x' p hij (by omega) hx hx' hp

/-- What holds while a block is made. -/
def NewJ (w wr : World) (us : List Value) (dn : Nat → Bool) (w' : World) : Prop :=
 GrowBut (w.heap.size + 1) wr w' ∧ w'.heap[w.heap.size]? = some (.cells #[.slice none 0 0, .slice none 0 0] 25 (0, 0)) ∧ w'.heap[w.heap.size + 1 + 1]? = some (.cells #[.slice (some ⟨w.heap.size + 1, 0, none⟩) 12 12, .slice none 0 0] 25 (0, 0)) ∧
  (dn 7 = false → Grow wr w' ∧ w'.ownsRow (w.heap.size + 1) 31 1 (.slice (some ⟨w.heap.size + 1, 0, none⟩) 12 12) 12 us)
theorem NewJ.grow {w wr : World} {us : List Value} {dn : Nat → Bool} {w' w'' : World} (h : NewJ w wr us dn w') (hg : Grow w' w'') : NewJ w wr us dn w'' :=
 ⟨h.1.trans (GrowBut.of hg), (hg.block _ (heap_lt h.2.1)).trans h.2.1, (hg.block _ (heap_lt h.2.2.1)).trans h.2.2.1, fun hd => ⟨(h.2.2.2 hd).1.trans hg, own_grow (h.2.2.2 hd).2 hg⟩⟩
def NewL (w : World) (k : Nat) (wr : World) : Prop :=
 Grow w wr ∧ wr.heap[w.heap.size]? = some (.cells #[.slice none 0 0, .slice none 0 0] 25 (0, 0)) ∧ wr.heap[w.heap.size + 1 + 1]? = some (.cells #[.slice (some ⟨w.heap.size + 1, 0, none⟩) 12 12, .slice none 0 0] 25 (0, 0)) ∧ ∃ us, CopyL (w.heap.size + 1) Dk.new.blocks k us wr

end Go.Proofs.Ytgaecpdokgklpab
