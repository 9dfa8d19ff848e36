/-
  What the document's Look tells of a pair: how it is, and the record that it tells.
  Condition: the disk lies in memory, of at most 256 blocks.
-/
import Derived.Test.YtgaecpdokgklpabRPut
import Derived.Test.YtgaecpdokgklpabRRead
namespace Go.Proofs.Ytgaecpdokgklpab
set_option maxRecDepth 100000
open Go.RowKit
open Go.Proofs.Ytgaecpdokgklpab.Plain Go.Proofs.Ytgaecpdokgklpab.Reg

def Rec.free : Rec := ⟨1, 0, 0, []⟩
/-- One block of a pair: its bytes, its error, its record (free, where it is none), whether it is spoilt, whether it tells something. -/
def sideB (d : Dk) (a : Int) : List UInt8 := (d.get a).getD []
def sideE (d : Dk) (a : Int) : Int := readE (sideB d a) a
def sideR (d : Dk) (a : Int) : Rec := if sideE d a = 0 then readR (sideB d a) a else Rec.free
def badN (d : Dk) (a : Int) : Int := if sideE d a = 0 then 0 else 1
def someN (d : Dk) (a : Int) : Int := if (sideR d a).kind = 1 then 0 else 1
theorem badN_bd (d : Dk) (a : Int) : 0 ≤ badN d a ∧ badN d a ≤ 1 := by unfold badN; split <;> omega
theorem someN_bd (d : Dk) (a : Int) : 0 ≤ someN d a ∧ someN d a ≤ 1 := by unfold someN; split <;> omega
def firstR (d : Dk) (p : Int) : Rec := if (sideR d (2 * p)).kind = 1 then sideR d (2 * p + 1) else sideR d (2 * p)
def Dk.noPair (d : Dk) (p : Int) : Bool := decide (p < 0 ∨ ((d.blocks.length / 2 : Nat) : Int) ≤ p)
def Dk.how (d : Dk) (p : Int) : Int :=
 if d.noPair p = true then 4 else if someN d (2 * p) + someN d (2 * p + 1) = 2 then (if sameB (sideR d (2 * p)) (sideR d (2 * p + 1)) = true then 1 else 5)
 else if someN d (2 * p) + someN d (2 * p + 1) = 1 then 2 else if badN d (2 * p) + badN d (2 * p + 1) = 0 then 0 else if badN d (2 * p) + badN d (2 * p + 1) = 1 then 3 else 4
def Dk.tell (d : Dk) (p : Int) : Rec := if d.noPair p = true then Rec.free else if someN d (2 * p) + someN d (2 * p + 1) = 0 then Rec.free else firstR d p

/-- Data in rows of their own stay while a block of another type is written. -/
theorem own_type {w : World} {base g n i : Nat} {T : TypeId} {c f} {v x : Value} {xs : List Value} (h : w.ownsRow base 5 1 v n xs) (hg : w.heap[g]? = some (.cells c T f)) (hT : 5 ≠ T) : (w.setCell ⟨g, i, none⟩ x).ownsRow base 5 1 v n xs := by
 refine ⟨h.1, or_map h.2 (fun x => x) fun ⟨q, cap, cur, h1, h2, h3, r⟩ => ⟨q, cap, cur, h1, h2, ?_, r⟩⟩
 rw [Below.heap_setCell _ _ _ _ (by rintro rfl; rw [hg] at h3; cases h3; exact hT rfl)]
 exact h3
theorem own_box4 {w : World} {base g n : Nat} {T : TypeId} {c f} {v x0 x1 x2 x3 : Value} {xs : List Value} (o0 o1 o2 o3 : Nat) (h : w.ownsRow base 5 1 v n xs) (hg : w.heap[g]? = some (.cells c T f)) (hT : 5 ≠ T) :
  ((((w.setCell ⟨g, o0, none⟩ x0).setCell ⟨g, o1, none⟩ x1).setCell ⟨g, o2, none⟩ x2).setCell ⟨g, o3, none⟩ x3).ownsRow base 5 1 v n xs :=
 own_type (own_type (own_type (own_type h hg hT) (heap_set hg _ _) hT) (heap_set (heap_set hg _ _) _ _) hT) (heap_set (heap_set (heap_set hg _ _) _ _) _ _) hT

/-- What holds in every round: the disk's variable, the answer's, the pair of records. -/
def LookB (w : World) (vb vl : Value) (cs : Array Value) (wr : World) : Prop :=
 Grow w wr ∧ wr.heap[w.heap.size]? = some (.cells #[vb, vl] 25 (0, 0)) ∧ wr.heap[w.heap.size + 1]? = some (.cells #[.int .i64 0, .int .i64 0, .int .i64 0, .slice none 0 0] 33 (0, 0)) ∧ wr.heap[w.heap.size + 1 + 1]? = some (.cells cs 73 (0, 0))
theorem LookB.grow {w : World} {vb vl : Value} {cs : Array Value} {wr w' : World} (h : LookB w vb vl cs wr) (hg : Grow wr w') : LookB w vb vl cs w' :=
 ⟨h.1.trans hg, (hg.block _ (heap_lt h.2.1)).trans h.2.1, (hg.block _ (heap_lt h.2.2.1)).trans h.2.2.1, (hg.block _ (heap_lt h.2.2.2)).trans h.2.2.2⟩
def OwnR (w : World) (r : Rec) (dv : Value) (wr : World) : Prop := wr.ownsRow (w.heap.size + 1 + 1) 5 1 dv r.data.length (r.data.map bv)
/-- The rounds: none, one, both. -/
def LookL (d : Dk) (p : Int) (w : World) (vb vl : Value) (bad some i : Value) (wr : World) : Prop :=
 (bad = .int .i64 0 ∧ some = .int .i64 0 ∧ i = .int .i64 0 ∧ LookB w vb vl #[.int .i64 0, .int .i64 0, .int .i64 0, .slice none 0 0, .int .i64 0, .int .i64 0, .int .i64 0, .slice none 0 0] wr) ∨
 (∃ d0, bad = .int .i64 (badN d (2 * p)) ∧ some = .int .i64 (someN d (2 * p)) ∧ i = .int .i64 1 ∧ OwnR w (sideR d (2 * p)) d0 wr ∧
  LookB w vb vl #[.int .i64 (sideR d (2 * p)).kind, .int .i64 (sideR d (2 * p)).key, .int .i64 (sideR d (2 * p)).ver, d0, .int .i64 0, .int .i64 0, .int .i64 0, .slice none 0 0] wr) ∨
 (∃ d0 d1, bad = .int .i64 (badN d (2 * p) + badN d (2 * p + 1)) ∧ some = .int .i64 (someN d (2 * p) + someN d (2 * p + 1)) ∧ i = .int .i64 2 ∧ OwnR w (sideR d (2 * p)) d0 wr ∧ OwnR w (sideR d (2 * p + 1)) d1 wr ∧
  LookB w vb vl #[.int .i64 (sideR d (2 * p)).kind, .int .i64 (sideR d (2 * p)).key, .int .i64 (sideR d (2 * p)).ver, d0, .int .i64 (sideR d (2 * p + 1)).kind, .int .i64 (sideR d (2 * p + 1)).key, .int .i64 (sideR d (2 * p + 1)).ver, d1] wr)

/-- A record goes into its variable, and from there into its place of the two. -/
theorem look_put0 {w w2 : World} {vb vl : Value} {g : Nat} {c0 c1 c2 c3 c4 c5 c6 c7 z0 z1 z2 z3 : Value} (hB : LookB w vb vl #[c0, c1, c2, c3, c4, c5, c6, c7] w2) (hx : w2.heap[g]? = some (.cells #[z0, z1, z2, z3] 33 (0, 0))) (hz : w.heap.size + 1 + 1 < g) (k y n v : Value) :
  LookB w vb vl #[k, y, n, v, c4, c5, c6, c7] ((((((((w2.setCell ⟨g, 0, none⟩ k).setCell ⟨g, 1, none⟩ y).setCell ⟨g, 2, none⟩ n).setCell ⟨g, 3, none⟩ v).setCell ⟨w.heap.size + 1 + 1, 0, none⟩ k).setCell ⟨w.heap.size + 1 + 1, 1, none⟩ y).setCell ⟨w.heap.size + 1 + 1, 2, none⟩ n).setCell ⟨w.heap.size + 1 + 1, 3, none⟩ v) := by
 obtain ⟨hp1, hp2⟩ := box_put hx k y n v
 obtain ⟨h1, h2, h3, h4⟩ := hB
 have h4' := (hp2.block _ (heap_lt h4) (by omega)).trans h4
 have h5 := heap_set (heap_set (heap_set (heap_set h4' 0 k) 1 y) 2 n) 3 v
 have gB : GrowBut (w.heap.size + 1 + 1) _ _ := (((((GrowBut.refl (w.heap.size + 1 + 1) ((((w2.setCell ⟨g, 0, none⟩ k).setCell ⟨g, 1, none⟩ y).setCell ⟨g, 2, none⟩ n).setCell ⟨g, 3, none⟩ v)).set 0 none k).set 1 none y).set 2 none n).set 3 none v)
 refine ⟨gB.grow (hp2.grow h1 (by omega)) (by omega), ?_, ?_, by simpa using h5⟩
 ·exact (gB.block _ (Nat.lt_of_lt_of_le (heap_lt h2) hp2.size) (by omega)).trans ((hp2.block _ (heap_lt h2) (by omega)).trans h2)
 ·exact (gB.block _ (Nat.lt_of_lt_of_le (heap_lt h3) hp2.size) (by omega)).trans ((hp2.block _ (heap_lt h3) (by omega)).trans h3)
theorem look_put1 {w w2 : World} {vb vl : Value} {g : Nat} {c0 c1 c2 c3 c4 c5 c6 c7 z0 z1 z2 z3 : Value} (hB : LookB w vb vl #[c0, c1, c2, c3, c4, c5, c6, c7] w2) (hx : w2.heap[g]? = some (.cells #[z0, z1, z2, z3] 33 (0, 0))) (hz : w.heap.size + 1 + 1 < g) (k y n v : Value) :
  LookB w vb vl #[c0, c1, c2, c3, k, y, n, v] ((((((((w2.setCell ⟨g, 0, none⟩ k).setCell ⟨g, 1, none⟩ y).setCell ⟨g, 2, none⟩ n).setCell ⟨g, 3, none⟩ v).setCell ⟨w.heap.size + 1 + 1, 4, none⟩ k).setCell ⟨w.heap.size + 1 + 1, 5, none⟩ y).setCell ⟨w.heap.size + 1 + 1, 6, none⟩ n).setCell ⟨w.heap.size + 1 + 1, 7, none⟩ v) := by
 obtain ⟨hp1, hp2⟩ := box_put hx k y n v
 obtain ⟨h1, h2, h3, h4⟩ := hB
 have h4' := (hp2.block _ (heap_lt h4) (by omega)).trans h4
 have h5 := heap_set (heap_set (heap_set (heap_set h4' 4 k) 5 y) 6 n) 7 v
 have gB : GrowBut (w.heap.size + 1 + 1) _ _ := (((((GrowBut.refl (w.heap.size + 1 + 1) ((((w2.setCell ⟨g, 0, none⟩ k).setCell ⟨g, 1, none⟩ y).setCell ⟨g, 2, none⟩ n).setCell ⟨g, 3, none⟩ v)).set 4 none k).set 5 none y).set 6 none n).set 7 none v)
 refine ⟨gB.grow (hp2.grow h1 (by omega)) (by omega), ?_, ?_, by simpa using h5⟩
 ·exact (gB.block _ (Nat.lt_of_lt_of_le (heap_lt h2) hp2.size) (by omega)).trans ((hp2.block _ (heap_lt h2) (by omega)).trans h2)
 ·exact (gB.block _ (Nat.lt_of_lt_of_le (heap_lt h3) hp2.size) (by omega)).trans ((hp2.block _ (heap_lt h3) (by omega)).trans h3)
theorem look_set {w w2 : World} {vb vl : Value} {g : Nat} {cs : Array Value} {z0 z1 z2 z3 : Value} (hB : LookB w vb vl cs w2) (hx : w2.heap[g]? = some (.cells #[z0, z1, z2, z3] 33 (0, 0))) (hz : w.heap.size + 1 + 1 < g) (k y n v : Value) :
  LookB w vb vl cs ((((w2.setCell ⟨g, 0, none⟩ k).setCell ⟨g, 1, none⟩ y).setCell ⟨g, 2, none⟩ n).setCell ⟨g, 3, none⟩ v) := by
 obtain ⟨hp1, hp2⟩ := box_put hx k y n v
 obtain ⟨h1, h2, h3, h4⟩ := hB
 exact ⟨hp2.grow h1 (by omega), (hp2.block _ (heap_lt h2) (by omega)).trans h2, (hp2.block _ (heap_lt h3) (by omega)).trans h3, (hp2.block _ (heap_lt h4) (by omega)).trans h4⟩
theorem sum_num {a b c e m : Int} (h1 : b = c) (h2 : a = e) (h3 : m = e + c) : Value.int .i64 m = .int .i64 (a + b) := by rw [h1, h2, h3]
theorem look_own {w w2 : World} {vb vl : Value} {g m base : Nat} {cs : Array Value} {z0 z1 z2 z3 u : Value} {xs : List Value} (o0 o1 o2 o3 : Nat) (hB : LookB w vb vl cs w2) (hx : w2.heap[g]? = some (.cells #[z0, z1, z2, z3] 33 (0, 0))) (hz : w.heap.size + 1 + 1 < g) (k y n v : Value) (h : w2.ownsRow base 5 1 u m xs) :
  ((((((((w2.setCell ⟨g, 0, none⟩ k).setCell ⟨g, 1, none⟩ y).setCell ⟨g, 2, none⟩ n).setCell ⟨g, 3, none⟩ v).setCell ⟨w.heap.size + 1 + 1, o0, none⟩ k).setCell ⟨w.heap.size + 1 + 1, o1, none⟩ y).setCell ⟨w.heap.size + 1 + 1, o2, none⟩ n).setCell ⟨w.heap.size + 1 + 1, o3, none⟩ v).ownsRow base 5 1 u m xs := by
 obtain ⟨hp1, hp2⟩ := box_put hx k y n v
 have h4' := (hp2.block _ (heap_lt hB.2.2.2) (by omega)).trans hB.2.2.2
 exact own_box4 o0 o1 o2 o3 (own_box4 0 1 2 3 h hx (by decide)) h4' (by decide)

/-- What holds while the answer's variable is written: the first one's variable, and its data. -/
def LookE (w : World) (g : Nat) (r : Rec) (dv : Value) (w' : World) : Prop :=
 Grow w w' ∧ w'.heap[g]? = some (.cells #[.int .i64 r.kind, .int .i64 r.key, .int .i64 r.ver, dv] 33 (0, 0)) ∧ (∃ x0 x1 x2 x3, w'.heap[w.heap.size + 1]? = some (.cells #[x0, x1, x2, x3] 33 (0, 0))) ∧ w'.ownsRow (w.heap.size + 1 + 1) 5 1 dv r.data.length (r.data.map bv)
theorem LookE.drew {w : World} {g : Nat} {r : Rec} {dv : Value} {w' : World} (h : LookE w g r dv w') : LookE w g r dv w'.drew := ⟨h.1.drew, h.2.1, h.2.2.1, h.2.2.2⟩
theorem LookE.grow {w : World} {g : Nat} {r : Rec} {dv : Value} {w' w'' : World} (h : LookE w g r dv w') (hg : Grow w' w'') : LookE w g r dv w'' := by
 obtain ⟨h1, h2, ⟨x0, x1, x2, x3, h3⟩, h4⟩ := h
 exact ⟨h1.trans hg, (hg.block _ (heap_lt h2)).trans h2, ⟨x0, x1, x2, x3, (hg.block _ (heap_lt h3)).trans h3⟩, own_grow h4 hg⟩
theorem look_e {w wr : World} {vb vl : Value} {cs : Array Value} {r : Rec} {dv : Value} (hB : LookB w vb vl cs wr) (h : wr.ownsRow (w.heap.size + 1 + 1) 5 1 dv r.data.length (r.data.map bv)) :
  LookE w wr.heap.size r dv (wr.alloc (.cells #[.int .i64 r.kind, .int .i64 r.key, .int .i64 r.ver, dv] 33)) := by
 have g := grow_alloc wr (.cells #[.int .i64 r.kind, .int .i64 r.key, .int .i64 r.ver, dv] 33)
 exact ⟨hB.1.trans g, heap_new _ _ _, ⟨_, _, _, _, (g.block _ (heap_lt hB.2.2.1)).trans hB.2.2.1⟩, own_grow h g⟩
theorem st_heap (g : Nat) (o : Obj) : Stable (fun _ w => w.heap[g]? = some o) := fun _ _ _ hg h => (hg.block _ (heap_lt h)).trans h

def LookF (w : World) (g : Nat) (r : Rec) (dv : Value) (B : Nat) (w' : World) : Prop := LookE w g r dv w' ∧ B ≤ w'.heap.size
/-- A row of three numbers from block B on; a place that holds this. -/
def ThreeP (B : Nat) (v : Value) (w : World) : Prop := ∃ g, B ≤ g ∧ v = .slice (some ⟨g, 0, none⟩) 3 3 ∧ w.heap[g]? = some (.cells #[.int .i64 0, .int .i64 3, .int .i64 4] 3 (0, 0))
def CellQ (B : Nat) (x v : Value) (w : World) : Prop := ∃ g o, B ≤ g ∧ v = .pointer (some ⟨g, o, none⟩) ∧ w.cell? ⟨g, o, none⟩ = some x
theorem st_three (B : Nat) : Stable (ThreeP B) := by
 rintro v w w' hg ⟨g, h1, h2, h3⟩; exact ⟨g, h1, h2, (hg.block _ (heap_lt h3)).trans h3⟩
theorem st_cellq (B : Nat) (x : Value) : Stable (CellQ B x) := by
 rintro v w w' hg ⟨g, o, h1, h2, h3⟩; exact ⟨g, o, h1, h2, (Below.cell hg (cell_lt h3)).trans h3⟩
theorem sp_three {B g0 : Nat} {v : Value} {w w' : World} (hB : g0 < B) (hs : GrowBut g0 w w') (h : ThreeP B v w) : ThreeP B v w' := by
 obtain ⟨g, h1, h2, h3⟩ := h; exact ⟨g, h1, h2, (hs.block _ (heap_lt h3) (by omega)).trans h3⟩
theorem sp_cellq {B g0 : Nat} {x v : Value} {w w' : World} (hB : g0 < B) (hs : GrowBut g0 w w') (h : CellQ B x v w) : CellQ B x v w' := by
 obtain ⟨g, o, h1, h2, h3⟩ := h; exact ⟨g, o, h1, h2, (hs.cell (cell_lt h3) (by show g ≠ g0; omega)).trans h3⟩

/-- How a pair is that tells nothing. -/
def lookH (j : Nat) : Int := if (j : Int) = 0 then 0 else if (j : Int) = 1 then 3 else 4
theorem look3 {j : Nat} (h : j < 3) : (#[.int .i64 0, .int .i64 3, .int .i64 4] : Array Value)[j]? = some (.int .i64 (lookH j)) :=
 match j, h with
 | 0, _ | 1, _ | 2, _ => rfl
set_option maxHeartbeats 4000000 in
theorem look_in (S : Nat → Prop) (d : Dk) (p : Int) (ab al : Option Addr) (cb cl : Nat) (w : World) (hb : BlocksS S w (.slice ab d.blocks.length cb) d.blocks) (hl : LateS S w (.slice al d.late.length cl) d.late)
  (h0 : 0 ≤ p) (h1 : p < ((d.blocks.length / 2 : Nat) : Int)) (hlen : d.blocks.length ≤ 256) (hm : d.late.length ≤ 999990) :
  Calls Try.prog 12 #[.agg #[.slice ab d.blocks.length cb, .slice al d.late.length cl], .int .i64 p] w fun e w' => ∃ dv, e = .returned (.tuple #[.int .i64 (d.how p), .agg #[.int .i64 (d.tell p).kind, .int .i64 (d.tell p).key, .int .i64 (d.tell p).ver, dv]]) ∧ w'.ownsRow w.heap.size 5 1 dv (d.tell p).data.length ((d.tell p).data.map bv) ∧ Grow w w' := by
 have hq : (d.blocks.length : Int).tdiv 2 = ((d.blocks.length / 2 : Nat) : Int) := by rw [Int.tdiv_eq_ediv_of_nonneg (by omega)]; omega
 have h2p : 2 * p + 1 < (d.blocks.length : Int) := by omega
 have HN : Hid (d.noPair p = false) := by show d.noPair p = false; unfold Dk.noPair; exact decide_eq_false (by omega)
 have HE0 : Hid (d.getE (2 * p) = 0) := by show d.getE _ = 0; unfold Dk.getE; rw [if_neg (by omega)]
 have HE1 : Hid (d.getE (2 * p + 1) = 0) := by show d.getE _ = 0; unfold Dk.getE; rw [if_neg (by omega)]
 go_enter Try.func12, Try.ntmps12
 go_wp2_with fail
 have hstart : LookB w (.slice ab d.blocks.length cb) (.slice al d.late.length cl) #[.int .i64 0, .int .i64 0, .int .i64 0, .slice none 0 0, .int .i64 0, .int .i64 0, .int .i64 0, .slice none 0 0]
   (((w.alloc (.cells #[.slice ab d.blocks.length cb, .slice al d.late.length cl] 25)).alloc (.cells #[.int .i64 0, .int .i64 0, .int .i64 0, .slice none 0 0] 33)).alloc (.cells #[.int .i64 0, .int .i64 0, .int .i64 0, .slice none 0 0, .int .i64 0, .int .i64 0, .int .i64 0, .slice none 0 0] 73)) := by
  refine ⟨(grow_alloc2 _ _ _).trans (grow_alloc _ _), ((grow_alloc2 _ _ _).block _ (by simp)).trans (heap_new _ _ _), ?_, ?_⟩
  ·have h := heap_new (w.alloc (.cells #[.slice ab d.blocks.length cb, .slice al d.late.length cl] 25)) #[.int .i64 0, .int .i64 0, .int .i64 0, .slice none 0 0] 33
   rw [World.size_alloc] at h
   exact ((grow_alloc _ _).block _ (by simp)).trans h
  ·have h := heap_new ((w.alloc (.cells #[.slice ab d.blocks.length cb, .slice al d.late.length cl] 25)).alloc (.cells #[.int .i64 0, .int .i64 0, .int .i64 0, .slice none 0 0] 33)) #[.int .i64 0, .int .i64 0, .int .i64 0, .slice none 0 0, .int .i64 0, .int .i64 0, .int .i64 0, .slice none 0 0] 73
   rw [World.size_alloc, World.size_alloc] at h
   exact h
 generalize World.alloc (World.alloc (World.alloc w _) _) _ = W at *
 go_loopw [7, 8, 26] (fun bad some i wr => LookL d p w (.slice ab d.blocks.length cb) (.slice al d.late.length cl) bad some i wr) (fun _ _ i _ => 2 - (intOf i).toNat)
 case atStart => exact .inl ⟨rfl, rfl, rfl, hstart⟩
 case round =>
  clear hstart
  rcases hrel with ⟨rfl, rfl, rfl, hB⟩ | ⟨d0, rfl, rfl, rfl, ho0, hB⟩ | ⟨d0, d1, rfl, rfl, rfl, ho0, ho1, hB⟩
  ·have x0 := box_cell hB.2.1 0 _ rfl
   have x1 := box_cell hB.2.1 1 _ rfl
   go_wp2_with fail
   refine (getBlock_any S d (2 * p) _ _ _ (hb.grow hB.1) (hl.grow hB.1) (by omega)).mono ?_
   rw [HE0.out]
   rintro e w1 ⟨v1, rfl, hv1, g1⟩
   obtain ⟨a1, c1, rfl, -, -⟩ := bytes_src hv1.p
   have hB1 := hB.grow g1
   have hs1 : Bytes w1 (.slice a1 ((d.get (2 * p)).getD []).length c1) (sideB d (2 * p)) := hv1.p
   clear x0 x1 hv1 g1 hB
   generalize hln : ((d.get (2 * p)).getD []).length = ln at *
   clear hln
   go_wp2_with fail
   refine (rread_any (sideB d (2 * p)) (2 * p) _ _ (by exact bytes_grow hs1 (grow_alloc _ _))).mono ?_
   rintro e w2 ⟨d2, rfl, ho2, g2⟩
   have g12 := (grow_alloc _ _).trans g2
   have hB2 := hB1.grow g12
   obtain ⟨a2, c2, rfl⟩ := own_slice ho2
   have hz : w.heap.size + 1 + 1 < w1.heap.size := heap_lt hB1.2.2.2
   have hx2 : w2.heap[w1.heap.size]? = some (.cells #[.int .i64 0, .int .i64 0, .int .i64 0, .slice none 0 0] 33 (0, 0)) := (g2.block _ (by simp)).trans (heap_new _ _ _)
   replace ho2 := own_mono ho2 (base' := w.heap.size + 1 + 1) (by simp; omega)
   clear g12 g2 hs1 hB1
   generalize w1.heap.size = g at *
   by_cases he : readE (sideB d (2 * p)) (2 * p) = 0
   ·have hrr : sideR d (2 * p) = readR (sideB d (2 * p)) (2 * p) := by unfold sideR sideE; rw [if_pos he]
    have hbb : badN d (2 * p) = 0 := by unfold badN sideE; rw [if_pos he]
    have HBN : Hid (badN d (2 * p) = 0) := hbb
    rw [← hrr] at ho2 ⊢
    rw [he]
    clear he hbb hrr
    have hsm : someN d (2 * p) = if (sideR d (2 * p)).kind = 1 then 0 else 1 := rfl
    have HSM : Hid _ := hsm
    clear hsm
    generalize hrn : sideR d (2 * p) = rr at *
    have HRN : Hid (sideR d (2 * p) = rr) := hrn
    clear hrn
    obtain ⟨y0, y1, y2, y3⟩ := box4 hx2 rfl rfl rfl rfl
    obtain ⟨f0, f1, f2, f3⟩ := boxf4 hx2
    have q0 := box_cell hB2.2.2.2 0 _ rfl
    have e0 := box_frozen hB2.2.2.2 0
    have q1 := box_cell hB2.2.2.2 1 _ rfl
    have e1 := box_frozen hB2.2.2.2 1
    have q2 := box_cell hB2.2.2.2 2 _ rfl
    have e2 := box_frozen hB2.2.2.2 2
    have q3 := box_cell hB2.2.2.2 3 _ rfl
    have e3 := box_frozen hB2.2.2.2 3
    by_cases hk : rr.kind = 1
    ·have HSN : Hid (someN d (2 * p) = 0) := by show someN _ _ = _; rw [HSM.out, if_pos hk]
     have d0_ : (rr.kind != 1) = false := by simp [hk]
     have hF := look_put0 hB2 hx2 hz (.int .i64 rr.kind) (.int .i64 rr.key) (.int .i64 rr.ver) (.slice a2 rr.data.length c2)
     have hO := look_own 0 1 2 3 hB2 hx2 hz (.int .i64 rr.kind) (.int .i64 rr.key) (.int .i64 rr.ver) (.slice a2 rr.data.length c2) ho2
     clear hk ho2 hB2 hx2
     have cs := cell_set
     go_wp2_with fail
     go_roundw
     case rel => exact .inr (.inl ⟨_, by rw [HBN.out], by rw [HSN.out], rfl, by unfold OwnR; rw [HRN.out]; exact hO, by rw [HRN.out]; exact hF⟩)
     case measure => simp [intOf]
    ·have HSN : Hid (someN d (2 * p) = 1) := by show someN _ _ = _; rw [HSM.out, if_neg hk]
     have d0_ : (rr.kind != 1) = true := by simp [hk]
     have hF := look_put0 hB2 hx2 hz (.int .i64 rr.kind) (.int .i64 rr.key) (.int .i64 rr.ver) (.slice a2 rr.data.length c2)
     have hO := look_own 0 1 2 3 hB2 hx2 hz (.int .i64 rr.kind) (.int .i64 rr.key) (.int .i64 rr.ver) (.slice a2 rr.data.length c2) ho2
     clear hk ho2 hB2 hx2
     have cs := cell_set
     go_wp2_with fail
     go_roundw
     case rel => exact .inr (.inl ⟨_, by rw [HBN.out], by rw [HSN.out], rfl, by unfold OwnR; rw [HRN.out]; exact hO, by rw [HRN.out]; exact hF⟩)
     case measure => simp [intOf]
   ·have HRN : Hid (sideR d (2 * p) = Rec.free) := by show sideR _ _ = _; unfold sideR sideE; rw [if_neg he]
    have HBN : Hid (badN d (2 * p) = 1) := by show badN _ _ = _; unfold badN sideE; rw [if_neg he]
    have HSN : Hid (someN d (2 * p) = 0) := by show someN _ _ = _; unfold someN; rw [HRN.out]; rfl
    have de : (readE (sideB d (2 * p)) (2 * p) != 0) = true := by simpa using he
    clear he ho2
    generalize readE (sideB d (2 * p)) (2 * p) = ee at *
    generalize readR (sideB d (2 * p)) (2 * p) = r9 at *
    obtain ⟨y0, y1, y2, y3⟩ := box4 hx2 rfl rfl rfl rfl
    obtain ⟨f0, f1, f2, f3⟩ := boxf4 hx2
    have cs := cell_set
    have hB2' := look_set hB2 hx2 hz (.int .i64 r9.kind) (.int .i64 r9.key) (.int .i64 r9.ver) (.slice a2 r9.data.length c2)
    have hx2' := (box_put hx2 (.int .i64 r9.kind) (.int .i64 r9.key) (.int .i64 r9.ver) (.slice a2 r9.data.length c2)).1
    clear hB2 hx2
    go_wp2_with fail
    refine (free_any _).mono ?_
    rintro e w3 ⟨rfl, g3⟩
    have hB3 := hB2'.grow g3
    have hx3 := (g3.block _ (heap_lt hx2')).trans hx2'
    clear hB2' hx2' g3 y0 y1 y2 y3 f0 f1 f2 f3
    obtain ⟨y0, y1, y2, y3⟩ := box4 hx3 rfl rfl rfl rfl
    obtain ⟨f0, f1, f2, f3⟩ := boxf4 hx3
    have q0 := box_cell hB3.2.2.2 0 _ rfl
    have e0 := box_frozen hB3.2.2.2 0
    have q1 := box_cell hB3.2.2.2 1 _ rfl
    have e1 := box_frozen hB3.2.2.2 1
    have q2 := box_cell hB3.2.2.2 2 _ rfl
    have e2 := box_frozen hB3.2.2.2 2
    have q3 := box_cell hB3.2.2.2 3 _ rfl
    have e3 := box_frozen hB3.2.2.2 3
    have hF := look_put0 hB3 hx3 hz (.int .i64 1) (.int .i64 0) (.int .i64 0) (.slice none 0 0)
    clear hB3 hx3
    go_wp2_with fail
    go_roundw
    case rel => exact .inr (.inl ⟨_, by rw [HBN.out], by rw [HSN.out], rfl, by unfold OwnR; rw [HRN.out]; exact World.ownsRow_nil _ _ _ _, by rw [HRN.out]; exact hF⟩)
    case measure => simp [intOf]
  ·have x0 := box_cell hB.2.1 0 _ rfl
   have x1 := box_cell hB.2.1 1 _ rfl
   obtain ⟨a0, c0, rfl⟩ := own_slice ho0
   have hbn := badN_bd d (2 * p)
   have hsn := someN_bd d (2 * p)
   generalize hbe : badN d (2 * p) = bn at *
   generalize hse : someN d (2 * p) = sn at *
   have HBE : Hid (badN d (2 * p) = bn) := hbe
   have HSE : Hid (someN d (2 * p) = sn) := hse
   clear hbe hse
   generalize hr0 : sideR d (2 * p) = r0 at *
   have HR0 : Hid (sideR d (2 * p) = r0) := hr0
   clear hr0
   go_wp2_with fail
   refine (getBlock_any S d (2 * p + 1) _ _ _ (hb.grow hB.1) (hl.grow hB.1) (by omega)).mono ?_
   rw [HE1.out]
   rintro e w1 ⟨v1, rfl, hv1, g1⟩
   obtain ⟨a1, c1, rfl, -, -⟩ := bytes_src hv1.p
   have hB1 := hB.grow g1
   have hs1 : Bytes w1 (.slice a1 ((d.get (2 * p + 1)).getD []).length c1) (sideB d (2 * p + 1)) := hv1.p
   have ho1 := own_grow ho0 g1
   clear x0 x1 hv1 g1 hB ho0
   generalize hln : ((d.get (2 * p + 1)).getD []).length = ln at *
   clear hln
   go_wp2_with fail
   refine (rread_any (sideB d (2 * p + 1)) (2 * p + 1) _ _ (by exact bytes_grow hs1 (grow_alloc _ _))).mono ?_
   rintro e w2 ⟨d2, rfl, ho2, g2⟩
   have g12 := (grow_alloc _ _).trans g2
   have hB2 := hB1.grow g12
   obtain ⟨a2, c2, rfl⟩ := own_slice ho2
   have hz : w.heap.size + 1 + 1 < w1.heap.size := heap_lt hB1.2.2.2
   have hx2 : w2.heap[w1.heap.size]? = some (.cells #[.int .i64 0, .int .i64 0, .int .i64 0, .slice none 0 0] 33 (0, 0)) := (g2.block _ (by simp)).trans (heap_new _ _ _)
   replace ho2 := own_mono ho2 (base' := w.heap.size + 1 + 1) (by simp; omega)
   have ho1' := own_grow ho1 g12
   clear ho1
   clear g12 g2 hs1 hB1
   generalize w1.heap.size = g at *
   by_cases he : readE (sideB d (2 * p + 1)) (2 * p + 1) = 0
   ·have hrr : sideR d (2 * p + 1) = readR (sideB d (2 * p + 1)) (2 * p + 1) := by unfold sideR sideE; rw [if_pos he]
    have hbb : badN d (2 * p + 1) = 0 := by unfold badN sideE; rw [if_pos he]
    have HBN : Hid (badN d (2 * p + 1) = 0) := hbb
    rw [← hrr] at ho2 ⊢
    rw [he]
    clear he hbb hrr
    have hsm : someN d (2 * p + 1) = if (sideR d (2 * p + 1)).kind = 1 then 0 else 1 := rfl
    have HSM : Hid _ := hsm
    clear hsm
    generalize hrn : sideR d (2 * p + 1) = rr at *
    have HRN : Hid (sideR d (2 * p + 1) = rr) := hrn
    clear hrn
    obtain ⟨y0, y1, y2, y3⟩ := box4 hx2 rfl rfl rfl rfl
    obtain ⟨f0, f1, f2, f3⟩ := boxf4 hx2
    have q0 := box_cell hB2.2.2.2 4 _ rfl
    have e0 := box_frozen hB2.2.2.2 4
    have q1 := box_cell hB2.2.2.2 5 _ rfl
    have e1 := box_frozen hB2.2.2.2 5
    have q2 := box_cell hB2.2.2.2 6 _ rfl
    have e2 := box_frozen hB2.2.2.2 6
    have q3 := box_cell hB2.2.2.2 7 _ rfl
    have e3 := box_frozen hB2.2.2.2 7
    by_cases hk : rr.kind = 1
    ·have HSN : Hid (someN d (2 * p + 1) = 0) := by show someN _ _ = _; rw [HSM.out, if_pos hk]
     have d0_ : (rr.kind != 1) = false := by simp [hk]
     have hF := look_put1 hB2 hx2 hz (.int .i64 rr.kind) (.int .i64 rr.key) (.int .i64 rr.ver) (.slice a2 rr.data.length c2)
     have hO := look_own 4 5 6 7 hB2 hx2 hz (.int .i64 rr.kind) (.int .i64 rr.key) (.int .i64 rr.ver) (.slice a2 rr.data.length c2) ho2
     have hO0 := look_own 4 5 6 7 hB2 hx2 hz (.int .i64 rr.kind) (.int .i64 rr.key) (.int .i64 rr.ver) (.slice a2 rr.data.length c2) ho1'
     clear hk ho2 hB2 hx2 ho1'
     have cs := cell_set
     go_wp2_with fail
     go_roundw
     case rel => exact .inr (.inr ⟨_, _, sum_num HBN.out HBE.out (by omega), sum_num HSN.out HSE.out (by omega), rfl, by unfold OwnR; rw [HR0.out]; exact hO0, by unfold OwnR; rw [HRN.out]; exact hO, by rw [HR0.out, HRN.out]; exact hF⟩)
     case measure => simp [intOf]
    ·have HSN : Hid (someN d (2 * p + 1) = 1) := by show someN _ _ = _; rw [HSM.out, if_neg hk]
     have d0_ : (rr.kind != 1) = true := by simp [hk]
     have hF := look_put1 hB2 hx2 hz (.int .i64 rr.kind) (.int .i64 rr.key) (.int .i64 rr.ver) (.slice a2 rr.data.length c2)
     have hO := look_own 4 5 6 7 hB2 hx2 hz (.int .i64 rr.kind) (.int .i64 rr.key) (.int .i64 rr.ver) (.slice a2 rr.data.length c2) ho2
     have hO0 := look_own 4 5 6 7 hB2 hx2 hz (.int .i64 rr.kind) (.int .i64 rr.key) (.int .i64 rr.ver) (.slice a2 rr.data.length c2) ho1'
     clear hk ho2 hB2 hx2 ho1'
     have cs := cell_set
     go_wp2_with fail
     go_roundw
     case rel => exact .inr (.inr ⟨_, _, sum_num HBN.out HBE.out (by omega), sum_num HSN.out HSE.out (by omega), rfl, by unfold OwnR; rw [HR0.out]; exact hO0, by unfold OwnR; rw [HRN.out]; exact hO, by rw [HR0.out, HRN.out]; exact hF⟩)
     case measure => simp [intOf]
   ·have HRN : Hid (sideR d (2 * p + 1) = Rec.free) := by show sideR _ _ = _; unfold sideR sideE; rw [if_neg he]
    have HBN : Hid (badN d (2 * p + 1) = 1) := by show badN _ _ = _; unfold badN sideE; rw [if_neg he]
    have HSN : Hid (someN d (2 * p + 1) = 0) := by show someN _ _ = _; unfold someN; rw [HRN.out]; rfl
    have de : (readE (sideB d (2 * p + 1)) (2 * p + 1) != 0) = true := by simpa using he
    clear he ho2
    generalize readE (sideB d (2 * p + 1)) (2 * p + 1) = ee at *
    generalize readR (sideB d (2 * p + 1)) (2 * p + 1) = r9 at *
    obtain ⟨y0, y1, y2, y3⟩ := box4 hx2 rfl rfl rfl rfl
    obtain ⟨f0, f1, f2, f3⟩ := boxf4 hx2
    have cs := cell_set
    have hB2' := look_set hB2 hx2 hz (.int .i64 r9.kind) (.int .i64 r9.key) (.int .i64 r9.ver) (.slice a2 r9.data.length c2)
    have hx2' := (box_put hx2 (.int .i64 r9.kind) (.int .i64 r9.key) (.int .i64 r9.ver) (.slice a2 r9.data.length c2)).1
    have ho1'' := own_box4 (x0 := .int .i64 r9.kind) (x1 := .int .i64 r9.key) (x2 := .int .i64 r9.ver) (x3 := .slice a2 r9.data.length c2) 0 1 2 3 ho1' hx2 (by decide)
    clear ho1'
    clear hB2 hx2
    go_wp2_with fail
    refine (free_any _).mono ?_
    rintro e w3 ⟨rfl, g3⟩
    have hB3 := hB2'.grow g3
    have hx3 := (g3.block _ (heap_lt hx2')).trans hx2'
    have ho3 := own_grow ho1'' g3
    clear ho1''
    clear hB2' hx2' g3 y0 y1 y2 y3 f0 f1 f2 f3
    obtain ⟨y0, y1, y2, y3⟩ := box4 hx3 rfl rfl rfl rfl
    obtain ⟨f0, f1, f2, f3⟩ := boxf4 hx3
    have q0 := box_cell hB3.2.2.2 4 _ rfl
    have e0 := box_frozen hB3.2.2.2 4
    have q1 := box_cell hB3.2.2.2 5 _ rfl
    have e1 := box_frozen hB3.2.2.2 5
    have q2 := box_cell hB3.2.2.2 6 _ rfl
    have e2 := box_frozen hB3.2.2.2 6
    have q3 := box_cell hB3.2.2.2 7 _ rfl
    have e3 := box_frozen hB3.2.2.2 7
    have hF := look_put1 hB3 hx3 hz (.int .i64 1) (.int .i64 0) (.int .i64 0) (.slice none 0 0)
    have hO0 := look_own 4 5 6 7 hB3 hx3 hz (.int .i64 1) (.int .i64 0) (.int .i64 0) (.slice none 0 0) ho3
    clear ho3
    clear hB3 hx3
    go_wp2_with fail
    go_roundw
    case rel => exact .inr (.inr ⟨_, _, sum_num HBN.out HBE.out (by omega), sum_num HSN.out HSE.out (by omega), rfl, by unfold OwnR; rw [HR0.out]; exact hO0, by unfold OwnR; rw [HRN.out]; exact World.ownsRow_nil _ _ _ _, by rw [HR0.out, HRN.out]; exact hF⟩)
    case measure => simp [intOf]
  ·obtain ⟨a0, c0, rfl⟩ := own_slice ho0
   obtain ⟨a1, c1, rfl⟩ := own_slice ho1
   have hbn0 := badN_bd d (2 * p)
   have hbn1 := badN_bd d (2 * p + 1)
   have HS0 : Hid (someN d (2 * p) = if (sideR d (2 * p)).kind = 1 then 0 else 1) := rfl
   have HS1 : Hid (someN d (2 * p + 1) = if (sideR d (2 * p + 1)).kind = 1 then 0 else 1) := rfl
   have HHOW : Hid (d.how p = if someN d (2 * p) + someN d (2 * p + 1) = 2 then (if sameB (sideR d (2 * p)) (sideR d (2 * p + 1)) = true then 1 else 5)
     else if someN d (2 * p) + someN d (2 * p + 1) = 1 then 2 else if badN d (2 * p) + badN d (2 * p + 1) = 0 then 0 else if badN d (2 * p) + badN d (2 * p + 1) = 1 then 3 else 4) := by
    show d.how p = _; unfold Dk.how; rw [HN.out]; rfl
   have HTELL : Hid (d.tell p = if someN d (2 * p) + someN d (2 * p + 1) = 0 then Rec.free else if (sideR d (2 * p)).kind = 1 then sideR d (2 * p + 1) else sideR d (2 * p)) := by
    show d.tell p = _; unfold Dk.tell firstR; rw [HN.out]; rfl
   have hbb : badN d (2 * p) + badN d (2 * p + 1) = 0 ∨ badN d (2 * p) + badN d (2 * p + 1) = 1 ∨ badN d (2 * p) + badN d (2 * p + 1) = 2 := by omega
   clear hbn0 hbn1
   generalize badN d (2 * p) + badN d (2 * p + 1) = bb at *
   generalize someN d (2 * p) = s0 at *
   generalize someN d (2 * p + 1) = s1 at *
   generalize sideR d (2 * p) = r0 at *
   generalize sideR d (2 * p + 1) = r1 at *
   unfold OwnR at ho0 ho1
   have q0 := box_cell hB.2.2.2 0 _ rfl
   have q1 := box_cell hB.2.2.2 1 _ rfl
   have q2 := box_cell hB.2.2.2 2 _ rfl
   have q3 := box_cell hB.2.2.2 3 _ rfl
   have q4 := box_cell hB.2.2.2 4 _ rfl
   have q5 := box_cell hB.2.2.2 5 _ rfl
   have q6 := box_cell hB.2.2.2 6 _ rfl
   have q7 := box_cell hB.2.2.2 7 _ rfl
   have hz := heap_lt hB.2.2.2
   by_cases k0 : r0.kind = 1
   ·by_cases k1 : r1.kind = 1
    ·have HT : Hid (d.tell p = Rec.free) := by show d.tell p = Rec.free; rw [HTELL.out, HS0.out, HS1.out]; simp [k0, k1]
     have HSS : Hid (s0 + s1 = 0) := by show _ = _; rw [HS0.out, HS1.out]; simp [k0, k1]
     rw [HSS.out]
     have d0_ : (r0.kind == 1) = true := by simp [k0]
     have hJ : LookE w wr.heap.size r1 (.slice a1 r1.data.length c1) ((wr.alloc (.cells #[.int .i64 r1.kind, .int .i64 r1.key, .int .i64 r1.ver, .slice a1 r1.data.length c1] 33))) := look_e hB ho1
     obtain ⟨j, rfl, hj⟩ : ∃ j : Nat, bb = (j : Int) ∧ j < 3 := ⟨bb.toNat, by omega, by omega⟩
     clear hbb
     have HW : Hid (d.how p = lookH j) := by show d.how p = lookH j; rw [HHOW.out, HS0.out, HS1.out]; simp only [k0, k1, if_true]; unfold lookH; rw [if_neg (by omega), if_neg (by omega)]
     clear k0 k1 HHOW HTELL HS0 HS1 hB ho0 ho1
     go_wp2_with fail
     have hgs : w.heap.size + 1 < (wr.alloc (.cells #[.int .i64 r1.kind, .int .i64 r1.key, .int .i64 r1.ver, .slice a1 r1.data.length c1] 33)).heap.size := by simp; omega
     generalize World.alloc wr _ = W5 at *
     generalize wr.heap.size = gF at *
     have hJ0 := hJ.drew
     clear hJ
     obtain ⟨B5, hB5, hB5'⟩ : ∃ B5, B5 = W5.heap.size ∧ w.heap.size + 1 < B5 := ⟨_, rfl, hgs⟩
     clear hgs
     have hJ1 : LookF w gF r1 (.slice a1 r1.data.length c1) B5 W5.drew := ⟨hJ0, by rw [hB5]; exact Nat.le_refl _⟩
     clear hJ0 hB5
     refine wp_region_w [pl (ThreeP B5), pl (ex (.int .i64 (j : Int))), pl (CellQ B5 (.int .i64 (lookH j))), pl (ex (.int .i64 (lookH j))), pl (ex (.agg #[.int .i64 1, .int .i64 0, .int .i64 0, .slice none 0 0])), pl (ex (.int .i64 (lookH j))), pl ((fun _ w' => w'.heap[w.heap.size + 1]? = some (.cells #[.int .i64 1, .int .i64 0, .int .i64 0, .slice none 0 0] 33 (0, 0))))] [none, none, none, none, none, none, some ((fun w1 w2 => GrowBut (w.heap.size + 1) w1 w2))] (LookF w gF r1 (.slice a1 r1.data.length c1) B5) (by kernel_rfl) (by kernel_rfl) ⟨st_pl (st_three _), st_pl (st_ex _), st_pl (st_cellq _ _), st_pl (st_ex _), st_pl (st_ex _), st_pl (st_ex _), st_pl (st_heap _ _), trivial⟩ ⟨⟨(fun w1 => GrowBut.refl _ w1), ⟨.inr ((fun v _ w1 w2 hs hq => sp_three hB5' hs hq)), .inr (fun _ _ _ _ _ h => h), .inr ((fun v _ w1 w2 hs hq => sp_cellq hB5' hs hq)), .inr (fun _ _ _ _ _ h => h), .inr (fun _ _ _ _ _ h => h), .inr (fun _ _ _ _ _ h => h), .inl (by kernel_rfl), trivial⟩⟩, trivial⟩ ⟨(fun h => by cases h), (fun h => by cases h), (fun h => by cases h), (fun h => by cases h), (fun h => by cases h), (fun h => by cases h), fun _ _ _ _ h => h, trivial⟩ hJ1 ?_ ?_
     ·refine ⟨?_, ?_, ?_, ?_, ?_, ?_, ?_, trivial⟩
      ·refine needw_plain rfl (fun a w' hg hin => ?_)
       refine uponw_step (v := .slice (some ⟨w'.heap.size, 0, none⟩) 3 3) (w' := w'.alloc (.cells #[.int .i64 0, .int .i64 3, .int .i64 4] 3)) ?_ (grow_alloc _ _) ⟨hg.1.grow (grow_alloc _ _), Nat.le_trans hg.2 (grow_alloc _ _).size⟩ ⟨_, hg.2, rfl, heap_new _ _ _⟩
       clear hin hg
       obtain ⟨ek, ef⟩ := evs a
       generalize a.eval = ev at *
       go_simp
       all_goals first | omega | (intro _; omega) | go_arith
      ·refine needw_plain rfl (fun a w' hg hin => ?_)
       have e : a.eval (.tmp 7) = .int .i64 (j : Int) := insw_ext hin 7 (by kernel_rfl)
       exact uponw_move rfl hg e
      ·refine needw_plain rfl (fun a w' hg hin => ?_)
       have e90 : (ThreeP B5) (a.eval (.tmp 90)) w' := insw_on hin 0 (by kernel_rfl)
       have e91 : a.eval (.tmp 91) = _ := insw_on hin 1 (by kernel_rfl)
       obtain ⟨g', hg1, hg2, hg3⟩ := e90
       refine uponw_val (v := .pointer (some ⟨g', j, none⟩)) ?_ hg ⟨g', j, hg1, rfl, box_cell hg3 j _ (look3 hj)⟩
       clear hin hg hg3
       obtain ⟨ek, ef⟩ := evs a
       generalize a.eval = ev at *
       go_simp
       all_goals first | omega | (intro _; omega) | go_arith
      ·refine needw_plain rfl (fun a w' hg hin => ?_)
       have e92 : (CellQ B5 (.int .i64 (lookH j))) (a.eval (.tmp 92)) w' := insw_on hin 2 (by kernel_rfl)
       obtain ⟨g', o', hg1, hg2, hg3⟩ := e92
       refine uponw_val ?_ hg rfl
       clear hin hg
       obtain ⟨ek, ef⟩ := evs a
       generalize a.eval = ev at *
       go_simp
       all_goals first | omega | (intro _; omega) | go_arith
      ·refine needw_plain rfl (fun a w' hg hin => ?_)
       refine uponw_call (f := 42) (args := #[]) ?_ ((free_any w').mono ?_)
       ·clear hin hg
        obtain ⟨ek, ef⟩ := evs a
        generalize a.eval = ev at *
        go_simp
        all_goals first | omega | (intro _; omega) | go_arith
       ·rintro e w2 ⟨rfl, g2⟩
        exact ⟨_, rfl, g2, ⟨hg.1.grow g2, Nat.le_trans hg.2 g2.size⟩, rfl⟩
      ·refine needw_plain rfl (fun a w' hg hin => ?_)
       have e : a.eval (.tmp 93) = _ := insw_on hin 3 (by kernel_rfl)
       exact uponw_assign rfl hg e
      ·refine needw_plain rfl (fun a w' hg hin => ?_)
       have e5 : a.eval (.tmp 5) = .pointer (some ⟨w.heap.size + 1, 0, none⟩) := insw_ext hin 5 (by kernel_rfl)
       have e94 : a.eval (.tmp 94) = _ := insw_on hin 4 (by kernel_rfl)
       obtain ⟨x0, x1, x2, x3, hh⟩ := hg.1.2.2.1
       obtain ⟨hp1, hp2⟩ := box_put hh (.int .i64 1) (.int .i64 0) (.int .i64 0) (.slice none 0 0)
       obtain ⟨z0, z1, z2, z3⟩ := box4 hh rfl rfl rfl rfl
       obtain ⟨f0, f1, f2, f3⟩ := boxf4 hh
       have cs := cell_set
       refine uponw_skip (w' := _) ?_ hp2 ⟨⟨hp2.grow hg.1.1 (by omega), (hp2.block _ (heap_lt hg.1.2.1) (by omega)).trans hg.1.2.1, ⟨_, _, _, _, hp1⟩, own_box4 0 1 2 3 hg.1.2.2.2 hh (by decide)⟩, Nat.le_trans hg.2 hp2.size⟩ hp1
       clear hin hg hp1 hp2 hh
       obtain ⟨ek, ef⟩ := evs a
       generalize a.eval = ev at *
       go_simp
       all_goals first | omega | (intro _; omega) | go_arith
     ·intro vs w' hg ht
      obtain ⟨q90, q91, q92, q93, q94, q4, qo6, -⟩ := ht
      replace q90 : (ThreeP B5) (vs 0) w' := q90
      have r91 : vs 1 = .int .i64 (j : Int) := q91
      replace q92 : (CellQ B5 (.int .i64 (lookH j))) (vs 2) w' := q92
      have r93 : vs 3 = .int .i64 (lookH j) := q93
      have r94 : vs 4 = .agg #[.int .i64 1, .int .i64 0, .int .i64 0, .slice none 0 0] := q94
      have r4 : vs 5 = .int .i64 (lookH j) := q4
      replace qo6 : ((fun _ w' => w'.heap[w.heap.size + 1]? = some (.cells #[.int .i64 1, .int .i64 0, .int .i64 0, .slice none 0 0] 33 (0, 0)))) (vs 6) w' := qo6
      clear q91 q93 q94 q4
      simp only [putAll, Act.put, List.setIfInBounds_toArray, List.set_cons_zero, List.set_cons_succ, Nat.reduceAdd, r91, r93, r94, r4]
      clear r91 r93 r94 r4
      obtain ⟨y0, y1, y2, y3⟩ := box4 qo6 rfl rfl rfl rfl
      generalize vs 0 = u0
      generalize vs 2 = u2
      go_wp2_with fail
      refine bodyPost_ret (v := .tuple #[.int .i64 (lookH j), .agg #[.int .i64 1, .int .i64 0, .int .i64 0, .slice none 0 0]]) (by simp [results, Try.results12, go_sem, y0, y1, y2, y3]) rfl ⟨_, by rw [HW.out, HT.out]; rfl, by rw [HT.out]; exact World.ownsRow_nil _ _ _ _, hg.1.1⟩
    ·have HT : Hid (d.tell p = r1) := by show d.tell p = r1; rw [HTELL.out, HS0.out, HS1.out]; simp [k0, k1]
     have HW : Hid (d.how p = 2) := by show d.how p = 2; rw [HHOW.out, HS0.out, HS1.out]; simp [k0, k1]
     have HSS : Hid (s0 + s1 = 1) := by show _ = _; rw [HS0.out, HS1.out]; simp [k0, k1]
     rw [HSS.out]
     have d0_ : (r0.kind == 1) = true := by simp [k0]
     have hJ : LookE w wr.heap.size r1 (.slice a1 r1.data.length c1) ((wr.alloc (.cells #[.int .i64 r1.kind, .int .i64 r1.key, .int .i64 r1.ver, .slice a1 r1.data.length c1] 33))) := look_e hB ho1
     clear k0 k1 HHOW HTELL HS0 HS1 hB ho0 ho1
     go_wp2_with fail
     generalize World.alloc wr _ = W5 at *
     generalize wr.heap.size = gF at *
     have hJ0 := hJ.drew
     clear hJ
     refine wp_region_w [pl (ex (.agg #[.int .i64 r1.kind, .int .i64 r1.key, .int .i64 r1.ver, .slice a1 r1.data.length c1])), pl (ex (.int .i64 2)), pl ((fun _ w' => w'.heap[w.heap.size + 1]? = some (.cells #[.int .i64 r1.kind, .int .i64 r1.key, .int .i64 r1.ver, .slice a1 r1.data.length c1] 33 (0, 0))))] [none, none, some ((fun w1 w2 => GrowBut (w.heap.size + 1) w1 w2))] (LookE w gF r1 (.slice a1 r1.data.length c1)) (by kernel_rfl) (by kernel_rfl) ⟨st_pl (st_ex _), st_pl (st_ex _), st_pl (st_heap _ _), trivial⟩ ⟨⟨(fun w1 => GrowBut.refl _ w1), ⟨.inr (fun _ _ _ _ _ h => h), .inr (fun _ _ _ _ _ h => h), .inl (by kernel_rfl), trivial⟩⟩, trivial⟩ ⟨(fun h => by cases h), (fun h => by cases h), fun _ _ _ _ h => h, trivial⟩ hJ0 ?_ ?_
     ·refine ⟨?_, ?_, ?_, trivial⟩
      ·refine needw_plain rfl (fun a w' hg hin => ?_)
       have e14 : a.eval (.tmp 14) = .pointer (some ⟨gF, 0, none⟩) := insw_ext hin 14 (by kernel_rfl)
       have z0 := box_cell hg.2.1 0 _ rfl
       have z1 := box_cell hg.2.1 1 _ rfl
       have z2 := box_cell hg.2.1 2 _ rfl
       have z3 := box_cell hg.2.1 3 _ rfl
       refine uponw_val ?_ hg rfl
       clear hin hg
       obtain ⟨ek, ef⟩ := evs a
       generalize a.eval = ev at *
       go_simp
       all_goals first | omega | (intro _; omega) | go_arith
      ·refine needw_plain rfl (fun a w' hg hin => ?_)
       exact uponw_assign rfl hg rfl
      ·refine needw_plain rfl (fun a w' hg hin => ?_)
       have e5 : a.eval (.tmp 5) = .pointer (some ⟨w.heap.size + 1, 0, none⟩) := insw_ext hin 5 (by kernel_rfl)
       have e89 : a.eval (.tmp 89) = _ := insw_on hin 0 (by kernel_rfl)
       obtain ⟨x0, x1, x2, x3, hh⟩ := hg.2.2.1
       obtain ⟨hp1, hp2⟩ := box_put hh (.int .i64 r1.kind) (.int .i64 r1.key) (.int .i64 r1.ver) (.slice a1 r1.data.length c1)
       obtain ⟨z0, z1, z2, z3⟩ := box4 hh rfl rfl rfl rfl
       obtain ⟨f0, f1, f2, f3⟩ := boxf4 hh
       have cs := cell_set
       refine uponw_skip (w' := _) ?_ hp2 ⟨hp2.grow hg.1 (by omega), (hp2.block _ (heap_lt hg.2.1) (by omega)).trans hg.2.1, ⟨_, _, _, _, hp1⟩, own_box4 0 1 2 3 hg.2.2.2 hh (by decide)⟩ hp1
       clear hin hg hp1 hp2 hh
       obtain ⟨ek, ef⟩ := evs a
       generalize a.eval = ev at *
       go_simp
       all_goals first | omega | (intro _; omega) | go_arith
     ·intro vs w' hg ht
      obtain ⟨q89, q4, qo2, -⟩ := ht
      have r89 : vs 0 = .agg #[.int .i64 r1.kind, .int .i64 r1.key, .int .i64 r1.ver, .slice a1 r1.data.length c1] := q89
      have r4 : vs 1 = .int .i64 2 := q4
      replace qo2 : ((fun _ w' => w'.heap[w.heap.size + 1]? = some (.cells #[.int .i64 r1.kind, .int .i64 r1.key, .int .i64 r1.ver, .slice a1 r1.data.length c1] 33 (0, 0)))) (vs 2) w' := qo2
      clear q89 q4
      simp only [putAll, Act.put, List.setIfInBounds_toArray, List.set_cons_zero, List.set_cons_succ, r89, r4]
      clear r89 r4
      obtain ⟨y0, y1, y2, y3⟩ := box4 qo2 rfl rfl rfl rfl
      go_wp2_with fail
      refine bodyPost_ret (v := .tuple #[.int .i64 2, .agg #[.int .i64 r1.kind, .int .i64 r1.key, .int .i64 r1.ver, .slice a1 r1.data.length c1]]) (by simp [results, Try.results12, go_sem, y0, y1, y2, y3]) rfl ⟨_, by rw [HW.out, HT.out], by rw [HT.out]; exact own_mono hg.2.2.2 (by omega), hg.1⟩
   ·by_cases k1 : r1.kind = 1
    ·have HT : Hid (d.tell p = r0) := by show d.tell p = r0; rw [HTELL.out, HS0.out, HS1.out]; simp [k0, k1]
     have HW : Hid (d.how p = 2) := by show d.how p = 2; rw [HHOW.out, HS0.out, HS1.out]; simp [k0, k1]
     have HSS : Hid (s0 + s1 = 1) := by show _ = _; rw [HS0.out, HS1.out]; simp [k0, k1]
     rw [HSS.out]
     have d0_ : (r0.kind == 1) = false := by simp [k0]
     have hJ : LookE w wr.heap.size r0 (.slice a0 r0.data.length c0) ((wr.alloc (.cells #[.int .i64 r0.kind, .int .i64 r0.key, .int .i64 r0.ver, .slice a0 r0.data.length c0] 33))) := look_e hB ho0
     clear k0 k1 HHOW HTELL HS0 HS1 hB ho0 ho1
     go_wp2_with fail
     generalize World.alloc wr _ = W5 at *
     generalize wr.heap.size = gF at *
     have hJ0 := hJ.drew
     clear hJ
     refine wp_region_w [pl (ex (.agg #[.int .i64 r0.kind, .int .i64 r0.key, .int .i64 r0.ver, .slice a0 r0.data.length c0])), pl (ex (.int .i64 2)), pl ((fun _ w' => w'.heap[w.heap.size + 1]? = some (.cells #[.int .i64 r0.kind, .int .i64 r0.key, .int .i64 r0.ver, .slice a0 r0.data.length c0] 33 (0, 0))))] [none, none, some ((fun w1 w2 => GrowBut (w.heap.size + 1) w1 w2))] (LookE w gF r0 (.slice a0 r0.data.length c0)) (by kernel_rfl) (by kernel_rfl) ⟨st_pl (st_ex _), st_pl (st_ex _), st_pl (st_heap _ _), trivial⟩ ⟨⟨(fun w1 => GrowBut.refl _ w1), ⟨.inr (fun _ _ _ _ _ h => h), .inr (fun _ _ _ _ _ h => h), .inl (by kernel_rfl), trivial⟩⟩, trivial⟩ ⟨(fun h => by cases h), (fun h => by cases h), fun _ _ _ _ h => h, trivial⟩ hJ0 ?_ ?_
     ·refine ⟨?_, ?_, ?_, trivial⟩
      ·refine needw_plain rfl (fun a w' hg hin => ?_)
       have e14 : a.eval (.tmp 14) = .pointer (some ⟨gF, 0, none⟩) := insw_ext hin 14 (by kernel_rfl)
       have z0 := box_cell hg.2.1 0 _ rfl
       have z1 := box_cell hg.2.1 1 _ rfl
       have z2 := box_cell hg.2.1 2 _ rfl
       have z3 := box_cell hg.2.1 3 _ rfl
       refine uponw_val ?_ hg rfl
       clear hin hg
       obtain ⟨ek, ef⟩ := evs a
       generalize a.eval = ev at *
       go_simp
       all_goals first | omega | (intro _; omega) | go_arith
      ·refine needw_plain rfl (fun a w' hg hin => ?_)
       exact uponw_assign rfl hg rfl
      ·refine needw_plain rfl (fun a w' hg hin => ?_)
       have e5 : a.eval (.tmp 5) = .pointer (some ⟨w.heap.size + 1, 0, none⟩) := insw_ext hin 5 (by kernel_rfl)
       have e89 : a.eval (.tmp 89) = _ := insw_on hin 0 (by kernel_rfl)
       obtain ⟨x0, x1, x2, x3, hh⟩ := hg.2.2.1
       obtain ⟨hp1, hp2⟩ := box_put hh (.int .i64 r0.kind) (.int .i64 r0.key) (.int .i64 r0.ver) (.slice a0 r0.data.length c0)
       obtain ⟨z0, z1, z2, z3⟩ := box4 hh rfl rfl rfl rfl
       obtain ⟨f0, f1, f2, f3⟩ := boxf4 hh
       have cs := cell_set
       refine uponw_skip (w' := _) ?_ hp2 ⟨hp2.grow hg.1 (by omega), (hp2.block _ (heap_lt hg.2.1) (by omega)).trans hg.2.1, ⟨_, _, _, _, hp1⟩, own_box4 0 1 2 3 hg.2.2.2 hh (by decide)⟩ hp1
       clear hin hg hp1 hp2 hh
       obtain ⟨ek, ef⟩ := evs a
       generalize a.eval = ev at *
       go_simp
       all_goals first | omega | (intro _; omega) | go_arith
     ·intro vs w' hg ht
      obtain ⟨q89, q4, qo2, -⟩ := ht
      have r89 : vs 0 = .agg #[.int .i64 r0.kind, .int .i64 r0.key, .int .i64 r0.ver, .slice a0 r0.data.length c0] := q89
      have r4 : vs 1 = .int .i64 2 := q4
      replace qo2 : ((fun _ w' => w'.heap[w.heap.size + 1]? = some (.cells #[.int .i64 r0.kind, .int .i64 r0.key, .int .i64 r0.ver, .slice a0 r0.data.length c0] 33 (0, 0)))) (vs 2) w' := qo2
      clear q89 q4
      simp only [putAll, Act.put, List.setIfInBounds_toArray, List.set_cons_zero, List.set_cons_succ, r89, r4]
      clear r89 r4
      obtain ⟨y0, y1, y2, y3⟩ := box4 qo2 rfl rfl rfl rfl
      go_wp2_with fail
      refine bodyPost_ret (v := .tuple #[.int .i64 2, .agg #[.int .i64 r0.kind, .int .i64 r0.key, .int .i64 r0.ver, .slice a0 r0.data.length c0]]) (by simp [results, Try.results12, go_sem, y0, y1, y2, y3]) rfl ⟨_, by rw [HW.out, HT.out], by rw [HT.out]; exact own_mono hg.2.2.2 (by omega), hg.1⟩
    ·have HT : Hid (d.tell p = r0) := by show d.tell p = r0; rw [HTELL.out, HS0.out, HS1.out]; simp [k0, k1]
     have HSS : Hid (s0 + s1 = 2) := by show _ = _; rw [HS0.out, HS1.out]; simp [k0, k1]
     have HW2 : Hid (d.how p = if sameB r0 r1 = true then 1 else 5) := by show d.how p = _; rw [HHOW.out, HS0.out, HS1.out]; simp [k0, k1]
     rw [HSS.out]
     have d0_ : (r0.kind == 1) = false := by simp [k0]
     have hJ : LookE w wr.heap.size r0 (.slice a0 r0.data.length c0) ((wr.alloc (.cells #[.int .i64 r0.kind, .int .i64 r0.key, .int .i64 r0.ver, .slice a0 r0.data.length c0] 33))) := look_e hB ho0
     have hD0 := bytes_own ho0
     have hD1 := bytes_own ho1
     clear k0 k1 HHOW HTELL HS0 HS1 hB ho0 ho1
     go_wp2_with fail
     refine (rsame_any _ _ _ _ _ _ r0.data r1.data _ _ _ (by exact bytes_grow hD0 (grow_alloc _ _)) (by exact bytes_grow hD1 (grow_alloc _ _))).mono ?_
     cases hsb : sameB r0 r1 with
     | true =>
      have HW : Hid (d.how p = 1) := by show d.how p = 1; rw [HW2.out, hsb]; rfl
      clear hsb
      rintro e w6 ⟨rfl, g6⟩
      have hJ0 := (hJ.grow g6).drew
      clear hJ g6 hD0 hD1 q0 q1 q2 q3 q4 q5 q6 q7
      generalize wr.heap.size = gF at *
      go_wp2_with fail
      refine wp_region_w [pl (ex (.agg #[.int .i64 r0.kind, .int .i64 r0.key, .int .i64 r0.ver, .slice a0 r0.data.length c0])), pl (ex (.int .i64 1)), pl ((fun _ w' => w'.heap[w.heap.size + 1]? = some (.cells #[.int .i64 r0.kind, .int .i64 r0.key, .int .i64 r0.ver, .slice a0 r0.data.length c0] 33 (0, 0))))] [none, none, some ((fun w1 w2 => GrowBut (w.heap.size + 1) w1 w2))] (LookE w gF r0 (.slice a0 r0.data.length c0)) (by kernel_rfl) (by kernel_rfl) ⟨st_pl (st_ex _), st_pl (st_ex _), st_pl (st_heap _ _), trivial⟩ ⟨⟨(fun w1 => GrowBut.refl _ w1), ⟨.inr (fun _ _ _ _ _ h => h), .inr (fun _ _ _ _ _ h => h), .inl (by kernel_rfl), trivial⟩⟩, trivial⟩ ⟨(fun h => by cases h), (fun h => by cases h), fun _ _ _ _ h => h, trivial⟩ hJ0 ?_ ?_
      ·refine ⟨?_, ?_, ?_, trivial⟩
       ·refine needw_plain rfl (fun a w' hg hin => ?_)
        have e14 : a.eval (.tmp 14) = .pointer (some ⟨gF, 0, none⟩) := insw_ext hin 14 (by kernel_rfl)
        have z0 := box_cell hg.2.1 0 _ rfl
        have z1 := box_cell hg.2.1 1 _ rfl
        have z2 := box_cell hg.2.1 2 _ rfl
        have z3 := box_cell hg.2.1 3 _ rfl
        refine uponw_val ?_ hg rfl
        clear hin hg
        obtain ⟨ek, ef⟩ := evs a
        generalize a.eval = ev at *
        go_simp
        all_goals first | omega | (intro _; omega) | go_arith
       ·refine needw_plain rfl (fun a w' hg hin => ?_)
        exact uponw_assign rfl hg rfl
       ·refine needw_plain rfl (fun a w' hg hin => ?_)
        have e5 : a.eval (.tmp 5) = .pointer (some ⟨w.heap.size + 1, 0, none⟩) := insw_ext hin 5 (by kernel_rfl)
        have e81 : a.eval (.tmp 81) = _ := insw_on hin 0 (by kernel_rfl)
        obtain ⟨x0, x1, x2, x3, hh⟩ := hg.2.2.1
        obtain ⟨hp1, hp2⟩ := box_put hh (.int .i64 r0.kind) (.int .i64 r0.key) (.int .i64 r0.ver) (.slice a0 r0.data.length c0)
        obtain ⟨z0, z1, z2, z3⟩ := box4 hh rfl rfl rfl rfl
        obtain ⟨f0, f1, f2, f3⟩ := boxf4 hh
        have cs := cell_set
        refine uponw_skip (w' := _) ?_ hp2 ⟨hp2.grow hg.1 (by omega), (hp2.block _ (heap_lt hg.2.1) (by omega)).trans hg.2.1, ⟨_, _, _, _, hp1⟩, own_box4 0 1 2 3 hg.2.2.2 hh (by decide)⟩ hp1
        clear hin hg hp1 hp2 hh
        obtain ⟨ek, ef⟩ := evs a
        generalize a.eval = ev at *
        go_simp
        all_goals first | omega | (intro _; omega) | go_arith
      ·intro vs w' hg ht
       obtain ⟨q81, q4, qo2, -⟩ := ht
       have r81 : vs 0 = .agg #[.int .i64 r0.kind, .int .i64 r0.key, .int .i64 r0.ver, .slice a0 r0.data.length c0] := q81
       have r4 : vs 1 = .int .i64 1 := q4
       replace qo2 : ((fun _ w' => w'.heap[w.heap.size + 1]? = some (.cells #[.int .i64 r0.kind, .int .i64 r0.key, .int .i64 r0.ver, .slice a0 r0.data.length c0] 33 (0, 0)))) (vs 2) w' := qo2
       clear q81 q4
       simp only [putAll, Act.put, List.setIfInBounds_toArray, List.set_cons_zero, List.set_cons_succ, r81, r4]
       clear r81 r4
       obtain ⟨y0, y1, y2, y3⟩ := box4 qo2 rfl rfl rfl rfl
       go_wp2_with fail
       refine bodyPost_ret (v := .tuple #[.int .i64 1, .agg #[.int .i64 r0.kind, .int .i64 r0.key, .int .i64 r0.ver, .slice a0 r0.data.length c0]]) (by simp [results, Try.results12, go_sem, y0, y1, y2, y3]) rfl ⟨_, by rw [HW.out, HT.out], by rw [HT.out]; exact own_mono hg.2.2.2 (by omega), hg.1⟩
     | false =>
      have HW : Hid (d.how p = 5) := by show d.how p = 5; rw [HW2.out, hsb]; rfl
      clear hsb
      rintro e w6 ⟨rfl, g6⟩
      have hJ0 := (hJ.grow g6).drew
      clear hJ g6 hD0 hD1 q0 q1 q2 q3 q4 q5 q6 q7
      generalize wr.heap.size = gF at *
      go_wp2_with fail
      refine wp_region_w [pl (ex (.agg #[.int .i64 r0.kind, .int .i64 r0.key, .int .i64 r0.ver, .slice a0 r0.data.length c0])), pl (ex (.int .i64 5)), pl ((fun _ w' => w'.heap[w.heap.size + 1]? = some (.cells #[.int .i64 r0.kind, .int .i64 r0.key, .int .i64 r0.ver, .slice a0 r0.data.length c0] 33 (0, 0))))] [none, none, some ((fun w1 w2 => GrowBut (w.heap.size + 1) w1 w2))] (LookE w gF r0 (.slice a0 r0.data.length c0)) (by kernel_rfl) (by kernel_rfl) ⟨st_pl (st_ex _), st_pl (st_ex _), st_pl (st_heap _ _), trivial⟩ ⟨⟨(fun w1 => GrowBut.refl _ w1), ⟨.inr (fun _ _ _ _ _ h => h), .inr (fun _ _ _ _ _ h => h), .inl (by kernel_rfl), trivial⟩⟩, trivial⟩ ⟨(fun h => by cases h), (fun h => by cases h), fun _ _ _ _ h => h, trivial⟩ hJ0 ?_ ?_
      ·refine ⟨?_, ?_, ?_, trivial⟩
       ·refine needw_plain rfl (fun a w' hg hin => ?_)
        have e14 : a.eval (.tmp 14) = .pointer (some ⟨gF, 0, none⟩) := insw_ext hin 14 (by kernel_rfl)
        have z0 := box_cell hg.2.1 0 _ rfl
        have z1 := box_cell hg.2.1 1 _ rfl
        have z2 := box_cell hg.2.1 2 _ rfl
        have z3 := box_cell hg.2.1 3 _ rfl
        refine uponw_val ?_ hg rfl
        clear hin hg
        obtain ⟨ek, ef⟩ := evs a
        generalize a.eval = ev at *
        go_simp
        all_goals first | omega | (intro _; omega) | go_arith
       ·refine needw_plain rfl (fun a w' hg hin => ?_)
        exact uponw_assign rfl hg rfl
       ·refine needw_plain rfl (fun a w' hg hin => ?_)
        have e5 : a.eval (.tmp 5) = .pointer (some ⟨w.heap.size + 1, 0, none⟩) := insw_ext hin 5 (by kernel_rfl)
        have e85 : a.eval (.tmp 85) = _ := insw_on hin 0 (by kernel_rfl)
        obtain ⟨x0, x1, x2, x3, hh⟩ := hg.2.2.1
        obtain ⟨hp1, hp2⟩ := box_put hh (.int .i64 r0.kind) (.int .i64 r0.key) (.int .i64 r0.ver) (.slice a0 r0.data.length c0)
        obtain ⟨z0, z1, z2, z3⟩ := box4 hh rfl rfl rfl rfl
        obtain ⟨f0, f1, f2, f3⟩ := boxf4 hh
        have cs := cell_set
        refine uponw_skip (w' := _) ?_ hp2 ⟨hp2.grow hg.1 (by omega), (hp2.block _ (heap_lt hg.2.1) (by omega)).trans hg.2.1, ⟨_, _, _, _, hp1⟩, own_box4 0 1 2 3 hg.2.2.2 hh (by decide)⟩ hp1
        clear hin hg hp1 hp2 hh
        obtain ⟨ek, ef⟩ := evs a
        generalize a.eval = ev at *
        go_simp
        all_goals first | omega | (intro _; omega) | go_arith
      ·intro vs w' hg ht
       obtain ⟨q85, q4, qo2, -⟩ := ht
       have r85 : vs 0 = .agg #[.int .i64 r0.kind, .int .i64 r0.key, .int .i64 r0.ver, .slice a0 r0.data.length c0] := q85
       have r4 : vs 1 = .int .i64 5 := q4
       replace qo2 : ((fun _ w' => w'.heap[w.heap.size + 1]? = some (.cells #[.int .i64 r0.kind, .int .i64 r0.key, .int .i64 r0.ver, .slice a0 r0.data.length c0] 33 (0, 0)))) (vs 2) w' := qo2
       clear q85 q4
       simp only [putAll, Act.put, List.setIfInBounds_toArray, List.set_cons_zero, List.set_cons_succ, r85, r4]
       clear r85 r4
       obtain ⟨y0, y1, y2, y3⟩ := box4 qo2 rfl rfl rfl rfl
       go_wp2_with fail
       refine bodyPost_ret (v := .tuple #[.int .i64 5, .agg #[.int .i64 r0.kind, .int .i64 r0.key, .int .i64 r0.ver, .slice a0 r0.data.length c0]]) (by simp [results, Try.results12, go_sem, y0, y1, y2, y3]) rfl ⟨_, by rw [HW.out, HT.out], by rw [HT.out]; exact own_mono hg.2.2.2 (by omega), hg.1⟩
end Go.Proofs.Ytgaecpdokgklpab
