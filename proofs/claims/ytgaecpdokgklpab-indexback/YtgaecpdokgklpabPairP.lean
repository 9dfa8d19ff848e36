/-
  What the program's pair.Put and pair.Mend make of a disk.
  Condition: the disk lies in memory, as the document has disks; the record does.
-/
import Derived.Test.YtgaecpdokgklpabPTell
namespace Go.Proofs.Ytgaecpdokgklpab
set_option maxRecDepth 100000
open Go.RowKit
open Go.Proofs.Ytgaecpdokgklpab.Plain Go.Proofs.Ytgaecpdokgklpab.Reg

/-- Put's variables but the disk that is made: the disk, the record, the answer's. -/
structure PutG (w0 : World) (vd : Array Value) (rc : Array Value) (w : World) : Prop where
 grow : Grow w0 w
 disk : w.heap[w0.heap.size]? = some (.cells vd 25 (0, 0))
 recd : w.heap[w0.heap.size + 1]? = some (.cells rc 33 (0, 0))
 zero : w.heap[w0.heap.size + 1 + 1]? = some (.cells #[.slice none 0 0, .slice none 0 0] 25 (0, 0))
 size : w0.heap.size + 1 + 1 + 1 < w.heap.size
theorem PutG.on {w0 : World} {vd rc : Array Value} {w w' : World} (h : PutG w0 vd rc w) (hg : Grow w w') : PutG w0 vd rc w' :=
 ⟨h.grow.trans hg, (hg.block _ (heap_lt h.disk)).trans h.disk, (hg.block _ (heap_lt h.recd)).trans h.recd, (hg.block _ (heap_lt h.zero)).trans h.zero, Nat.lt_of_lt_of_le h.size hg.size⟩
theorem PutG.but {w0 : World} {vd rc : Array Value} {w w' : World} (h : PutG w0 vd rc w) (hg : GrowBut (w0.heap.size + 1 + 1 + 1) w w') : PutG w0 vd rc w' :=
 ⟨hg.grow h.grow (by omega), (hg.block _ (heap_lt h.disk) (by omega)).trans h.disk, (hg.block _ (heap_lt h.recd) (by omega)).trans h.recd, (hg.block _ (heap_lt h.zero) (by omega)).trans h.zero, Nat.lt_of_lt_of_le h.size hg.size⟩
/-- The variable of the disk that is made. -/
def PutD (w0 : World) (S : Nat → Prop) (D : Dk) (vb vl : Value) (w : World) : Prop := w.heap[w0.heap.size + 1 + 1 + 1]? = some (.cells #[vb, vl] 25 (0, 0)) ∧ DiskS (Upon S (w0.heap.size + 1 + 1 + 1 + 1)) D (.agg #[vb, vl]) w
theorem PutD.on {w0 : World} {S : Nat → Prop} {D : Dk} {vb vl : Value} {w w' : World} (h : PutD w0 S D vb vl w) (hg : Grow w w') : PutD w0 S D vb vl w' := ⟨(hg.block _ (heap_lt h.1)).trans h.1, h.2.grow hg⟩
def PutV (w0 : World) (vd rc : Array Value) (S : Nat → Prop) (D : Dk) (w : World) : Prop := PutG w0 vd rc w ∧ ∃ vb vl, PutD w0 S D vb vl w
theorem PutV.on {w0 : World} {vd rc : Array Value} {S : Nat → Prop} {D : Dk} {w w' : World} (h : PutV w0 vd rc S D w) (hg : Grow w w') : PutV w0 vd rc S D w' := by
 obtain ⟨h1, vb, vl, h2⟩ := h
 exact ⟨h1.on hg, vb, vl, h2.on hg⟩

/-- A variable holds the disk that v is. -/
def HeldQ (B g : Nat) (d : Dk) (v : Value) (w : World) : Prop := ∃ vb vl, w.heap[g]? = some (.cells #[vb, vl] 25 (0, 0)) ∧ v = .agg #[vb, vl] ∧ DiskQ B d v w
theorem st_heldq (B g : Nat) (d : Dk) (i : Nat) : StableW (pl1 i (fun _ v w => HeldQ B g d v w)) := by
 rintro v ds w w' hg ⟨vb, vl, h2, h1, h3⟩
 exact ⟨vb, vl, (hg.block _ (heap_lt h2)).trans h2, h1, h3.grow hg⟩
/-- A disk beside an error. -/
def TupQ (B : Nat) (d : Dk) (v : Value) (w : World) : Prop := ∃ v', v = .tuple #[v', .int .i64 0] ∧ DiskQ B d v' w
theorem st_tupq (B : Nat) (d : Dk) : Stable (TupQ B d) := by
 rintro v w w' hg ⟨v', h1, h2⟩; exact ⟨v', h1, h2.grow hg⟩
theorem sp_tupq {B : Nat} {d : Dk} {v : Value} {w w' : World} (hs : BoxStep 25 w w') (h : TupQ B d v w) : TupQ B d v w' := by
 obtain ⟨v', h1, h2⟩ := h; exact ⟨v', h1, h2.box hs⟩

theorem PutV.start (S : Nat → Prop) (w : World) (d : Dk) (vb vl : Value) (rc : Array Value) (hd : DiskS S d (.agg #[vb, vl]) w) : PutV w #[vb, vl] rc S d ((((w.alloc (.cells #[vb, vl] 25)).alloc (.cells rc 33)).alloc (.cells #[.slice none 0 0, .slice none 0 0] 25)).alloc (.cells #[vb, vl] 25)) := by
 have g1 := grow_alloc w (.cells #[vb, vl] 25)
 have k1 := heap_new w #[vb, vl] 25
 have s1 := World.size_alloc w (.cells #[vb, vl] 25)
 generalize World.alloc w _ = w1 at *
 have g2 := grow_alloc w1 (.cells rc 33)
 have k2 := heap_new w1 rc 33
 have s2 := World.size_alloc w1 (.cells rc 33)
 generalize World.alloc w1 _ = w2 at *
 have g3 := grow_alloc w2 (.cells #[.slice none 0 0, .slice none 0 0] 25)
 have k3 := heap_new w2 #[.slice none 0 0, .slice none 0 0] 25
 have s3 := World.size_alloc w2 (.cells #[.slice none 0 0, .slice none 0 0] 25)
 generalize World.alloc w2 _ = w3 at *
 have g4 := grow_alloc w3 (.cells #[vb, vl] 25)
 have k4 := heap_new w3 #[vb, vl] 25
 generalize World.alloc w3 _ = w4 at *
 rw [s3, s2, s1] at k4
 rw [s2, s1] at k3
 rw [s1] at k2
 have gA := ((g1.trans g2).trans g3).trans g4
 exact ⟨⟨gA, (((g2.trans g3).trans g4).block _ (heap_lt k1)).trans k1, ((g3.trans g4).block _ (heap_lt k2)).trans k2, (g4.block _ (heap_lt k3)).trans k3, heap_lt k4⟩, vb, vl, k4, (hd.grow gA).mono upon_l⟩

theorem how_five (d : Dk) (p : Int) : 0 ≤ d.how p ∧ d.how p ≤ 5 := by
 unfold Dk.how
 repeat' split
 all_goals omega

end Go.Proofs.Ytgaecpdokgklpab
