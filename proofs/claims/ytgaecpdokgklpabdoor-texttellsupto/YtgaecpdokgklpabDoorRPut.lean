/-
  What the document's free and PutPair tell: a disk with both blocks of a pair written.
  Condition: the disk lies in memory, of at most 256 blocks, and the record's data do.
-/
import Derived.Test.YtgaecpdokgklpabDoorRGet
import Derived.Test.YtgaecpdokgklpabDoorJReg
namespace Go.Proofs.YtgaecpdokgklpabDoor
set_option maxRecDepth 100000
open Go.RowKit
open Go.Proofs.YtgaecpdokgklpabDoor.Plain Go.Proofs.YtgaecpdokgklpabDoor.Reg

def Dk.pairE (d : Dk) (p : Int) (r : Rec) : Int := if p < 0 ∨ ((d.blocks.length / 2 : Nat) : Int) ≤ p then 3 else wrong r
def Dk.pairW (d : Dk) (p : Int) (r : Rec) : Dk := ⟨d.blocks, d.late ++ [(2 * p, blk r (2 * p)), (2 * p + 1, blk r (2 * p + 1))]⟩
def Dk.pairD (d : Dk) (p : Int) (r : Rec) : Dk := if d.pairE p r = 0 then d.pairW p r else d

def TupP (S : Nat → Prop) (vb : Value) (e : Int) (ws : List Wr) (v : Value) (w : World) : Prop := ∃ vl, v = .tuple #[.agg #[vb, vl], .int .i64 e] ∧ LateS S w vl ws
def AggP (S : Nat → Prop) (vb : Value) (ws : List Wr) (v : Value) (w : World) : Prop := ∃ vl, v = .agg #[vb, vl] ∧ LateS S w vl ws
theorem st_tup (S : Nat → Prop) (vb : Value) (e : Int) (ws : List Wr) : Stable (TupP S vb e ws) := by
 rintro v w w' hg ⟨vl, h1, h2⟩; exact ⟨vl, h1, h2.grow hg⟩
theorem st_aggl (S : Nat → Prop) (vb : Value) (ws : List Wr) : Stable (AggP S vb ws) := by
 rintro v w w' hg ⟨vl, h1, h2⟩; exact ⟨vl, h1, h2.grow hg⟩
theorem sp_tup {S : Nat → Prop} {vb : Value} {e : Int} {ws : List Wr} {g : Nat} (hn : ¬ S g) {v : Value} {w w' : World} (hs : GrowBut g w w') (h : TupP S vb e ws v w) : TupP S vb e ws v w' := by
 obtain ⟨vl, h1, h2⟩ := h; exact ⟨vl, h1, h2.but hs hn⟩
theorem sp_aggl {S : Nat → Prop} {vb : Value} {ws : List Wr} {g : Nat} (hn : ¬ S g) {v : Value} {w w' : World} (hs : GrowBut g w w') (h : AggP S vb ws v w) : AggP S vb ws v w' := by
 obtain ⟨vl, h1, h2⟩ := h; exact ⟨vl, h1, h2.but hs hn⟩
/-- Two cells of a block are written. -/
theorem box_put2 {w : World} {g : Nat} {T : TypeId} {f} {c0 c1 : Value} (h : w.heap[g]? = some (.cells #[c0, c1] T f)) (x0 x1 : Value) :
  ((w.setCell ⟨g, 0, none⟩ x0).setCell ⟨g, 1, none⟩ x1).heap[g]? = some (.cells #[x0, x1] T f) ∧ GrowBut g w ((w.setCell ⟨g, 0, none⟩ x0).setCell ⟨g, 1, none⟩ x1) := by
 refine ⟨?_, ((GrowBut.refl g w).set _ _ _).set _ _ _⟩
 have h1 := heap_set (heap_set h 0 x0) 1 x1
 simpa using h1

end Go.Proofs.YtgaecpdokgklpabDoor
