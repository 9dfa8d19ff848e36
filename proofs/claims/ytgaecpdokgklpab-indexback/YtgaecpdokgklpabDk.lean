/-
  Disks: plain lists, and how they lie in memory. No program but its types' numbers.
  No condition.
-/
import Derived.Test.YtgaecpdokgklpabBRead
namespace Go.Proofs.Ytgaecpdokgklpab
set_option maxRecDepth 100000
open Go.RowKit
open Go.Proofs.Ytgaecpdokgklpab.Plain Go.Proofs.Ytgaecpdokgklpab.Reg

/-- A write that has not come to the disk: of a block, and these bytes. -/
abbrev Wr := Int × List UInt8
/-- A disk. -/
structure Dk where
 blocks : List (List UInt8)
 late : List Wr

def Dk.same (a b : Dk) : Bool := a.blocks == b.blocks && a.late == b.late
theorem Dk.same_iff (a b : Dk) : a.same b = true ↔ a = b := by
 obtain ⟨a1, a2⟩ := a
 obtain ⟨b1, b2⟩ := b
 simp [Dk.same]
theorem Dk.same_refl (a : Dk) : a.same a = true := (Dk.same_iff a a).2 rfl

def rightW (n : Nat) (x : Wr) : Bool := decide (0 ≤ x.1 ∧ x.1 < (n : Int)) && (x.2.length == 16)
/-- Even blocks, no more writes than so many, of blocks that there are. -/
def Dk.right (d : Dk) : Bool := (d.blocks.length == 12) && decide (d.late.length ≤ 40) && d.blocks.all (fun b => b.length == 16) && d.late.all (rightW d.blocks.length)

/-- The slice v holds slices of these bytes. -/
def BlocksP (w : World) (v : Value) (bs : List (List UInt8)) : Prop :=
 (∃ ao cap, v = .slice ao 0 cap ∧ bs = [] ∧ (ao = none → cap = 0)) ∨
 (∃ b off cap, v = .slice (some ⟨b, off, none⟩) bs.length cap ∧ bs.length ≤ cap ∧ ∀ (i : Nat) (h : i < bs.length), ∃ u, w.cell? ⟨b, off + i, none⟩ = some u ∧ Bytes w u bs[i])
/-- The slice v holds these writes. -/
def LateP (w : World) (v : Value) (ws : List Wr) : Prop :=
 (∃ ao cap, v = .slice ao 0 cap ∧ ws = [] ∧ (ao = none → cap = 0)) ∨
 (∃ b off cap, v = .slice (some ⟨b, off, none⟩) ws.length cap ∧ ws.length ≤ cap ∧ ∀ (i : Nat) (h : i < ws.length), w.cell? ⟨b, off + i * 2, none⟩ = some (.int .i64 ws[i].1) ∧ ∃ u, w.cell? ⟨b, off + i * 2 + 1, none⟩ = some u ∧ Bytes w u ws[i].2)

theorem BlocksP.grow {w w' : World} {v : Value} {bs : List (List UInt8)} (h : BlocksP w v bs) (hg : Grow w w') : BlocksP w' v bs := by
 rcases h with h | ⟨b, off, cap, rfl, h1, hc⟩
 ·exact .inl h
 ·refine .inr ⟨b, off, cap, rfl, h1, fun i hi => ?_⟩
  obtain ⟨u, h2, h3⟩ := hc i hi
  exact ⟨u, (Below.cell hg (cell_lt h2)).trans h2, bytes_grow h3 hg⟩
theorem LateP.grow {w w' : World} {v : Value} {ws : List Wr} (h : LateP w v ws) (hg : Grow w w') : LateP w' v ws := by
 rcases h with h | ⟨b, off, cap, rfl, h1, hc⟩
 ·exact .inl h
 ·refine .inr ⟨b, off, cap, rfl, h1, fun i hi => ?_⟩
  obtain ⟨h0, u, h2, h3⟩ := hc i hi
  exact ⟨(Below.cell hg (cell_lt h0)).trans h0, u, (Below.cell hg (cell_lt h2)).trans h2, bytes_grow h3 hg⟩
theorem BlocksP.form {w : World} {v : Value} {bs : List (List UInt8)} (h : BlocksP w v bs) : ∃ ao cap, v = .slice ao bs.length cap := by
 rcases h with ⟨ao, cap, rfl, rfl, _⟩ | ⟨b, off, cap, rfl, _⟩
 ·exact ⟨ao, cap, rfl⟩
 ·exact ⟨_, cap, rfl⟩
theorem LateP.form {w : World} {v : Value} {ws : List Wr} (h : LateP w v ws) : ∃ ao cap, v = .slice ao ws.length cap := by
 rcases h with ⟨ao, cap, rfl, rfl, _⟩ | ⟨b, off, cap, rfl, _⟩
 ·exact ⟨ao, cap, rfl⟩
 ·exact ⟨_, cap, rfl⟩
/-- Where there is one, its place. -/
theorem BlocksP.at {w : World} {ao : Option Addr} {n cap : Nat} {bs : List (List UInt8)} (h : BlocksP w (.slice ao n cap) bs) (i : Nat) (hi : i < bs.length) :
  ∃ b off, ao = some ⟨b, off, none⟩ ∧ ∃ u, w.cell? ⟨b, off + i, none⟩ = some u ∧ Bytes w u bs[i] := by
 rcases h with ⟨_, _, _, rfl, _⟩ | ⟨b, off, cp, h2, h3, h4⟩
 ·simp at hi
 ·cases h2
  exact ⟨b, off, rfl, h4 i hi⟩
theorem LateP.at {w : World} {ao : Option Addr} {n cap : Nat} {ws : List Wr} (h : LateP w (.slice ao n cap) ws) (i : Nat) (hi : i < ws.length) :
  ∃ b off, ao = some ⟨b, off, none⟩ ∧ w.cell? ⟨b, off + i * 2, none⟩ = some (.int .i64 ws[i].1) ∧ ∃ u, w.cell? ⟨b, off + i * 2 + 1, none⟩ = some u ∧ Bytes w u ws[i].2 := by
 rcases h with ⟨_, _, _, rfl, _⟩ | ⟨b, off, cp, h2, h3, h4⟩
 ·simp at hi
 ·cases h2
  exact ⟨b, off, rfl, h4 i hi⟩
theorem st_blocks (bs : List (List UInt8)) : Stable (fun v w => BlocksP w v bs) := fun _ _ _ hg h => BlocksP.grow h hg
theorem st_late (ws : List Wr) : Stable (fun v w => LateP w v ws) := fun _ _ _ hg h => LateP.grow h hg


/-! ### The same, with the blocks told that it leans on -/

def BytesS (S : Nat → Prop) (w : World) (v : Value) (l : List UInt8) : Prop :=
 (∃ ao cap, v = .slice ao 0 cap ∧ l = [] ∧ (ao = none → cap = 0)) ∨
 (∃ b off cap, S b ∧ v = .slice (some ⟨b, off, none⟩) l.length cap ∧ l.length ≤ cap ∧ ∀ (i : Nat) (h : i < l.length), w.cell? ⟨b, off + i, none⟩ = some (.int .u8 (l[i].toNat : Int)))
def BlocksS (S : Nat → Prop) (w : World) (v : Value) (bs : List (List UInt8)) : Prop :=
 (∃ ao cap, v = .slice ao 0 cap ∧ bs = [] ∧ (ao = none → cap = 0)) ∨
 (∃ b off cap, S b ∧ v = .slice (some ⟨b, off, none⟩) bs.length cap ∧ bs.length ≤ cap ∧ ∀ (i : Nat) (h : i < bs.length), ∃ u, w.cell? ⟨b, off + i, none⟩ = some u ∧ BytesS S w u bs[i])
def LateS (S : Nat → Prop) (w : World) (v : Value) (ws : List Wr) : Prop :=
 (∃ ao cap, v = .slice ao 0 cap ∧ ws = [] ∧ (ao = none → cap = 0)) ∨
 (∃ b off cap, S b ∧ v = .slice (some ⟨b, off, none⟩) ws.length cap ∧ ws.length ≤ cap ∧ ∀ (i : Nat) (h : i < ws.length), w.cell? ⟨b, off + i * 2, none⟩ = some (.int .i64 ws[i].1) ∧ ∃ u, w.cell? ⟨b, off + i * 2 + 1, none⟩ = some u ∧ BytesS S w u ws[i].2)

/-- What was there ahead, or is new since. -/
def Upon (S : Nat → Prop) (B : Nat) : Nat → Prop := fun b => S b ∨ B ≤ b
theorem upon_l {S : Nat → Prop} {B : Nat} : ∀ b, S b → Upon S B b := fun _ h => .inl h
theorem upon_le {S : Nat → Prop} {B B' : Nat} (h : B ≤ B') : ∀ b, Upon S B' b → Upon S B b := fun _ hb => or_map hb (fun x => x) (fun x => Nat.le_trans h x)

theorem BytesS.p {S : Nat → Prop} {w : World} {v : Value} {l : List UInt8} (h : BytesS S w v l) : Bytes w v l := by
 rcases h with h | ⟨b, off, cap, _, h⟩
 ·exact .inl h
 ·exact .inr ⟨b, off, cap, h⟩
theorem bytes_s {w : World} {v : Value} {l : List UInt8} (h : Bytes w v l) : BytesS (fun b => b < w.heap.size) w v l := by
 by_cases h0 : l = []
 ·subst h0
  rcases h with h | ⟨b, off, cap, rfl, h1, hc⟩
  ·exact .inl h
  ·exact .inl ⟨_, cap, rfl, rfl, fun h => by cases h⟩
 ·rcases h with ⟨_, _, _, h1, _⟩ | ⟨b, off, cap, h2, h1, hc⟩
  ·exact absurd h1 h0
  ·exact .inr ⟨b, off, cap, cell_lt (hc 0 (List.length_pos_iff.2 h0)), h2, h1, hc⟩
theorem own_s {w : World} {base : Nat} {v : Value} {l : List UInt8} (S : Nat → Prop) (h : w.ownsRow base 5 1 v l.length (l.map bv)) : BytesS (Upon S base) w v l := by
 rcases h.2 with ⟨rfl, h0⟩ | ⟨g, cap, cur, rfl, hb, hh, h1, h2, h3, h4⟩
 ·exact .inl ⟨none, 0, rfl, List.eq_nil_of_length_eq_zero h0, fun _ => rfl⟩
 ·refine .inr ⟨g, 0, cap, .inr hb, rfl, h1, fun i hi => ?_⟩
  have := h.cellAt i (by omega)
  rw [Nat.zero_add, this]
  simp [hi, bv]
theorem BytesS.mono {S S' : Nat → Prop} {w : World} {v : Value} {l : List UInt8} (h : BytesS S w v l) (hS : ∀ b, S b → S' b) : BytesS S' w v l := by
 rcases h with h | ⟨b, off, cap, hb, h⟩
 ·exact .inl h
 ·exact .inr ⟨b, off, cap, hS b hb, h⟩
theorem BytesS.but {S : Nat → Prop} {g : Nat} {w w' : World} {v : Value} {l : List UInt8} (h : BytesS S w v l) (hg : GrowBut g w w') (hn : ¬ S g) : BytesS S w' v l := by
 rcases h with h | ⟨b, off, cap, hb, h1, h2, hc⟩
 ·exact .inl h
 ·refine .inr ⟨b, off, cap, hb, h1, h2, fun i hi => ?_⟩
  have h3 := hc i hi
  exact (hg.cell (cell_lt h3) (fun e => hn (by rw [← e]; exact hb))).trans h3
theorem BytesS.grow {S : Nat → Prop} {w w' : World} {v : Value} {l : List UInt8} (h : BytesS S w v l) (hg : Grow w w') : BytesS S w' v l := by
 rcases h with h | ⟨b, off, cap, hb, h1, h2, hc⟩
 ·exact .inl h
 ·exact .inr ⟨b, off, cap, hb, h1, h2, fun i hi => (Below.cell hg (cell_lt (hc i hi))).trans (hc i hi)⟩

theorem BlocksS.p {S : Nat → Prop} {w : World} {v : Value} {bs : List (List UInt8)} (h : BlocksS S w v bs) : BlocksP w v bs := by
 rcases h with h | ⟨b, off, cap, _, h1, h2, h⟩
 ·exact .inl h
 ·refine .inr ⟨b, off, cap, h1, h2, fun i hi => ?_⟩
  obtain ⟨u, h3, h4⟩ := h i hi
  exact ⟨u, h3, h4.p⟩
theorem BlocksP.s {w : World} {v : Value} {bs : List (List UInt8)} (h : BlocksP w v bs) : BlocksS (fun b => b < w.heap.size) w v bs := by
 by_cases h0 : bs = []
 ·subst h0
  rcases h with h | ⟨b, off, cap, rfl, h1, hc⟩
  ·exact .inl h
  ·exact .inl ⟨_, cap, rfl, rfl, fun h => by cases h⟩
 ·rcases h with ⟨_, _, _, h1, _⟩ | ⟨b, off, cap, h2, h1, hc⟩
  ·exact absurd h1 h0
  ·refine .inr ⟨b, off, cap, ?_, h2, h1, fun i hi => ?_⟩
   ·obtain ⟨u, h3, _⟩ := hc 0 (List.length_pos_iff.2 h0)
    exact cell_lt h3
   ·obtain ⟨u, h3, h4⟩ := hc i hi
    exact ⟨u, h3, bytes_s h4⟩
theorem BlocksS.mono {S S' : Nat → Prop} {w : World} {v : Value} {bs : List (List UInt8)} (h : BlocksS S w v bs) (hS : ∀ b, S b → S' b) : BlocksS S' w v bs := by
 rcases h with h | ⟨b, off, cap, hb, h1, h2, h⟩
 ·exact .inl h
 ·refine .inr ⟨b, off, cap, hS b hb, h1, h2, fun i hi => ?_⟩
  obtain ⟨u, h3, h4⟩ := h i hi
  exact ⟨u, h3, h4.mono hS⟩
theorem BlocksS.but {S : Nat → Prop} {g : Nat} {w w' : World} {v : Value} {bs : List (List UInt8)} (h : BlocksS S w v bs) (hg : GrowBut g w w') (hn : ¬ S g) : BlocksS S w' v bs := by
 rcases h with h | ⟨b, off, cap, hb, h1, h2, hc⟩
 ·exact .inl h
 ·refine .inr ⟨b, off, cap, hb, h1, h2, fun i hi => ?_⟩
  obtain ⟨u, h3, h4⟩ := hc i hi
  exact ⟨u, (hg.cell (cell_lt h3) (fun e => hn (by rw [← e]; exact hb))).trans h3, h4.but hg hn⟩
theorem BlocksS.grow {S : Nat → Prop} {w w' : World} {v : Value} {bs : List (List UInt8)} (h : BlocksS S w v bs) (hg : Grow w w') : BlocksS S w' v bs := by
 rcases h with h | ⟨b, off, cap, hb, h1, h2, hc⟩
 ·exact .inl h
 ·refine .inr ⟨b, off, cap, hb, h1, h2, fun i hi => ?_⟩
  obtain ⟨u, h3, h4⟩ := hc i hi
  exact ⟨u, (Below.cell hg (cell_lt h3)).trans h3, h4.grow hg⟩
theorem BlocksS.at {S : Nat → Prop} {w : World} {ao : Option Addr} {n cap : Nat} {bs : List (List UInt8)} (h : BlocksS S w (.slice ao n cap) bs) (i : Nat) (hi : i < bs.length) :
  ∃ b off, ao = some ⟨b, off, none⟩ ∧ ∃ u, w.cell? ⟨b, off + i, none⟩ = some u ∧ BytesS S w u bs[i] := by
 rcases h with ⟨_, _, _, rfl, _⟩ | ⟨b, off, cp, _, h2, h3, h4⟩
 ·simp at hi
 ·cases h2
  exact ⟨b, off, rfl, h4 i hi⟩

theorem LateS.p {S : Nat → Prop} {w : World} {v : Value} {ws : List Wr} (h : LateS S w v ws) : LateP w v ws := by
 rcases h with h | ⟨b, off, cap, _, h1, h2, h⟩
 ·exact .inl h
 ·refine .inr ⟨b, off, cap, h1, h2, fun i hi => ?_⟩
  obtain ⟨h0, u, h3, h4⟩ := h i hi
  exact ⟨h0, u, h3, h4.p⟩
theorem LateP.s {w : World} {v : Value} {ws : List Wr} (h : LateP w v ws) : LateS (fun b => b < w.heap.size) w v ws := by
 by_cases h0 : ws = []
 ·subst h0
  rcases h with h | ⟨b, off, cap, rfl, h1, hc⟩
  ·exact .inl h
  ·exact .inl ⟨_, cap, rfl, rfl, fun h => by cases h⟩
 ·rcases h with ⟨_, _, _, h1, _⟩ | ⟨b, off, cap, h2, h1, hc⟩
  ·exact absurd h1 h0
  ·refine .inr ⟨b, off, cap, cell_lt (hc 0 (List.length_pos_iff.2 h0)).1, h2, h1, fun i hi => ?_⟩
   obtain ⟨hq, u, h3, h4⟩ := hc i hi
   exact ⟨hq, u, h3, bytes_s h4⟩
theorem LateS.mono {S S' : Nat → Prop} {w : World} {v : Value} {ws : List Wr} (h : LateS S w v ws) (hS : ∀ b, S b → S' b) : LateS S' w v ws := by
 rcases h with h | ⟨b, off, cap, hb, h1, h2, h⟩
 ·exact .inl h
 ·refine .inr ⟨b, off, cap, hS b hb, h1, h2, fun i hi => ?_⟩
  obtain ⟨h0, u, h3, h4⟩ := h i hi
  exact ⟨h0, u, h3, h4.mono hS⟩
theorem LateS.but {S : Nat → Prop} {g : Nat} {w w' : World} {v : Value} {ws : List Wr} (h : LateS S w v ws) (hg : GrowBut g w w') (hn : ¬ S g) : LateS S w' v ws := by
 rcases h with h | ⟨b, off, cap, hb, h1, h2, hc⟩
 ·exact .inl h
 ·refine .inr ⟨b, off, cap, hb, h1, h2, fun i hi => ?_⟩
  obtain ⟨h0, u, h3, h4⟩ := hc i hi
  exact ⟨(hg.cell (cell_lt h0) (fun e => hn (by rw [← e]; exact hb))).trans h0, u, (hg.cell (cell_lt h3) (fun e => hn (by rw [← e]; exact hb))).trans h3, h4.but hg hn⟩
theorem LateS.grow {S : Nat → Prop} {w w' : World} {v : Value} {ws : List Wr} (h : LateS S w v ws) (hg : Grow w w') : LateS S w' v ws := by
 rcases h with h | ⟨b, off, cap, hb, h1, h2, hc⟩
 ·exact .inl h
 ·refine .inr ⟨b, off, cap, hb, h1, h2, fun i hi => ?_⟩
  obtain ⟨h0, u, h3, h4⟩ := hc i hi
  exact ⟨(Below.cell hg (cell_lt h0)).trans h0, u, (Below.cell hg (cell_lt h3)).trans h3, h4.grow hg⟩
theorem LateS.at {S : Nat → Prop} {w : World} {ao : Option Addr} {n cap : Nat} {ws : List Wr} (h : LateS S w (.slice ao n cap) ws) (i : Nat) (hi : i < ws.length) :
  ∃ b off, ao = some ⟨b, off, none⟩ ∧ w.cell? ⟨b, off + i * 2, none⟩ = some (.int .i64 ws[i].1) ∧ ∃ u, w.cell? ⟨b, off + i * 2 + 1, none⟩ = some u ∧ BytesS S w u ws[i].2 := by
 rcases h with ⟨_, _, _, rfl, _⟩ | ⟨b, off, cp, _, h2, h3, h4⟩
 ·simp at hi
 ·cases h2
  exact ⟨b, off, rfl, h4 i hi⟩
theorem st_blocksS (S : Nat → Prop) (bs : List (List UInt8)) : Stable (fun v w => BlocksS S w v bs) := fun _ _ _ hg h => BlocksS.grow h hg
theorem st_lateS (S : Nat → Prop) (ws : List Wr) : Stable (fun v w => LateS S w v ws) := fun _ _ _ hg h => LateS.grow h hg
theorem st_bytesS (S : Nat → Prop) (l : List UInt8) : Stable (fun v w => BytesS S w v l) := fun _ _ _ hg h => BytesS.grow h hg

end Go.Proofs.Ytgaecpdokgklpab
