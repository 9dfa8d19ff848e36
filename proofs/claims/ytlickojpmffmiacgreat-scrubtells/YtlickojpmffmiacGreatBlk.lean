import Derived.Test.YtlickojpmffmiacGreatBRead
set_option maxHeartbeats 8000000
namespace Go.Proofs.YtlickojpmffmiacGreat
set_option maxRecDepth 100000
open Go.RowKit
open Plain Reg
theorem lo_nat (c : UInt8) : lo (c.toNat : Int) = c := by
 refine UInt8.toNat_inj.1 ?_
 have := lo_val (c.toNat : Int)
 have hc : c.toNat < 256 := UInt8.toNat_lt _
 omega
theorem lo_toNat (n : Int) (h0 : 0 ≤ n) (h1 : n ≤ 255) : ((lo n).toNat : Int) = n := by rw [lo_val]; omega
theorem two_hi (x y : UInt8) : hi ((x.toNat : Int) * 256 + (y.toNat : Int)) = x := by
 have hx : x.toNat < 256 := UInt8.toNat_lt _
 have hy : y.toNat < 256 := UInt8.toNat_lt _
 exact ((two_eq x y _ (by omega) (by omega)).1 rfl).1
theorem two_lo (x y : UInt8) : lo ((x.toNat : Int) * 256 + (y.toNat : Int)) = y := by
 have hx : x.toNat < 256 := UInt8.toNat_lt _
 have hy : y.toNat < 256 := UInt8.toNat_lt _
 exact ((two_eq x y _ (by omega) (by omega)).1 rfl).2
theorem blk_at0 (r : Rec) (a : Int) : at' (blk r a) 0 = lo r.kind := rfl
theorem blk_at1 (r : Rec) (a : Int) : at' (blk r a) 1 = lo a := rfl
theorem blk_at2 (r : Rec) (a : Int) : at' (blk r a) 2 = lo r.key := rfl
theorem blk_at3 (r : Rec) (a : Int) : at' (blk r a) 3 = hi r.ver := rfl
theorem blk_at4 (r : Rec) (a : Int) : at' (blk r a) 4 = lo r.ver := rfl
theorem blk_at5 (r : Rec) (a : Int) : at' (blk r a) 5 = lo (r.data.length : Int) := rfl
theorem blk_drop (r : Rec) (a : Int) : (blk r a).drop 6 = r.data ++ (List.replicate (8 - r.data.length) 0 ++ [hi (sumOf (body r a)), lo (sumOf (body r a))]) := by
 show (r.data ++ List.replicate (8 - r.data.length) 0) ++ _ = _
 rw [List.append_assoc]
theorem rec_blk (r : Rec) (a : Int) (h : wrong r = 0) : recOf (blk r a) = r := by
 obtain ⟨k0, k1, y0, y1, n0, n1, hl⟩ := right_bd h
 unfold recOf
 rw [blk_at0, blk_at2, blk_at3, blk_at4, blk_at5, blk_drop]
 have e1 := lo_toNat r.kind (by omega) (by omega)
 have e2 := lo_toNat r.key (by omega) (by omega)
 have e3 := lo_toNat (r.data.length : Int) (by omega) (by omega)
 have e4 : ((hi r.ver).toNat : Int) * 256 + ((lo r.ver).toNat : Int) = r.ver := by rw [hi_val, lo_val]; omega
 have e5 : (lo (r.data.length : Int)).toNat = r.data.length := by omega
 rw [e1, e2, e4, e5, List.take_left' rfl]
theorem rest_blk (r : Rec) (a : Int) (h : wrong r = 0) : noughtsB (restOf (blk r a)) = true := by
 obtain ⟨k0, k1, y0, y1, n0, n1, hl⟩ := right_bd h
 have e3 := lo_toNat (r.data.length : Int) (by omega) (by omega)
 have e5 : (lo (r.data.length : Int)).toNat = r.data.length := by omega
 unfold restOf
 rw [blk_at5, e5, ← List.drop_drop, blk_drop, List.drop_left' rfl, List.take_left' (by simp)]
 unfold noughtsB
 rw [List.all_eq_true]
 intro c hc
 simp [List.eq_of_mem_replicate hc]
theorem spoilt_blk (r : Rec) (a : Int) (h : wrong r = 0) (h0 : 0 ≤ a) (h1 : a ≤ 255) : spoilt (blk r a) a = 0 := by
 obtain ⟨k0, k1, y0, y1, n0, n1, hl⟩ := right_bd h
 have e1 := lo_toNat a h0 h1
 have e3 := lo_toNat (r.data.length : Int) (by omega) (by omega)
 unfold spoilt
 rw [if_neg (by rw [blk_length r a hl]; simp), if_neg (by unfold blk; rw [sealedB_sealed]; simp), if_neg (by rw [blk_at1, e1]; simp), if_neg (by rw [blk_at5]; omega), if_neg (by rw [rest_blk r a h]; simp)]
/-- THERE, AND BACK. -/
theorem read_blk (r : Rec) (a : Int) (h : wrong r = 0) (h0 : 0 ≤ a) (h1 : a ≤ 255) : readE (blk r a) a = 0 ∧ readR (blk r a) a = r := by
 have e : readE (blk r a) a = 0 := by unfold readE; rw [if_pos (spoilt_blk r a h h0 h1), rec_blk r a h]; exact h
 refine ⟨e, ?_⟩
 unfold readR
 rw [if_pos e, rec_blk r a h]
theorem readE_zero {b : List UInt8} {a : Int} (h : readE b a = 0) : spoilt b a = 0 ∧ wrong (recOf b) = 0 ∧ readR b a = recOf b := by
 have hr : readR b a = recOf b := by unfold readR; rw [if_pos h]
 unfold readE at h
 by_cases hs : spoilt b a = 0
 ·rw [if_pos hs] at h; exact ⟨hs, h, hr⟩
 ·rw [if_neg hs] at h; exact absurd h hs
theorem take14 (b : List UInt8) (a : Int) (hs : spoilt b a = 0) : b.take 14 = body (recOf b) a := by
 obtain ⟨hl, hsl, hp, h8, hn⟩ := spoilt_zero hs
 have hlen : ((b.drop 6).take (at' b 5).toNat).length = (at' b 5).toNat := by simp; omega
 have hz : restOf b = List.replicate (8 - (at' b 5).toNat) 0 := by
  refine List.eq_replicate_iff.2 ⟨by unfold restOf; simp; omega, fun c hc => ?_⟩
  unfold noughtsB at hn
  have := (List.all_eq_true.1 hn) c hc
  simpa using this
 unfold body recOf
 simp only []
 rw [hlen, lo_nat, lo_nat, two_hi, two_lo, lo_nat, ← hp, lo_nat, ← hz]
 have e : b.take 14 = [at' b 0, at' b 1, at' b 2, at' b 3, at' b 4, at' b 5] ++ (b.drop 6).take 8 := by
  match b, hl with
  | [x0, x1, x2, x3, x4, x5, x6, x7, x8, x9, x10, x11, x12, x13, x14, x15], _ => rfl
 rw [e]
 congr 1
 unfold restOf
 rw [← List.drop_drop, ← List.take_add]
 congr 1
 omega
/-- A block that is read is its record's. -/
theorem blk_read (b : List UInt8) (a : Int) (h : readE b a = 0) : wrong (readR b a) = 0 ∧ blk (readR b a) a = b := by
 obtain ⟨hs, hw, hr⟩ := readE_zero h
 obtain ⟨hl, hsl, -, -, -⟩ := spoilt_zero hs
 rw [hr]
 refine ⟨hw, ?_⟩
 unfold blk
 rw [← take14 b a hs]
 have := sealedB_eq b (by omega)
 rw [hsl, hl] at this
 exact beq_iff_eq.1 this
/-- A write that has not come to the disk: of a block, and these bytes. -/
abbrev Wr := Int × List UInt8
/-- A disk. -/
structure Dk where
 blocks : List (List UInt8)
 late : List Wr
def Dk.same (a b : Dk) : Bool := a.blocks == b.blocks && a.late == b.late
theorem Dk.same_iff (a b : Dk) : a.same b = true ↔ a = b := by
 obtain ⟨a1, a2⟩ := a
 obtain ⟨b1, b2⟩ := b
 simp [Dk.same]
/-- The slice v holds slices of these bytes. -/
def BlocksP (w : World) (v : Value) (bs : List (List UInt8)) : Prop :=
 (∃ ao cap, v = .slice ao 0 cap ∧ bs = [] ∧ (ao = none → cap = 0)) ∨
 (∃ b off cap, v = .slice (some ⟨b, off, none⟩) bs.length cap ∧ bs.length ≤ cap ∧ ∀ (i : Nat) (h : i < bs.length), ∃ u, w.cell? ⟨b, off + i, none⟩ = some u ∧ Bytes w u bs[i])
/-- The slice v holds these writes. -/
def LateP (w : World) (v : Value) (ws : List Wr) : Prop :=
 (∃ ao cap, v = .slice ao 0 cap ∧ ws = [] ∧ (ao = none → cap = 0)) ∨
 (∃ b off cap, v = .slice (some ⟨b, off, none⟩) ws.length cap ∧ ws.length ≤ cap ∧ ∀ (i : Nat) (h : i < ws.length), w.cell? ⟨b, off + i * 2, none⟩ = some (.int .i64 ws[i].1) ∧ ∃ u, w.cell? ⟨b, off + i * 2 + 1, none⟩ = some u ∧ Bytes w u ws[i].2)
theorem BlocksP.grow {w w' : World} {v : Value} {bs : List (List UInt8)} (h : BlocksP w v bs) (hg : Grow w w') : BlocksP w' v bs := by
 rcases h with h | ⟨b, off, cap, rfl, h1, hc⟩
 ·exact .inl h
 ·refine .inr ⟨b, off, cap, rfl, h1, fun i hi => ?_⟩
  obtain ⟨u, h2, h3⟩ := hc i hi
  exact ⟨u, (Below.cell hg (cell_lt h2)).trans h2, bytes_grow h3 hg⟩
theorem LateP.grow {w w' : World} {v : Value} {ws : List Wr} (h : LateP w v ws) (hg : Grow w w') : LateP w' v ws := by
 rcases h with h | ⟨b, off, cap, rfl, h1, hc⟩
 ·exact .inl h
 ·refine .inr ⟨b, off, cap, rfl, h1, fun i hi => ?_⟩
  obtain ⟨h0, u, h2, h3⟩ := hc i hi
  exact ⟨(Below.cell hg (cell_lt h0)).trans h0, u, (Below.cell hg (cell_lt h2)).trans h2, bytes_grow h3 hg⟩
theorem BlocksP.form {w : World} {v : Value} {bs : List (List UInt8)} (h : BlocksP w v bs) : ∃ ao cap, v = .slice ao bs.length cap := by
 rcases h with ⟨ao, cap, rfl, rfl, _⟩ | ⟨b, off, cap, rfl, _⟩
 ·exact ⟨ao, cap, rfl⟩
 ·exact ⟨_, cap, rfl⟩
theorem LateP.form {w : World} {v : Value} {ws : List Wr} (h : LateP w v ws) : ∃ ao cap, v = .slice ao ws.length cap := by
 rcases h with ⟨ao, cap, rfl, rfl, _⟩ | ⟨b, off, cap, rfl, _⟩
 ·exact ⟨ao, cap, rfl⟩
 ·exact ⟨_, cap, rfl⟩
/-- Where there is one, its place. -/
theorem BlocksP.at {w : World} {ao : Option Addr} {n cap : Nat} {bs : List (List UInt8)} (h : BlocksP w (.slice ao n cap) bs) (i : Nat) (hi : i < bs.length) :
  ∃ b off, ao = some ⟨b, off, none⟩ ∧ ∃ u, w.cell? ⟨b, off + i, none⟩ = some u ∧ Bytes w u bs[i] := by
 rcases h with ⟨_, _, _, rfl, _⟩ | ⟨b, off, cp, h2, h3, h4⟩
 ·simp at hi
 ·cases h2
  exact ⟨b, off, rfl, h4 i hi⟩
theorem LateP.at {w : World} {ao : Option Addr} {n cap : Nat} {ws : List Wr} (h : LateP w (.slice ao n cap) ws) (i : Nat) (hi : i < ws.length) :
  ∃ b off, ao = some ⟨b, off, none⟩ ∧ w.cell? ⟨b, off + i * 2, none⟩ = some (.int .i64 ws[i].1) ∧ ∃ u, w.cell? ⟨b, off + i * 2 + 1, none⟩ = some u ∧ Bytes w u ws[i].2 := by
 rcases h with ⟨_, _, _, rfl, _⟩ | ⟨b, off, cp, h2, h3, h4⟩
 ·simp at hi
 ·cases h2
  exact ⟨b, off, rfl, h4 i hi⟩
/-! ### The same, with the blocks told that it leans on -/
def BytesS (S : Nat → Prop) (w : World) (v : Value) (l : List UInt8) : Prop :=
 (∃ ao cap, v = .slice ao 0 cap ∧ l = [] ∧ (ao = none → cap = 0)) ∨
 (∃ b off cap, S b ∧ v = .slice (some ⟨b, off, none⟩) l.length cap ∧ l.length ≤ cap ∧ ∀ (i : Nat) (h : i < l.length), w.cell? ⟨b, off + i, none⟩ = some (.int .u8 (l[i].toNat : Int)))
def BlocksS (S : Nat → Prop) (w : World) (v : Value) (bs : List (List UInt8)) : Prop :=
 (∃ ao cap, v = .slice ao 0 cap ∧ bs = [] ∧ (ao = none → cap = 0)) ∨
 (∃ b off cap, S b ∧ v = .slice (some ⟨b, off, none⟩) bs.length cap ∧ bs.length ≤ cap ∧ ∀ (i : Nat) (h : i < bs.length), ∃ u, w.cell? ⟨b, off + i, none⟩ = some u ∧ BytesS S w u bs[i])
def LateS (S : Nat → Prop) (w : World) (v : Value) (ws : List Wr) : Prop :=
 (∃ ao cap, v = .slice ao 0 cap ∧ ws = [] ∧ (ao = none → cap = 0)) ∨
 (∃ b off cap, S b ∧ v = .slice (some ⟨b, off, none⟩) ws.length cap ∧ ws.length ≤ cap ∧ ∀ (i : Nat) (h : i < ws.length), w.cell? ⟨b, off + i * 2, none⟩ = some (.int .i64 ws[i].1) ∧ ∃ u, w.cell? ⟨b, off + i * 2 + 1, none⟩ = some u ∧ BytesS S w u ws[i].2)
/-- What was there ahead, or is new since. -/
def Upon (S : Nat → Prop) (B : Nat) : Nat → Prop := fun b => S b ∨ B ≤ b
theorem upon_l {S : Nat → Prop} {B : Nat} : ∀ b, S b → Upon S B b := fun _ h => .inl h
theorem upon_le {S : Nat → Prop} {B B' : Nat} (h : B ≤ B') : ∀ b, Upon S B' b → Upon S B b := fun _ hb => or_map hb (fun x => x) (fun x => Nat.le_trans h x)
theorem BytesS.p {S : Nat → Prop} {w : World} {v : Value} {l : List UInt8} (h : BytesS S w v l) : Bytes w v l := by
 rcases h with h | ⟨b, off, cap, _, h⟩
 ·exact .inl h
 ·exact .inr ⟨b, off, cap, h⟩
theorem bytes_s {w : World} {v : Value} {l : List UInt8} (h : Bytes w v l) : BytesS (fun b => b < w.heap.size) w v l := by
 by_cases h0 : l = []
 ·subst h0
  rcases h with h | ⟨b, off, cap, rfl, h1, hc⟩
  ·exact .inl h
  ·exact .inl ⟨_, cap, rfl, rfl, fun h => by cases h⟩
 ·rcases h with ⟨_, _, _, h1, _⟩ | ⟨b, off, cap, h2, h1, hc⟩
  ·exact absurd h1 h0
  ·exact .inr ⟨b, off, cap, cell_lt (hc 0 (List.length_pos_iff.2 h0)), h2, h1, hc⟩
theorem own_s {w : World} {base : Nat} {v : Value} {l : List UInt8} (S : Nat → Prop) (h : w.ownsRow base 5 1 v l.length (l.map bv)) : BytesS (Upon S base) w v l := by
 rcases h.2 with ⟨rfl, h0⟩ | ⟨g, cap, cur, rfl, hb, hh, h1, h2, h3, h4⟩
 ·exact .inl ⟨none, 0, rfl, List.eq_nil_of_length_eq_zero h0, fun _ => rfl⟩
 ·refine .inr ⟨g, 0, cap, .inr hb, rfl, h1, fun i hi => ?_⟩
  have := h.cellAt i (by omega)
  rw [Nat.zero_add, this]
  simp [hi, bv]
theorem BytesS.mono {S S' : Nat → Prop} {w : World} {v : Value} {l : List UInt8} (h : BytesS S w v l) (hS : ∀ b, S b → S' b) : BytesS S' w v l := by
 rcases h with h | ⟨b, off, cap, hb, h⟩
 ·exact .inl h
 ·exact .inr ⟨b, off, cap, hS b hb, h⟩
theorem BytesS.but {S : Nat → Prop} {g : Nat} {w w' : World} {v : Value} {l : List UInt8} (h : BytesS S w v l) (hg : GrowBut g w w') (hn : ¬ S g) : BytesS S w' v l := by
 rcases h with h | ⟨b, off, cap, hb, h1, h2, hc⟩
 ·exact .inl h
 ·refine .inr ⟨b, off, cap, hb, h1, h2, fun i hi => ?_⟩
  have h3 := hc i hi
  exact (hg.cell (cell_lt h3) (fun e => hn (by rw [← e]; exact hb))).trans h3
theorem BytesS.grow {S : Nat → Prop} {w w' : World} {v : Value} {l : List UInt8} (h : BytesS S w v l) (hg : Grow w w') : BytesS S w' v l := by
 rcases h with h | ⟨b, off, cap, hb, h1, h2, hc⟩
 ·exact .inl h
 ·exact .inr ⟨b, off, cap, hb, h1, h2, fun i hi => (Below.cell hg (cell_lt (hc i hi))).trans (hc i hi)⟩
theorem BlocksS.p {S : Nat → Prop} {w : World} {v : Value} {bs : List (List UInt8)} (h : BlocksS S w v bs) : BlocksP w v bs := by
 rcases h with h | ⟨b, off, cap, _, h1, h2, h⟩
 ·exact .inl h
 ·refine .inr ⟨b, off, cap, h1, h2, fun i hi => ?_⟩
  obtain ⟨u, h3, h4⟩ := h i hi
  exact ⟨u, h3, h4.p⟩
theorem BlocksP.s {w : World} {v : Value} {bs : List (List UInt8)} (h : BlocksP w v bs) : BlocksS (fun b => b < w.heap.size) w v bs := by
 by_cases h0 : bs = []
 ·subst h0
  rcases h with h | ⟨b, off, cap, rfl, h1, hc⟩
  ·exact .inl h
  ·exact .inl ⟨_, cap, rfl, rfl, fun h => by cases h⟩
 ·rcases h with ⟨_, _, _, h1, _⟩ | ⟨b, off, cap, h2, h1, hc⟩
  ·exact absurd h1 h0
  ·refine .inr ⟨b, off, cap, ?_, h2, h1, fun i hi => ?_⟩
   ·obtain ⟨u, h3, _⟩ := hc 0 (List.length_pos_iff.2 h0)
    exact cell_lt h3
   ·obtain ⟨u, h3, h4⟩ := hc i hi
    exact ⟨u, h3, bytes_s h4⟩
theorem BlocksS.mono {S S' : Nat → Prop} {w : World} {v : Value} {bs : List (List UInt8)} (h : BlocksS S w v bs) (hS : ∀ b, S b → S' b) : BlocksS S' w v bs := by
 rcases h with h | ⟨b, off, cap, hb, h1, h2, h⟩
 ·exact .inl h
 ·refine .inr ⟨b, off, cap, hS b hb, h1, h2, fun i hi => ?_⟩
  obtain ⟨u, h3, h4⟩ := h i hi
  exact ⟨u, h3, h4.mono hS⟩
theorem BlocksS.but {S : Nat → Prop} {g : Nat} {w w' : World} {v : Value} {bs : List (List UInt8)} (h : BlocksS S w v bs) (hg : GrowBut g w w') (hn : ¬ S g) : BlocksS S w' v bs := by
 rcases h with h | ⟨b, off, cap, hb, h1, h2, hc⟩
 ·exact .inl h
 ·refine .inr ⟨b, off, cap, hb, h1, h2, fun i hi => ?_⟩
  obtain ⟨u, h3, h4⟩ := hc i hi
  exact ⟨u, (hg.cell (cell_lt h3) (fun e => hn (by rw [← e]; exact hb))).trans h3, h4.but hg hn⟩
theorem BlocksS.grow {S : Nat → Prop} {w w' : World} {v : Value} {bs : List (List UInt8)} (h : BlocksS S w v bs) (hg : Grow w w') : BlocksS S w' v bs := by
 rcases h with h | ⟨b, off, cap, hb, h1, h2, hc⟩
 ·exact .inl h
 ·refine .inr ⟨b, off, cap, hb, h1, h2, fun i hi => ?_⟩
  obtain ⟨u, h3, h4⟩ := hc i hi
  exact ⟨u, (Below.cell hg (cell_lt h3)).trans h3, h4.grow hg⟩
theorem BlocksS.at {S : Nat → Prop} {w : World} {ao : Option Addr} {n cap : Nat} {bs : List (List UInt8)} (h : BlocksS S w (.slice ao n cap) bs) (i : Nat) (hi : i < bs.length) :
  ∃ b off, ao = some ⟨b, off, none⟩ ∧ ∃ u, w.cell? ⟨b, off + i, none⟩ = some u ∧ BytesS S w u bs[i] := by
 rcases h with ⟨_, _, _, rfl, _⟩ | ⟨b, off, cp, _, h2, h3, h4⟩
 ·simp at hi
 ·cases h2
  exact ⟨b, off, rfl, h4 i hi⟩
theorem LateS.p {S : Nat → Prop} {w : World} {v : Value} {ws : List Wr} (h : LateS S w v ws) : LateP w v ws := by
 rcases h with h | ⟨b, off, cap, _, h1, h2, h⟩
 ·exact .inl h
 ·refine .inr ⟨b, off, cap, h1, h2, fun i hi => ?_⟩
  obtain ⟨h0, u, h3, h4⟩ := h i hi
  exact ⟨h0, u, h3, h4.p⟩
theorem LateP.s {w : World} {v : Value} {ws : List Wr} (h : LateP w v ws) : LateS (fun b => b < w.heap.size) w v ws := by
 by_cases h0 : ws = []
 ·subst h0
  rcases h with h | ⟨b, off, cap, rfl, h1, hc⟩
  ·exact .inl h
  ·exact .inl ⟨_, cap, rfl, rfl, fun h => by cases h⟩
 ·rcases h with ⟨_, _, _, h1, _⟩ | ⟨b, off, cap, h2, h1, hc⟩
  ·exact absurd h1 h0
  ·refine .inr ⟨b, off, cap, cell_lt (hc 0 (List.length_pos_iff.2 h0)).1, h2, h1, fun i hi => ?_⟩
   obtain ⟨hq, u, h3, h4⟩ := hc i hi
   exact ⟨hq, u, h3, bytes_s h4⟩
theorem LateS.mono {S S' : Nat → Prop} {w : World} {v : Value} {ws : List Wr} (h : LateS S w v ws) (hS : ∀ b, S b → S' b) : LateS S' w v ws := by
 rcases h with h | ⟨b, off, cap, hb, h1, h2, h⟩
 ·exact .inl h
 ·refine .inr ⟨b, off, cap, hS b hb, h1, h2, fun i hi => ?_⟩
  obtain ⟨h0, u, h3, h4⟩ := h i hi
  exact ⟨h0, u, h3, h4.mono hS⟩
theorem LateS.but {S : Nat → Prop} {g : Nat} {w w' : World} {v : Value} {ws : List Wr} (h : LateS S w v ws) (hg : GrowBut g w w') (hn : ¬ S g) : LateS S w' v ws := by
 rcases h with h | ⟨b, off, cap, hb, h1, h2, hc⟩
 ·exact .inl h
 ·refine .inr ⟨b, off, cap, hb, h1, h2, fun i hi => ?_⟩
  obtain ⟨h0, u, h3, h4⟩ := hc i hi
  exact ⟨(hg.cell (cell_lt h0) (fun e => hn (by rw [← e]; exact hb))).trans h0, u, (hg.cell (cell_lt h3) (fun e => hn (by rw [← e]; exact hb))).trans h3, h4.but hg hn⟩
theorem LateS.grow {S : Nat → Prop} {w w' : World} {v : Value} {ws : List Wr} (h : LateS S w v ws) (hg : Grow w w') : LateS S w' v ws := by
 rcases h with h | ⟨b, off, cap, hb, h1, h2, hc⟩
 ·exact .inl h
 ·refine .inr ⟨b, off, cap, hb, h1, h2, fun i hi => ?_⟩
  obtain ⟨h0, u, h3, h4⟩ := hc i hi
  exact ⟨(Below.cell hg (cell_lt h0)).trans h0, u, (Below.cell hg (cell_lt h3)).trans h3, h4.grow hg⟩
theorem LateS.at {S : Nat → Prop} {w : World} {ao : Option Addr} {n cap : Nat} {ws : List Wr} (h : LateS S w (.slice ao n cap) ws) (i : Nat) (hi : i < ws.length) :
  ∃ b off, ao = some ⟨b, off, none⟩ ∧ w.cell? ⟨b, off + i * 2, none⟩ = some (.int .i64 ws[i].1) ∧ ∃ u, w.cell? ⟨b, off + i * 2 + 1, none⟩ = some u ∧ BytesS S w u ws[i].2 := by
 rcases h with ⟨_, _, _, rfl, _⟩ | ⟨b, off, cp, _, h2, h3, h4⟩
 ·simp at hi
 ·cases h2
  exact ⟨b, off, rfl, h4 i hi⟩
theorem st_bytesS (S : Nat → Prop) (l : List UInt8) : Stable (fun v w => BytesS S w v l) := fun _ _ _ hg h => BytesS.grow h hg
end Go.Proofs.YtlickojpmffmiacGreat
