import Derived.Test.YtikhknkpndhakabGreatBRead
set_option maxHeartbeats 8000000
namespace Go.Proofs.YtikhknkpndhakabGreat
set_option maxRecDepth 100000
open Go.RowKit
open Plain Reg
theorem Zia (c : UInt8) : lo (c.toNat : Int) = c := by
 refine UInt8.toNat_inj.1 ?_;have := Za9 (c.toNat : Int);have hc : c.toNat < 256 := UInt8.toNat_lt _;omega
theorem Zut (x y : UInt8) : hi ((x.toNat : Int) * 256 + (y.toNat : Int)) = x := by
 have hx : x.toNat < 256 := UInt8.toNat_lt _;have hy : y.toNat < 256 := UInt8.toNat_lt _;exact ((Zk6 x y _ (by omega) (by omega)).1 rfl).1
theorem Zus (x y : UInt8) : lo ((x.toNat : Int) * 256 + (y.toNat : Int)) = y := by
 have hx : x.toNat < 256 := UInt8.toNat_lt _;have hy : y.toNat < 256 := UInt8.toNat_lt _;exact ((Zk6 x y _ (by omega) (by omega)).1 rfl).2
theorem Zlx {b : List UInt8} {a : Int} (h : X4 b a = 0) : Y2 b a = 0 ∧ Yh (Yt b) = 0 ∧ Y4 b a = Yt b := by
 have hr : Y4 b a = Yt b := by unfold Y4; rw [if_pos h]
 unfold X4 at h;by_cases hs : Y2 b a = 0
 ·rw [if_pos hs] at h; exact ⟨hs, h, hr⟩
 ·rw [if_neg hs] at h; exact absurd h hs
theorem Zuv (b : List UInt8) (a : Int) (hs : Y2 b a = 0) : b.take 14 = Zbh (Yt b) a := by
 obtain ⟨hl, hsl, hp, h8, hn⟩ := Jm hs;have hlen : ((b.drop 6).take (at' b 5).toNat).length = (at' b 5).toNat := by simp; omega
 have hz : Vb b = List.replicate (8 - (at' b 5).toNat) 0 := by
  refine List.eq_replicate_iff.2 ⟨by unfold Vb; simp; omega, fun c hc => ?_⟩;unfold Y7 at hn;have := (List.all_eq_true.1 hn) c hc;simpa using this
 unfold Zbh Yt;simp only [];rw [hlen, Zia, Zia, Zut, Zus, Zia, ← hp, Zia, ← hz];have e : b.take 14 = [at' b 0, at' b 1, at' b 2, at' b 3, at' b 4, at' b 5] ++ (b.drop 6).take 8 := by
  match b, hl with
  | [x0, x1, x2, x3, x4, x5, x6, x7, x8, x9, x10, x11, x12, x13, x14, x15], _ => rfl
 rw [e]
 congr 1
 unfold Vb;rw [← List.drop_drop, ← List.take_add]
 congr 1
 omega
theorem Zsg (b : List UInt8) (a : Int) (h : X4 b a = 0) : Yh (Y4 b a) = 0 ∧ blk (Y4 b a) a = b := by
 obtain ⟨hs, hw, hr⟩ := Zlx h;obtain ⟨hl, hsl, -, -, -⟩ := Jm hs;rw [hr];refine ⟨hw, ?_⟩;unfold blk;rw [← Zuv b a hs];have := Zeu b (by omega);rw [hsl, hl] at this;exact beq_iff_eq.1 this
abbrev Wr := Int × List UInt8
structure Dk where
 blocks : List (List UInt8)
 late : List Wr
def Dk.same (a b : Dk) : Bool := a.blocks == b.blocks && a.late == b.late
theorem Dk.same_iff (a b : Dk) : a.same b = true ↔ a = b := by
 obtain ⟨a1, a2⟩ := a;obtain ⟨b1, b2⟩ := b;simp [Dk.same]
def Xi (w : World) (v : Value) (bs : List (List UInt8)) : Prop :=
 (∃ ao cap, v = .slice ao 0 cap ∧ bs = [] ∧ (ao = none → cap = 0)) ∨
 (∃ b off cap, v = .slice (some ⟨b, off, none⟩) bs.length cap ∧ bs.length ≤ cap ∧ ∀ (i : Nat) (h : i < bs.length), ∃ u, w.cell? ⟨b, off + i, none⟩ = some u ∧ Bytes w u bs[i])
def Vg (w : World) (v : Value) (ws : List Wr) : Prop :=
 (∃ ao cap, v = .slice ao 0 cap ∧ ws = [] ∧ (ao = none → cap = 0)) ∨
 (∃ b off cap, v = .slice (some ⟨b, off, none⟩) ws.length cap ∧ ws.length ≤ cap ∧ ∀ (i : Nat) (h : i < ws.length), w.cell? ⟨b, off + i * 2, none⟩ = some (.int .i64 ws[i].1) ∧ ∃ u, w.cell? ⟨b, off + i * 2 + 1, none⟩ = some u ∧ Bytes w u ws[i].2)
theorem Xi.grow {w w' : World} {v : Value} {bs : List (List UInt8)} (h : Xi w v bs) (hg : Zp w w') : Xi w' v bs := by
 rcases h with h | ⟨b, off, cap, rfl, h1, hc⟩
 ·exact .inl h
 ·refine .inr ⟨b, off, cap, rfl, h1, fun i hi => ?_⟩;obtain ⟨u, h2, h3⟩ := hc i hi;exact ⟨u, (Below.cell hg (Zt h2)).trans h2, Z2 h3 hg⟩
theorem Vg.grow {w w' : World} {v : Value} {ws : List Wr} (h : Vg w v ws) (hg : Zp w w') : Vg w' v ws := by
 rcases h with h | ⟨b, off, cap, rfl, h1, hc⟩
 ·exact .inl h
 ·refine .inr ⟨b, off, cap, rfl, h1, fun i hi => ?_⟩;obtain ⟨h0, u, h2, h3⟩ := hc i hi;exact ⟨(Below.cell hg (Zt h0)).trans h0, u, (Below.cell hg (Zt h2)).trans h2, Z2 h3 hg⟩
theorem Xi.form {w : World} {v : Value} {bs : List (List UInt8)} (h : Xi w v bs) : ∃ ao cap, v = .slice ao bs.length cap := by
 rcases h with ⟨ao, cap, rfl, rfl, _⟩ | ⟨b, off, cap, rfl, _⟩
 ·exact ⟨ao, cap, rfl⟩
 ·exact ⟨_, cap, rfl⟩
theorem Vg.form {w : World} {v : Value} {ws : List Wr} (h : Vg w v ws) : ∃ ao cap, v = .slice ao ws.length cap := by
 rcases h with ⟨ao, cap, rfl, rfl, _⟩ | ⟨b, off, cap, rfl, _⟩
 ·exact ⟨ao, cap, rfl⟩
 ·exact ⟨_, cap, rfl⟩
theorem Xi.at {w : World} {ao : Option Addr} {n cap : Nat} {bs : List (List UInt8)} (h : Xi w (.slice ao n cap) bs) (i : Nat) (hi : i < bs.length) :
  ∃ b off, ao = some ⟨b, off, none⟩ ∧ ∃ u, w.cell? ⟨b, off + i, none⟩ = some u ∧ Bytes w u bs[i] := by
 rcases h with ⟨_, _, _, rfl, _⟩ | ⟨b, off, cp, h2, h3, h4⟩
 ·simp at hi
 ·cases h2;exact ⟨b, off, rfl, h4 i hi⟩
theorem Vg.at {w : World} {ao : Option Addr} {n cap : Nat} {ws : List Wr} (h : Vg w (.slice ao n cap) ws) (i : Nat) (hi : i < ws.length) :
  ∃ b off, ao = some ⟨b, off, none⟩ ∧ w.cell? ⟨b, off + i * 2, none⟩ = some (.int .i64 ws[i].1) ∧ ∃ u, w.cell? ⟨b, off + i * 2 + 1, none⟩ = some u ∧ Bytes w u ws[i].2 := by
 rcases h with ⟨_, _, _, rfl, _⟩ | ⟨b, off, cp, h2, h3, h4⟩
 ·simp at hi
 ·cases h2;exact ⟨b, off, rfl, h4 i hi⟩
def Z0 (S : Nat → Prop) (w : World) (v : Value) (l : List UInt8) : Prop :=
 (∃ ao cap, v = .slice ao 0 cap ∧ l = [] ∧ (ao = none → cap = 0)) ∨
 (∃ b off cap, S b ∧ v = .slice (some ⟨b, off, none⟩) l.length cap ∧ l.length ≤ cap ∧ ∀ (i : Nat) (h : i < l.length), w.cell? ⟨b, off + i, none⟩ = some (.int .u8 (l[i].toNat : Int)))
def Yy (S : Nat → Prop) (w : World) (v : Value) (bs : List (List UInt8)) : Prop :=
 (∃ ao cap, v = .slice ao 0 cap ∧ bs = [] ∧ (ao = none → cap = 0)) ∨
 (∃ b off cap, S b ∧ v = .slice (some ⟨b, off, none⟩) bs.length cap ∧ bs.length ≤ cap ∧ ∀ (i : Nat) (h : i < bs.length), ∃ u, w.cell? ⟨b, off + i, none⟩ = some u ∧ Z0 S w u bs[i])
def Xg (S : Nat → Prop) (w : World) (v : Value) (ws : List Wr) : Prop :=
 (∃ ao cap, v = .slice ao 0 cap ∧ ws = [] ∧ (ao = none → cap = 0)) ∨
 (∃ b off cap, S b ∧ v = .slice (some ⟨b, off, none⟩) ws.length cap ∧ ws.length ≤ cap ∧ ∀ (i : Nat) (h : i < ws.length), w.cell? ⟨b, off + i * 2, none⟩ = some (.int .i64 ws[i].1) ∧ ∃ u, w.cell? ⟨b, off + i * 2 + 1, none⟩ = some u ∧ Z0 S w u ws[i].2)
def Zx (S : Nat → Prop) (B : Nat) : Nat → Prop := fun b => S b ∨ B ≤ b
theorem Vv {S : Nat → Prop} {B : Nat} : ∀ b, S b → Zx S B b := fun _ h => .inl h
theorem Ya {S : Nat → Prop} {B B' : Nat} (h : B ≤ B') : ∀ b, Zx S B' b → Zx S B b := fun _ hb => Xk hb (fun x => x) (fun x => Nat.le_trans h x)
theorem Z0.p {S : Nat → Prop} {w : World} {v : Value} {l : List UInt8} (h : Z0 S w v l) : Bytes w v l := by
 rcases h with h | ⟨b, off, cap, _, h⟩
 ·exact .inl h
 ·exact .inr ⟨b, off, cap, h⟩
theorem Zcz {w : World} {v : Value} {l : List UInt8} (h : Bytes w v l) : Z0 (fun b => b < w.heap.size) w v l := by
 by_cases h0 : l = []
 ·subst h0;rcases h with h | ⟨b, off, cap, rfl, h1, hc⟩
  ·exact .inl h
  ·exact .inl ⟨_, cap, rfl, rfl, fun h => by cases h⟩
 ·rcases h with ⟨_, _, _, h1, _⟩ | ⟨b, off, cap, h2, h1, hc⟩
  ·exact absurd h1 h0
  ·exact .inr ⟨b, off, cap, Zt (hc 0 (List.length_pos_iff.2 h0)), h2, h1, hc⟩
theorem Za6 {w : World} {base : Nat} {v : Value} {l : List UInt8} (S : Nat → Prop) (h : w.ownsRow base 5 1 v l.length (l.map bv)) : Z0 (Zx S base) w v l := by
 rcases h.2 with ⟨rfl, h0⟩ | ⟨g, cap, cur, rfl, hb, hh, h1, h2, h3, h4⟩
 ·exact .inl ⟨none, 0, rfl, List.eq_nil_of_length_eq_zero h0, fun _ => rfl⟩
 ·refine .inr ⟨g, 0, cap, .inr hb, rfl, h1, fun i hi => ?_⟩;have := h.cellAt i (by omega);rw [Nat.zero_add, this];simp [hi, bv]
theorem Z0.mono {S S' : Nat → Prop} {w : World} {v : Value} {l : List UInt8} (h : Z0 S w v l) (hS : ∀ b, S b → S' b) : Z0 S' w v l := by
 rcases h with h | ⟨b, off, cap, hb, h⟩
 ·exact .inl h
 ·exact .inr ⟨b, off, cap, hS b hb, h⟩
theorem Z0.but {S : Nat → Prop} {g : Nat} {w w' : World} {v : Value} {l : List UInt8} (h : Z0 S w v l) (hg : Zu g w w') (hn : ¬ S g) : Z0 S w' v l := by
 rcases h with h | ⟨b, off, cap, hb, h1, h2, hc⟩
 ·exact .inl h
 ·refine .inr ⟨b, off, cap, hb, h1, h2, fun i hi => ?_⟩;have h3 := hc i hi;exact (hg.cell (Zt h3) (fun e => hn (by rw [← e]; exact hb))).trans h3
theorem Z0.grow {S : Nat → Prop} {w w' : World} {v : Value} {l : List UInt8} (h : Z0 S w v l) (hg : Zp w w') : Z0 S w' v l := by
 rcases h with h | ⟨b, off, cap, hb, h1, h2, hc⟩
 ·exact .inl h
 ·exact .inr ⟨b, off, cap, hb, h1, h2, fun i hi => (Below.cell hg (Zt (hc i hi))).trans (hc i hi)⟩
theorem Yy.p {S : Nat → Prop} {w : World} {v : Value} {bs : List (List UInt8)} (h : Yy S w v bs) : Xi w v bs := by
 rcases h with h | ⟨b, off, cap, _, h1, h2, h⟩
 ·exact .inl h
 ·refine .inr ⟨b, off, cap, h1, h2, fun i hi => ?_⟩;obtain ⟨u, h3, h4⟩ := h i hi;exact ⟨u, h3, h4.p⟩
theorem Xi.s {w : World} {v : Value} {bs : List (List UInt8)} (h : Xi w v bs) : Yy (fun b => b < w.heap.size) w v bs := by
 by_cases h0 : bs = []
 ·subst h0;rcases h with h | ⟨b, off, cap, rfl, h1, hc⟩
  ·exact .inl h
  ·exact .inl ⟨_, cap, rfl, rfl, fun h => by cases h⟩
 ·rcases h with ⟨_, _, _, h1, _⟩ | ⟨b, off, cap, h2, h1, hc⟩
  ·exact absurd h1 h0
  ·refine .inr ⟨b, off, cap, ?_, h2, h1, fun i hi => ?_⟩
   ·obtain ⟨u, h3, _⟩ := hc 0 (List.length_pos_iff.2 h0);exact Zt h3
   ·obtain ⟨u, h3, h4⟩ := hc i hi;exact ⟨u, h3, Zcz h4⟩
theorem Yy.mono {S S' : Nat → Prop} {w : World} {v : Value} {bs : List (List UInt8)} (h : Yy S w v bs) (hS : ∀ b, S b → S' b) : Yy S' w v bs := by
 rcases h with h | ⟨b, off, cap, hb, h1, h2, h⟩
 ·exact .inl h
 ·refine .inr ⟨b, off, cap, hS b hb, h1, h2, fun i hi => ?_⟩;obtain ⟨u, h3, h4⟩ := h i hi;exact ⟨u, h3, h4.mono hS⟩
theorem Yy.but {S : Nat → Prop} {g : Nat} {w w' : World} {v : Value} {bs : List (List UInt8)} (h : Yy S w v bs) (hg : Zu g w w') (hn : ¬ S g) : Yy S w' v bs := by
 rcases h with h | ⟨b, off, cap, hb, h1, h2, hc⟩
 ·exact .inl h
 ·refine .inr ⟨b, off, cap, hb, h1, h2, fun i hi => ?_⟩;obtain ⟨u, h3, h4⟩ := hc i hi;exact ⟨u, (hg.cell (Zt h3) (fun e => hn (by rw [← e]; exact hb))).trans h3, h4.but hg hn⟩
theorem Yy.grow {S : Nat → Prop} {w w' : World} {v : Value} {bs : List (List UInt8)} (h : Yy S w v bs) (hg : Zp w w') : Yy S w' v bs := by
 rcases h with h | ⟨b, off, cap, hb, h1, h2, hc⟩
 ·exact .inl h
 ·refine .inr ⟨b, off, cap, hb, h1, h2, fun i hi => ?_⟩;obtain ⟨u, h3, h4⟩ := hc i hi;exact ⟨u, (Below.cell hg (Zt h3)).trans h3, h4.grow hg⟩
theorem Yy.at {S : Nat → Prop} {w : World} {ao : Option Addr} {n cap : Nat} {bs : List (List UInt8)} (h : Yy S w (.slice ao n cap) bs) (i : Nat) (hi : i < bs.length) :
  ∃ b off, ao = some ⟨b, off, none⟩ ∧ ∃ u, w.cell? ⟨b, off + i, none⟩ = some u ∧ Z0 S w u bs[i] := by
 rcases h with ⟨_, _, _, rfl, _⟩ | ⟨b, off, cp, _, h2, h3, h4⟩
 ·simp at hi
 ·cases h2;exact ⟨b, off, rfl, h4 i hi⟩
theorem Xg.p {S : Nat → Prop} {w : World} {v : Value} {ws : List Wr} (h : Xg S w v ws) : Vg w v ws := by
 rcases h with h | ⟨b, off, cap, _, h1, h2, h⟩
 ·exact .inl h
 ·refine .inr ⟨b, off, cap, h1, h2, fun i hi => ?_⟩;obtain ⟨h0, u, h3, h4⟩ := h i hi;exact ⟨h0, u, h3, h4.p⟩
theorem Vg.s {w : World} {v : Value} {ws : List Wr} (h : Vg w v ws) : Xg (fun b => b < w.heap.size) w v ws := by
 by_cases h0 : ws = []
 ·subst h0;rcases h with h | ⟨b, off, cap, rfl, h1, hc⟩
  ·exact .inl h
  ·exact .inl ⟨_, cap, rfl, rfl, fun h => by cases h⟩
 ·rcases h with ⟨_, _, _, h1, _⟩ | ⟨b, off, cap, h2, h1, hc⟩
  ·exact absurd h1 h0
  ·refine .inr ⟨b, off, cap, Zt (hc 0 (List.length_pos_iff.2 h0)).1, h2, h1, fun i hi => ?_⟩;obtain ⟨hq, u, h3, h4⟩ := hc i hi;exact ⟨hq, u, h3, Zcz h4⟩
theorem Xg.mono {S S' : Nat → Prop} {w : World} {v : Value} {ws : List Wr} (h : Xg S w v ws) (hS : ∀ b, S b → S' b) : Xg S' w v ws := by
 rcases h with h | ⟨b, off, cap, hb, h1, h2, h⟩
 ·exact .inl h
 ·refine .inr ⟨b, off, cap, hS b hb, h1, h2, fun i hi => ?_⟩;obtain ⟨h0, u, h3, h4⟩ := h i hi;exact ⟨h0, u, h3, h4.mono hS⟩
theorem Xg.but {S : Nat → Prop} {g : Nat} {w w' : World} {v : Value} {ws : List Wr} (h : Xg S w v ws) (hg : Zu g w w') (hn : ¬ S g) : Xg S w' v ws := by
 rcases h with h | ⟨b, off, cap, hb, h1, h2, hc⟩
 ·exact .inl h
 ·refine .inr ⟨b, off, cap, hb, h1, h2, fun i hi => ?_⟩;obtain ⟨h0, u, h3, h4⟩ := hc i hi;exact ⟨(hg.cell (Zt h0) (fun e => hn (by rw [← e]; exact hb))).trans h0, u, (hg.cell (Zt h3) (fun e => hn (by rw [← e]; exact hb))).trans h3, h4.but hg hn⟩
theorem Xg.grow {S : Nat → Prop} {w w' : World} {v : Value} {ws : List Wr} (h : Xg S w v ws) (hg : Zp w w') : Xg S w' v ws := by
 rcases h with h | ⟨b, off, cap, hb, h1, h2, hc⟩
 ·exact .inl h
 ·refine .inr ⟨b, off, cap, hb, h1, h2, fun i hi => ?_⟩;obtain ⟨h0, u, h3, h4⟩ := hc i hi;exact ⟨(Below.cell hg (Zt h0)).trans h0, u, (Below.cell hg (Zt h3)).trans h3, h4.grow hg⟩
theorem Xg.at {S : Nat → Prop} {w : World} {ao : Option Addr} {n cap : Nat} {ws : List Wr} (h : Xg S w (.slice ao n cap) ws) (i : Nat) (hi : i < ws.length) :
  ∃ b off, ao = some ⟨b, off, none⟩ ∧ w.cell? ⟨b, off + i * 2, none⟩ = some (.int .i64 ws[i].1) ∧ ∃ u, w.cell? ⟨b, off + i * 2 + 1, none⟩ = some u ∧ Z0 S w u ws[i].2 := by
 rcases h with ⟨_, _, _, rfl, _⟩ | ⟨b, off, cp, _, h2, h3, h4⟩
 ·simp at hi
 ·cases h2;exact ⟨b, off, rfl, h4 i hi⟩
theorem Zgv (S : Nat → Prop) (l : List UInt8) : Xl (fun v w => Z0 S w v l) := fun _ _ _ hg h => Z0.grow h hg
end Go.Proofs.YtikhknkpndhakabGreat
