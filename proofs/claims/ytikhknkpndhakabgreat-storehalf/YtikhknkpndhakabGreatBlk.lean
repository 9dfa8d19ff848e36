import Derived.Test.YtikhknkpndhakabGreatBRead
set_option maxHeartbeats 8000000
namespace Go.Proofs.YtikhknkpndhakabGreat
set_option maxRecDepth 100000
open Go.RowKit
open Plain Reg
theorem Zjh (c : UInt8) : lo (c.toNat : Int) = c := by
 refine UInt8.toNat_inj.1 ?_;have := K5 (c.toNat : Int);have hc : c.toNat < 256 := UInt8.toNat_lt _;omega
theorem Zau (n : Int) (h0 : 0 ≤ n) (h1 : n ≤ 255) : ((lo n).toNat : Int) = n := by rw [K5]; omega
theorem Zw6 (x y : UInt8) : hi ((x.toNat : Int) * 256 + (y.toNat : Int)) = x := by
 have hx : x.toNat < 256 := UInt8.toNat_lt _;have hy : y.toNat < 256 := UInt8.toNat_lt _;exact ((Zcz x y _ (by omega) (by omega)).1 rfl).1
theorem Zw5 (x y : UInt8) : lo ((x.toNat : Int) * 256 + (y.toNat : Int)) = y := by
 have hx : x.toNat < 256 := UInt8.toNat_lt _;have hy : y.toNat < 256 := UInt8.toNat_lt _;exact ((Zcz x y _ (by omega) (by omega)).1 rfl).2
theorem Zws (r : Rec) (a : Int) : at' (blk r a) 0 = lo r.kind := rfl
theorem Zwr (r : Rec) (a : Int) : at' (blk r a) 1 = lo a := rfl
theorem Zwq (r : Rec) (a : Int) : at' (blk r a) 2 = lo r.key := rfl
theorem Zwp (r : Rec) (a : Int) : at' (blk r a) 3 = hi r.ver := rfl
theorem Zwo (r : Rec) (a : Int) : at' (blk r a) 4 = lo r.ver := rfl
theorem Zjw (r : Rec) (a : Int) : at' (blk r a) 5 = lo (r.data.length : Int) := rfl
theorem Zmb (r : Rec) (a : Int) : (blk r a).drop 6 = r.data ++ (List.replicate (8 - r.data.length) 0 ++ [hi (Xb (Za1 r a)), lo (Xb (Za1 r a))]) := by
 show (r.data ++ List.replicate (8 - r.data.length) 0) ++ _ = _;rw [List.append_assoc]
theorem Zo8 (r : Rec) (a : Int) (h : Ya r = 0) : Yt (blk r a) = r := by
 obtain ⟨k0, k1, y0, y1, n0, n1, hl⟩ := Vd h;unfold Yt;rw [Zws, Zwq, Zwp, Zwo, Zjw, Zmb];have e1 := Zau r.kind (by omega) (by omega);have e2 := Zau r.key (by omega) (by omega);have e3 := Zau (r.data.length : Int) (by omega) (by omega);have e4 : ((hi r.ver).toNat : Int) * 256 + ((lo r.ver).toNat : Int) = r.ver := by rw [Zgv, K5]; omega
 have e5 : (lo (r.data.length : Int)).toNat = r.data.length := by omega
 rw [e1, e2, e4, e5, List.take_left' rfl]
theorem Zs5 (r : Rec) (a : Int) (h : Ya r = 0) : Y5 (Q8 (blk r a)) = true := by
 obtain ⟨k0, k1, y0, y1, n0, n1, hl⟩ := Vd h;have e3 := Zau (r.data.length : Int) (by omega) (by omega);have e5 : (lo (r.data.length : Int)).toNat = r.data.length := by omega
 unfold Q8;rw [Zjw, e5, ← List.drop_drop, Zmb, List.drop_left' rfl, List.take_left' (by simp)];unfold Y5;rw [List.all_eq_true];intro c hc;simp [List.eq_of_mem_replicate hc]
theorem Zmz (r : Rec) (a : Int) (h : Ya r = 0) (h0 : 0 ≤ a) (h1 : a ≤ 255) : spoilt (blk r a) a = 0 := by
 obtain ⟨k0, k1, y0, y1, n0, n1, hl⟩ := Vd h;have e1 := Zau a h0 h1;have e3 := Zau (r.data.length : Int) (by omega) (by omega);unfold spoilt;rw [if_neg (by rw [Qh r a hl]; simp), if_neg (by unfold blk; rw [Zfv]; simp), if_neg (by rw [Zwr, e1]; simp), if_neg (by rw [Zjw]; omega), if_neg (by rw [Zs5 r a h]; simp)]
theorem Zky (r : Rec) (a : Int) (h : Ya r = 0) (h0 : 0 ≤ a) (h1 : a ≤ 255) : X0 (blk r a) a = 0 ∧ Y1 (blk r a) a = r := by
 have e : X0 (blk r a) a = 0 := by unfold X0; rw [if_pos (Zmz r a h h0 h1), Zo8 r a h]; exact h
 refine ⟨e, ?_⟩;unfold Y1;rw [if_pos e, Zo8 r a h]
theorem Znk {b : List UInt8} {a : Int} (h : X0 b a = 0) : spoilt b a = 0 ∧ Ya (Yt b) = 0 ∧ Y1 b a = Yt b := by
 have hr : Y1 b a = Yt b := by unfold Y1; rw [if_pos h]
 unfold X0 at h;by_cases hs : spoilt b a = 0
 ·rw [if_pos hs] at h; exact ⟨hs, h, hr⟩
 ·rw [if_neg hs] at h; exact absurd h hs
theorem Zw8 (b : List UInt8) (a : Int) (hs : spoilt b a = 0) : b.take 14 = Za1 (Yt b) a := by
 obtain ⟨hl, hsl, hp, h8, hn⟩ := J6 hs;have hlen : ((b.drop 6).take (at' b 5).toNat).length = (at' b 5).toNat := by simp; omega
 have hz : Q8 b = List.replicate (8 - (at' b 5).toNat) 0 := by
  refine List.eq_replicate_iff.2 ⟨by unfold Q8; simp; omega, fun c hc => ?_⟩;unfold Y5 at hn;have := (List.all_eq_true.1 hn) c hc;simpa using this
 unfold Za1 Yt;simp only [];rw [hlen, Zjh, Zjh, Zw6, Zw5, Zjh, ← hp, Zjh, ← hz];have e : b.take 14 = [at' b 0, at' b 1, at' b 2, at' b 3, at' b 4, at' b 5] ++ (b.drop 6).take 8 := by
  match b, hl with
  | [x0, x1, x2, x3, x4, x5, x6, x7, x8, x9, x10, x11, x12, x13, x14, x15], _ => rfl
 rw [e]
 congr 1
 unfold Q8;rw [← List.drop_drop, ← List.take_add]
 congr 1
 omega
theorem Zma (b : List UInt8) (a : Int) (h : X0 b a = 0) : Ya (Y1 b a) = 0 ∧ blk (Y1 b a) a = b := by
 obtain ⟨hs, hw, hr⟩ := Znk h;obtain ⟨hl, hsl, -, -, -⟩ := J6 hs;rw [hr];refine ⟨hw, ?_⟩;unfold blk;rw [← Zw8 b a hs];have := Zfw b (by omega);rw [hsl, hl] at this;exact beq_iff_eq.1 this
theorem Zkx (r : Rec) (a : Int) (n : Nat) (c : UInt8) (h : Ya r = 0) (hn : n < (blk r a).length) (hne : (blk r a)[n] ≠ c) : X0 ((blk r a).set n c) a = 7 := by
 obtain ⟨k0, k1, y0, y1, n0, n1, hl⟩ := Vd h;have e : spoilt ((blk r a).set n c) a = 7 := by
  have hse : Xi ((blk r a).set n c) = false := Zkj (Za1 r a) n c hn hne;unfold spoilt;rw [if_neg (by rw [List.length_set, Qh r a hl]; simp), if_pos hse]
 unfold X0;rw [e]; rfl
abbrev Wr := Int × List UInt8
structure Dk where
 blocks : List (List UInt8)
 late : List Wr
def Dk.same (a b : Dk) : Bool := a.blocks == b.blocks && a.late == b.late
theorem Dk.same_iff (a b : Dk) : a.same b = true ↔ a = b := by
 obtain ⟨a1, a2⟩ := a;obtain ⟨b1, b2⟩ := b;simp [Dk.same]
def Xp (w : World) (v : Value) (bs : List (List UInt8)) : Prop :=
 (∃ ao cap, v = .slice ao 0 cap ∧ bs = [] ∧ (ao = none → cap = 0)) ∨
 (∃ b off cap, v = .slice (some ⟨b, off, none⟩) bs.length cap ∧ bs.length ≤ cap ∧ ∀ (i : Nat) (h : i < bs.length), ∃ u, w.cell? ⟨b, off + i, none⟩ = some u ∧ Bytes w u bs[i])
def Vp (w : World) (v : Value) (ws : List Wr) : Prop :=
 (∃ ao cap, v = .slice ao 0 cap ∧ ws = [] ∧ (ao = none → cap = 0)) ∨
 (∃ b off cap, v = .slice (some ⟨b, off, none⟩) ws.length cap ∧ ws.length ≤ cap ∧ ∀ (i : Nat) (h : i < ws.length), w.cell? ⟨b, off + i * 2, none⟩ = some (.int .i64 ws[i].1) ∧ ∃ u, w.cell? ⟨b, off + i * 2 + 1, none⟩ = some u ∧ Bytes w u ws[i].2)
theorem Xp.grow {w w' : World} {v : Value} {bs : List (List UInt8)} (h : Xp w v bs) (hg : Zn w w') : Xp w' v bs := by
 rcases h with h | ⟨b, off, cap, rfl, h1, hc⟩
 ·exact .inl h
 ·refine .inr ⟨b, off, cap, rfl, h1, fun i hi => ?_⟩;obtain ⟨u, h2, h3⟩ := hc i hi;exact ⟨u, (Below.cell hg (Zt h2)).trans h2, Z2 h3 hg⟩
theorem Vp.grow {w w' : World} {v : Value} {ws : List Wr} (h : Vp w v ws) (hg : Zn w w') : Vp w' v ws := by
 rcases h with h | ⟨b, off, cap, rfl, h1, hc⟩
 ·exact .inl h
 ·refine .inr ⟨b, off, cap, rfl, h1, fun i hi => ?_⟩;obtain ⟨h0, u, h2, h3⟩ := hc i hi;exact ⟨(Below.cell hg (Zt h0)).trans h0, u, (Below.cell hg (Zt h2)).trans h2, Z2 h3 hg⟩
theorem Xp.form {w : World} {v : Value} {bs : List (List UInt8)} (h : Xp w v bs) : ∃ ao cap, v = .slice ao bs.length cap := by
 rcases h with ⟨ao, cap, rfl, rfl, _⟩ | ⟨b, off, cap, rfl, _⟩
 ·exact ⟨ao, cap, rfl⟩
 ·exact ⟨_, cap, rfl⟩
theorem Vp.form {w : World} {v : Value} {ws : List Wr} (h : Vp w v ws) : ∃ ao cap, v = .slice ao ws.length cap := by
 rcases h with ⟨ao, cap, rfl, rfl, _⟩ | ⟨b, off, cap, rfl, _⟩
 ·exact ⟨ao, cap, rfl⟩
 ·exact ⟨_, cap, rfl⟩
theorem Xp.at {w : World} {ao : Option Addr} {n cap : Nat} {bs : List (List UInt8)} (h : Xp w (.slice ao n cap) bs) (i : Nat) (hi : i < bs.length) :
  ∃ b off, ao = some ⟨b, off, none⟩ ∧ ∃ u, w.cell? ⟨b, off + i, none⟩ = some u ∧ Bytes w u bs[i] := by
 rcases h with ⟨_, _, _, rfl, _⟩ | ⟨b, off, cp, h2, h3, h4⟩
 ·simp at hi
 ·cases h2;exact ⟨b, off, rfl, h4 i hi⟩
theorem Vp.at {w : World} {ao : Option Addr} {n cap : Nat} {ws : List Wr} (h : Vp w (.slice ao n cap) ws) (i : Nat) (hi : i < ws.length) :
  ∃ b off, ao = some ⟨b, off, none⟩ ∧ w.cell? ⟨b, off + i * 2, none⟩ = some (.int .i64 ws[i].1) ∧ ∃ u, w.cell? ⟨b, off + i * 2 + 1, none⟩ = some u ∧ Bytes w u ws[i].2 := by
 rcases h with ⟨_, _, _, rfl, _⟩ | ⟨b, off, cp, h2, h3, h4⟩
 ·simp at hi
 ·cases h2;exact ⟨b, off, rfl, h4 i hi⟩
def Z0 (S : Nat → Prop) (w : World) (v : Value) (l : List UInt8) : Prop :=
 (∃ ao cap, v = .slice ao 0 cap ∧ l = [] ∧ (ao = none → cap = 0)) ∨
 (∃ b off cap, S b ∧ v = .slice (some ⟨b, off, none⟩) l.length cap ∧ l.length ≤ cap ∧ ∀ (i : Nat) (h : i < l.length), w.cell? ⟨b, off + i, none⟩ = some (.int .u8 (l[i].toNat : Int)))
def Yy (S : Nat → Prop) (w : World) (v : Value) (bs : List (List UInt8)) : Prop :=
 (∃ ao cap, v = .slice ao 0 cap ∧ bs = [] ∧ (ao = none → cap = 0)) ∨
 (∃ b off cap, S b ∧ v = .slice (some ⟨b, off, none⟩) bs.length cap ∧ bs.length ≤ cap ∧ ∀ (i : Nat) (h : i < bs.length), ∃ u, w.cell? ⟨b, off + i, none⟩ = some u ∧ Z0 S w u bs[i])
def Xn (S : Nat → Prop) (w : World) (v : Value) (ws : List Wr) : Prop :=
 (∃ ao cap, v = .slice ao 0 cap ∧ ws = [] ∧ (ao = none → cap = 0)) ∨
 (∃ b off cap, S b ∧ v = .slice (some ⟨b, off, none⟩) ws.length cap ∧ ws.length ≤ cap ∧ ∀ (i : Nat) (h : i < ws.length), w.cell? ⟨b, off + i * 2, none⟩ = some (.int .i64 ws[i].1) ∧ ∃ u, w.cell? ⟨b, off + i * 2 + 1, none⟩ = some u ∧ Z0 S w u ws[i].2)
def Zx (S : Nat → Prop) (B : Nat) : Nat → Prop := fun b => S b ∨ B ≤ b
theorem V2 {S : Nat → Prop} {B : Nat} : ∀ b, S b → Zx S B b := fun _ h => .inl h
theorem Z7 {S : Nat → Prop} {B B' : Nat} (h : B ≤ B') : ∀ b, Zx S B' b → Zx S B b := fun _ hb => Xt hb (fun x => x) (fun x => Nat.le_trans h x)
theorem Z0.p {S : Nat → Prop} {w : World} {v : Value} {l : List UInt8} (h : Z0 S w v l) : Bytes w v l := by
 rcases h with h | ⟨b, off, cap, _, h⟩
 ·exact .inl h
 ·exact .inr ⟨b, off, cap, h⟩
theorem Zdu {w : World} {v : Value} {l : List UInt8} (h : Bytes w v l) : Z0 (fun b => b < w.heap.size) w v l := by
 by_cases h0 : l = []
 ·subst h0;rcases h with h | ⟨b, off, cap, rfl, h1, hc⟩
  ·exact .inl h
  ·exact .inl ⟨_, cap, rfl, rfl, fun h => by cases h⟩
 ·rcases h with ⟨_, _, _, h1, _⟩ | ⟨b, off, cap, h2, h1, hc⟩
  ·exact absurd h1 h0
  ·exact .inr ⟨b, off, cap, Zt (hc 0 (List.length_pos_iff.2 h0)), h2, h1, hc⟩
theorem Zbx {w : World} {base : Nat} {v : Value} {l : List UInt8} (S : Nat → Prop) (h : w.ownsRow base 5 1 v l.length (l.map bv)) : Z0 (Zx S base) w v l := by
 rcases h.2 with ⟨rfl, h0⟩ | ⟨g, cap, cur, rfl, hb, hh, h1, h2, h3, h4⟩
 ·exact .inl ⟨none, 0, rfl, List.eq_nil_of_length_eq_zero h0, fun _ => rfl⟩
 ·refine .inr ⟨g, 0, cap, .inr hb, rfl, h1, fun i hi => ?_⟩;have := h.cellAt i (by omega);rw [Nat.zero_add, this];simp [hi, bv]
theorem Z0.mono {S S' : Nat → Prop} {w : World} {v : Value} {l : List UInt8} (h : Z0 S w v l) (hS : ∀ b, S b → S' b) : Z0 S' w v l := by
 rcases h with h | ⟨b, off, cap, hb, h⟩
 ·exact .inl h
 ·exact .inr ⟨b, off, cap, hS b hb, h⟩
theorem Z0.but {S : Nat → Prop} {g : Nat} {w w' : World} {v : Value} {l : List UInt8} (h : Z0 S w v l) (hg : Zs g w w') (hn : ¬ S g) : Z0 S w' v l := by
 rcases h with h | ⟨b, off, cap, hb, h1, h2, hc⟩
 ·exact .inl h
 ·refine .inr ⟨b, off, cap, hb, h1, h2, fun i hi => ?_⟩;have h3 := hc i hi;exact (hg.cell (Zt h3) (fun e => hn (by rw [← e]; exact hb))).trans h3
theorem Z0.grow {S : Nat → Prop} {w w' : World} {v : Value} {l : List UInt8} (h : Z0 S w v l) (hg : Zn w w') : Z0 S w' v l := by
 rcases h with h | ⟨b, off, cap, hb, h1, h2, hc⟩
 ·exact .inl h
 ·exact .inr ⟨b, off, cap, hb, h1, h2, fun i hi => (Below.cell hg (Zt (hc i hi))).trans (hc i hi)⟩
theorem Yy.p {S : Nat → Prop} {w : World} {v : Value} {bs : List (List UInt8)} (h : Yy S w v bs) : Xp w v bs := by
 rcases h with h | ⟨b, off, cap, _, h1, h2, h⟩
 ·exact .inl h
 ·refine .inr ⟨b, off, cap, h1, h2, fun i hi => ?_⟩;obtain ⟨u, h3, h4⟩ := h i hi;exact ⟨u, h3, h4.p⟩
theorem Xp.s {w : World} {v : Value} {bs : List (List UInt8)} (h : Xp w v bs) : Yy (fun b => b < w.heap.size) w v bs := by
 by_cases h0 : bs = []
 ·subst h0;rcases h with h | ⟨b, off, cap, rfl, h1, hc⟩
  ·exact .inl h
  ·exact .inl ⟨_, cap, rfl, rfl, fun h => by cases h⟩
 ·rcases h with ⟨_, _, _, h1, _⟩ | ⟨b, off, cap, h2, h1, hc⟩
  ·exact absurd h1 h0
  ·refine .inr ⟨b, off, cap, ?_, h2, h1, fun i hi => ?_⟩
   ·obtain ⟨u, h3, _⟩ := hc 0 (List.length_pos_iff.2 h0);exact Zt h3
   ·obtain ⟨u, h3, h4⟩ := hc i hi;exact ⟨u, h3, Zdu h4⟩
theorem Yy.mono {S S' : Nat → Prop} {w : World} {v : Value} {bs : List (List UInt8)} (h : Yy S w v bs) (hS : ∀ b, S b → S' b) : Yy S' w v bs := by
 rcases h with h | ⟨b, off, cap, hb, h1, h2, h⟩
 ·exact .inl h
 ·refine .inr ⟨b, off, cap, hS b hb, h1, h2, fun i hi => ?_⟩;obtain ⟨u, h3, h4⟩ := h i hi;exact ⟨u, h3, h4.mono hS⟩
theorem Yy.but {S : Nat → Prop} {g : Nat} {w w' : World} {v : Value} {bs : List (List UInt8)} (h : Yy S w v bs) (hg : Zs g w w') (hn : ¬ S g) : Yy S w' v bs := by
 rcases h with h | ⟨b, off, cap, hb, h1, h2, hc⟩
 ·exact .inl h
 ·refine .inr ⟨b, off, cap, hb, h1, h2, fun i hi => ?_⟩;obtain ⟨u, h3, h4⟩ := hc i hi;exact ⟨u, (hg.cell (Zt h3) (fun e => hn (by rw [← e]; exact hb))).trans h3, h4.but hg hn⟩
theorem Yy.grow {S : Nat → Prop} {w w' : World} {v : Value} {bs : List (List UInt8)} (h : Yy S w v bs) (hg : Zn w w') : Yy S w' v bs := by
 rcases h with h | ⟨b, off, cap, hb, h1, h2, hc⟩
 ·exact .inl h
 ·refine .inr ⟨b, off, cap, hb, h1, h2, fun i hi => ?_⟩;obtain ⟨u, h3, h4⟩ := hc i hi;exact ⟨u, (Below.cell hg (Zt h3)).trans h3, h4.grow hg⟩
theorem Yy.at {S : Nat → Prop} {w : World} {ao : Option Addr} {n cap : Nat} {bs : List (List UInt8)} (h : Yy S w (.slice ao n cap) bs) (i : Nat) (hi : i < bs.length) :
  ∃ b off, ao = some ⟨b, off, none⟩ ∧ ∃ u, w.cell? ⟨b, off + i, none⟩ = some u ∧ Z0 S w u bs[i] := by
 rcases h with ⟨_, _, _, rfl, _⟩ | ⟨b, off, cp, _, h2, h3, h4⟩
 ·simp at hi
 ·cases h2;exact ⟨b, off, rfl, h4 i hi⟩
theorem Xn.p {S : Nat → Prop} {w : World} {v : Value} {ws : List Wr} (h : Xn S w v ws) : Vp w v ws := by
 rcases h with h | ⟨b, off, cap, _, h1, h2, h⟩
 ·exact .inl h
 ·refine .inr ⟨b, off, cap, h1, h2, fun i hi => ?_⟩;obtain ⟨h0, u, h3, h4⟩ := h i hi;exact ⟨h0, u, h3, h4.p⟩
theorem Vp.s {w : World} {v : Value} {ws : List Wr} (h : Vp w v ws) : Xn (fun b => b < w.heap.size) w v ws := by
 by_cases h0 : ws = []
 ·subst h0;rcases h with h | ⟨b, off, cap, rfl, h1, hc⟩
  ·exact .inl h
  ·exact .inl ⟨_, cap, rfl, rfl, fun h => by cases h⟩
 ·rcases h with ⟨_, _, _, h1, _⟩ | ⟨b, off, cap, h2, h1, hc⟩
  ·exact absurd h1 h0
  ·refine .inr ⟨b, off, cap, Zt (hc 0 (List.length_pos_iff.2 h0)).1, h2, h1, fun i hi => ?_⟩;obtain ⟨hq, u, h3, h4⟩ := hc i hi;exact ⟨hq, u, h3, Zdu h4⟩
theorem Xn.mono {S S' : Nat → Prop} {w : World} {v : Value} {ws : List Wr} (h : Xn S w v ws) (hS : ∀ b, S b → S' b) : Xn S' w v ws := by
 rcases h with h | ⟨b, off, cap, hb, h1, h2, h⟩
 ·exact .inl h
 ·refine .inr ⟨b, off, cap, hS b hb, h1, h2, fun i hi => ?_⟩;obtain ⟨h0, u, h3, h4⟩ := h i hi;exact ⟨h0, u, h3, h4.mono hS⟩
theorem Xn.but {S : Nat → Prop} {g : Nat} {w w' : World} {v : Value} {ws : List Wr} (h : Xn S w v ws) (hg : Zs g w w') (hn : ¬ S g) : Xn S w' v ws := by
 rcases h with h | ⟨b, off, cap, hb, h1, h2, hc⟩
 ·exact .inl h
 ·refine .inr ⟨b, off, cap, hb, h1, h2, fun i hi => ?_⟩;obtain ⟨h0, u, h3, h4⟩ := hc i hi;exact ⟨(hg.cell (Zt h0) (fun e => hn (by rw [← e]; exact hb))).trans h0, u, (hg.cell (Zt h3) (fun e => hn (by rw [← e]; exact hb))).trans h3, h4.but hg hn⟩
theorem Xn.grow {S : Nat → Prop} {w w' : World} {v : Value} {ws : List Wr} (h : Xn S w v ws) (hg : Zn w w') : Xn S w' v ws := by
 rcases h with h | ⟨b, off, cap, hb, h1, h2, hc⟩
 ·exact .inl h
 ·refine .inr ⟨b, off, cap, hb, h1, h2, fun i hi => ?_⟩;obtain ⟨h0, u, h3, h4⟩ := hc i hi;exact ⟨(Below.cell hg (Zt h0)).trans h0, u, (Below.cell hg (Zt h3)).trans h3, h4.grow hg⟩
theorem Xn.at {S : Nat → Prop} {w : World} {ao : Option Addr} {n cap : Nat} {ws : List Wr} (h : Xn S w (.slice ao n cap) ws) (i : Nat) (hi : i < ws.length) :
  ∃ b off, ao = some ⟨b, off, none⟩ ∧ w.cell? ⟨b, off + i * 2, none⟩ = some (.int .i64 ws[i].1) ∧ ∃ u, w.cell? ⟨b, off + i * 2 + 1, none⟩ = some u ∧ Z0 S w u ws[i].2 := by
 rcases h with ⟨_, _, _, rfl, _⟩ | ⟨b, off, cp, _, h2, h3, h4⟩
 ·simp at hi
 ·cases h2;exact ⟨b, off, rfl, h4 i hi⟩
theorem Zh3 (S : Nat → Prop) (l : List UInt8) : Xs (fun v w => Z0 S w v l) := fun _ _ _ hg h => Z0.grow h hg
end Go.Proofs.YtikhknkpndhakabGreat
