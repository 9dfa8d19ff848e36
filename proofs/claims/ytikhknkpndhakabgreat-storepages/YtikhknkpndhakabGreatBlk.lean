import Derived.Test.YtikhknkpndhakabGreatBRead
set_option maxHeartbeats 8000000
namespace Go.Proofs.YtikhknkpndhakabGreat
set_option maxRecDepth 100000
open Go.RowKit
open Plain Reg
theorem Zit (c : UInt8) : lo (c.toNat : Int) = c := by
 refine UInt8.toNat_inj.1 ?_;have := J4 (c.toNat : Int);have hc : c.toNat < 256 := UInt8.toNat_lt _;omega
theorem Zai (n : Int) (h0 : 0 ≤ n) (h1 : n ≤ 255) : ((lo n).toNat : Int) = n := by rw [J4]; omega
theorem Zv2 (x y : UInt8) : hi ((x.toNat : Int) * 256 + (y.toNat : Int)) = x := by
 have hx : x.toNat < 256 := UInt8.toNat_lt _;have hy : y.toNat < 256 := UInt8.toNat_lt _;exact ((Zid x y _ (by omega) (by omega)).1 rfl).1
theorem Zv1 (x y : UInt8) : lo ((x.toNat : Int) * 256 + (y.toNat : Int)) = y := by
 have hx : x.toNat < 256 := UInt8.toNat_lt _;have hy : y.toNat < 256 := UInt8.toNat_lt _;exact ((Zid x y _ (by omega) (by omega)).1 rfl).2
theorem Zvo (r : Rec) (a : Int) : at' (blk r a) 0 = lo r.kind := rfl
theorem Zvn (r : Rec) (a : Int) : at' (blk r a) 1 = lo a := rfl
theorem Zvm (r : Rec) (a : Int) : at' (blk r a) 2 = lo r.key := rfl
theorem Zvl (r : Rec) (a : Int) : at' (blk r a) 3 = hi r.ver := rfl
theorem Zvk (r : Rec) (a : Int) : at' (blk r a) 4 = lo r.ver := rfl
theorem Zja (r : Rec) (a : Int) : at' (blk r a) 5 = lo (r.data.length : Int) := rfl
theorem Zk9 (r : Rec) (a : Int) : (blk r a).drop 6 = r.data ++ (List.replicate (8 - r.data.length) 0 ++ [hi (Xl (Za7 r a)), lo (Xl (Za7 r a))]) := by
 show (r.data ++ List.replicate (8 - r.data.length) 0) ++ _ = _;rw [List.append_assoc]
theorem Zn7 (r : Rec) (a : Int) (h : Yb r = 0) : Yq (blk r a) = r := by
 obtain ⟨k0, k1, y0, y1, n0, n1, hl⟩ := Vp h;unfold Yq;rw [Zvo, Zvm, Zvl, Zvk, Zja, Zk9];have e1 := Zai r.kind (by omega) (by omega);have e2 := Zai r.key (by omega) (by omega);have e3 := Zai (r.data.length : Int) (by omega) (by omega);have e4 : ((hi r.ver).toNat : Int) * 256 + ((lo r.ver).toNat : Int) = r.ver := by rw [Zf4, J4]; omega
 have e5 : (lo (r.data.length : Int)).toNat = r.data.length := by omega
 rw [e1, e2, e4, e5, List.take_left' rfl]
theorem Zr8 (r : Rec) (a : Int) (h : Yb r = 0) : Y4 (Qy (blk r a)) = true := by
 obtain ⟨k0, k1, y0, y1, n0, n1, hl⟩ := Vp h;have e3 := Zai (r.data.length : Int) (by omega) (by omega);have e5 : (lo (r.data.length : Int)).toNat = r.data.length := by omega
 unfold Qy;rw [Zja, e5, ← List.drop_drop, Zk9, List.drop_left' rfl, List.take_left' (by simp)];unfold Y4;rw [List.all_eq_true];intro c hc;simp [List.eq_of_mem_replicate hc]
theorem Zlx (r : Rec) (a : Int) (h : Yb r = 0) (h0 : 0 ≤ a) (h1 : a ≤ 255) : Yy (blk r a) a = 0 := by
 obtain ⟨k0, k1, y0, y1, n0, n1, hl⟩ := Vp h;have e1 := Zai a h0 h1;have e3 := Zai (r.data.length : Int) (by omega) (by omega);unfold Yy;rw [if_neg (by rw [Ql r a hl]; simp), if_neg (by unfold blk; rw [Ze7]; simp), if_neg (by rw [Zvn, e1]; simp), if_neg (by rw [Zja]; omega), if_neg (by rw [Zr8 r a h]; simp)]
theorem Zj3 (r : Rec) (a : Int) (h : Yb r = 0) (h0 : 0 ≤ a) (h1 : a ≤ 255) : Xz (blk r a) a = 0 ∧ Y1 (blk r a) a = r := by
 have e : Xz (blk r a) a = 0 := by unfold Xz; rw [if_pos (Zlx r a h h0 h1), Zn7 r a h]; exact h
 refine ⟨e, ?_⟩;unfold Y1;rw [if_pos e, Zn7 r a h]
theorem Zmf {b : List UInt8} {a : Int} (h : Xz b a = 0) : Yy b a = 0 ∧ Yb (Yq b) = 0 ∧ Y1 b a = Yq b := by
 have hr : Y1 b a = Yq b := by unfold Y1; rw [if_pos h]
 unfold Xz at h;by_cases hs : Yy b a = 0
 ·rw [if_pos hs] at h; exact ⟨hs, h, hr⟩
 ·rw [if_neg hs] at h; exact absurd h hs
theorem Zv4 (b : List UInt8) (a : Int) (hs : Yy b a = 0) : b.take 14 = Za7 (Yq b) a := by
 obtain ⟨hl, hsl, hp, h8, hn⟩ := Jp hs;have hlen : ((b.drop 6).take (at' b 5).toNat).length = (at' b 5).toNat := by simp; omega
 have hz : Qy b = List.replicate (8 - (at' b 5).toNat) 0 := by
  refine List.eq_replicate_iff.2 ⟨by unfold Qy; simp; omega, fun c hc => ?_⟩;unfold Y4 at hn;have := (List.all_eq_true.1 hn) c hc;simpa using this
 unfold Za7 Yq;simp only [];rw [hlen, Zit, Zit, Zv2, Zv1, Zit, ← hp, Zit, ← hz];have e : b.take 14 = [at' b 0, at' b 1, at' b 2, at' b 3, at' b 4, at' b 5] ++ (b.drop 6).take 8 := by
  match b, hl with
  | [x0, x1, x2, x3, x4, x5, x6, x7, x8, x9, x10, x11, x12, x13, x14, x15], _ => rfl
 rw [e]
 congr 1
 unfold Qy;rw [← List.drop_drop, ← List.take_add]
 congr 1
 omega
theorem Ztl (b : List UInt8) (a : Int) (h : Xz b a = 0) : Yb (Y1 b a) = 0 ∧ blk (Y1 b a) a = b := by
 obtain ⟨hs, hw, hr⟩ := Zmf h;obtain ⟨hl, hsl, -, -, -⟩ := Jp hs;rw [hr];refine ⟨hw, ?_⟩;unfold blk;rw [← Zv4 b a hs];have := Ze8 b (by omega);rw [hsl, hl] at this;exact beq_iff_eq.1 this
abbrev Wr := Int × List UInt8
structure Dk where
 blocks : List (List UInt8)
 late : List Wr
def Xx (w : World) (v : Value) (bs : List (List UInt8)) : Prop :=
 (∃ ao cap, v = .slice ao 0 cap ∧ bs = [] ∧ (ao = none → cap = 0)) ∨
 (∃ b off cap, v = .slice (some ⟨b, off, none⟩) bs.length cap ∧ bs.length ≤ cap ∧ ∀ (i : Nat) (h : i < bs.length), ∃ u, w.cell? ⟨b, off + i, none⟩ = some u ∧ Bytes w u bs[i])
def Vs (w : World) (v : Value) (ws : List Wr) : Prop :=
 (∃ ao cap, v = .slice ao 0 cap ∧ ws = [] ∧ (ao = none → cap = 0)) ∨
 (∃ b off cap, v = .slice (some ⟨b, off, none⟩) ws.length cap ∧ ws.length ≤ cap ∧ ∀ (i : Nat) (h : i < ws.length), w.cell? ⟨b, off + i * 2, none⟩ = some (.int .i64 ws[i].1) ∧ ∃ u, w.cell? ⟨b, off + i * 2 + 1, none⟩ = some u ∧ Bytes w u ws[i].2)
theorem Xx.grow {w w' : World} {v : Value} {bs : List (List UInt8)} (h : Xx w v bs) (hg : Zn w w') : Xx w' v bs := by
 rcases h with h | ⟨b, off, cap, rfl, h1, hc⟩
 ·exact .inl h
 ·refine .inr ⟨b, off, cap, rfl, h1, fun i hi => ?_⟩;obtain ⟨u, h2, h3⟩ := hc i hi;exact ⟨u, (Below.cell hg (Zt h2)).trans h2, Z3 h3 hg⟩
theorem Vs.grow {w w' : World} {v : Value} {ws : List Wr} (h : Vs w v ws) (hg : Zn w w') : Vs w' v ws := by
 rcases h with h | ⟨b, off, cap, rfl, h1, hc⟩
 ·exact .inl h
 ·refine .inr ⟨b, off, cap, rfl, h1, fun i hi => ?_⟩;obtain ⟨h0, u, h2, h3⟩ := hc i hi;exact ⟨(Below.cell hg (Zt h0)).trans h0, u, (Below.cell hg (Zt h2)).trans h2, Z3 h3 hg⟩
theorem Xx.form {w : World} {v : Value} {bs : List (List UInt8)} (h : Xx w v bs) : ∃ ao cap, v = .slice ao bs.length cap := by
 rcases h with ⟨ao, cap, rfl, rfl, _⟩ | ⟨b, off, cap, rfl, _⟩
 ·exact ⟨ao, cap, rfl⟩
 ·exact ⟨_, cap, rfl⟩
theorem Vs.form {w : World} {v : Value} {ws : List Wr} (h : Vs w v ws) : ∃ ao cap, v = .slice ao ws.length cap := by
 rcases h with ⟨ao, cap, rfl, rfl, _⟩ | ⟨b, off, cap, rfl, _⟩
 ·exact ⟨ao, cap, rfl⟩
 ·exact ⟨_, cap, rfl⟩
theorem Xx.at {w : World} {ao : Option Addr} {n cap : Nat} {bs : List (List UInt8)} (h : Xx w (.slice ao n cap) bs) (i : Nat) (hi : i < bs.length) :
  ∃ b off, ao = some ⟨b, off, none⟩ ∧ ∃ u, w.cell? ⟨b, off + i, none⟩ = some u ∧ Bytes w u bs[i] := by
 rcases h with ⟨_, _, _, rfl, _⟩ | ⟨b, off, cp, h2, h3, h4⟩
 ·simp at hi
 ·cases h2;exact ⟨b, off, rfl, h4 i hi⟩
theorem Vs.at {w : World} {ao : Option Addr} {n cap : Nat} {ws : List Wr} (h : Vs w (.slice ao n cap) ws) (i : Nat) (hi : i < ws.length) :
  ∃ b off, ao = some ⟨b, off, none⟩ ∧ w.cell? ⟨b, off + i * 2, none⟩ = some (.int .i64 ws[i].1) ∧ ∃ u, w.cell? ⟨b, off + i * 2 + 1, none⟩ = some u ∧ Bytes w u ws[i].2 := by
 rcases h with ⟨_, _, _, rfl, _⟩ | ⟨b, off, cp, h2, h3, h4⟩
 ·simp at hi
 ·cases h2;exact ⟨b, off, rfl, h4 i hi⟩
def Zz (S : Nat → Prop) (w : World) (v : Value) (l : List UInt8) : Prop :=
 (∃ ao cap, v = .slice ao 0 cap ∧ l = [] ∧ (ao = none → cap = 0)) ∨
 (∃ b off cap, S b ∧ v = .slice (some ⟨b, off, none⟩) l.length cap ∧ l.length ≤ cap ∧ ∀ (i : Nat) (h : i < l.length), w.cell? ⟨b, off + i, none⟩ = some (.int .u8 (l[i].toNat : Int)))
def Yw (S : Nat → Prop) (w : World) (v : Value) (bs : List (List UInt8)) : Prop :=
 (∃ ao cap, v = .slice ao 0 cap ∧ bs = [] ∧ (ao = none → cap = 0)) ∨
 (∃ b off cap, S b ∧ v = .slice (some ⟨b, off, none⟩) bs.length cap ∧ bs.length ≤ cap ∧ ∀ (i : Nat) (h : i < bs.length), ∃ u, w.cell? ⟨b, off + i, none⟩ = some u ∧ Zz S w u bs[i])
def Xh (S : Nat → Prop) (w : World) (v : Value) (ws : List Wr) : Prop :=
 (∃ ao cap, v = .slice ao 0 cap ∧ ws = [] ∧ (ao = none → cap = 0)) ∨
 (∃ b off cap, S b ∧ v = .slice (some ⟨b, off, none⟩) ws.length cap ∧ ws.length ≤ cap ∧ ∀ (i : Nat) (h : i < ws.length), w.cell? ⟨b, off + i * 2, none⟩ = some (.int .i64 ws[i].1) ∧ ∃ u, w.cell? ⟨b, off + i * 2 + 1, none⟩ = some u ∧ Zz S w u ws[i].2)
def Zu (S : Nat → Prop) (B : Nat) : Nat → Prop := fun b => S b ∨ B ≤ b
theorem Vu {S : Nat → Prop} {B : Nat} : ∀ b, S b → Zu S B b := fun _ h => .inl h
theorem Z8 {S : Nat → Prop} {B B' : Nat} (h : B ≤ B') : ∀ b, Zu S B' b → Zu S B b := fun _ hb => Xn hb (fun x => x) (fun x => Nat.le_trans h x)
theorem Zz.p {S : Nat → Prop} {w : World} {v : Value} {l : List UInt8} (h : Zz S w v l) : Bytes w v l := by
 rcases h with h | ⟨b, off, cap, _, h⟩
 ·exact .inl h
 ·exact .inr ⟨b, off, cap, h⟩
theorem Zi9 {w : World} {v : Value} {l : List UInt8} (h : Bytes w v l) : Zz (fun b => b < w.heap.size) w v l := by
 by_cases h0 : l = []
 ·subst h0;rcases h with h | ⟨b, off, cap, rfl, h1, hc⟩
  ·exact .inl h
  ·exact .inl ⟨_, cap, rfl, rfl, fun h => by cases h⟩
 ·rcases h with ⟨_, _, _, h1, _⟩ | ⟨b, off, cap, h2, h1, hc⟩
  ·exact absurd h1 h0
  ·exact .inr ⟨b, off, cap, Zt (hc 0 (List.length_pos_iff.2 h0)), h2, h1, hc⟩
theorem Zbi {w : World} {base : Nat} {v : Value} {l : List UInt8} (S : Nat → Prop) (h : w.ownsRow base 5 1 v l.length (l.map bv)) : Zz (Zu S base) w v l := by
 rcases h.2 with ⟨rfl, h0⟩ | ⟨g, cap, cur, rfl, hb, hh, h1, h2, h3, h4⟩
 ·exact .inl ⟨none, 0, rfl, List.eq_nil_of_length_eq_zero h0, fun _ => rfl⟩
 ·refine .inr ⟨g, 0, cap, .inr hb, rfl, h1, fun i hi => ?_⟩;have := h.cellAt i (by omega);rw [Nat.zero_add, this];simp [hi, bv]
theorem Zz.mono {S S' : Nat → Prop} {w : World} {v : Value} {l : List UInt8} (h : Zz S w v l) (hS : ∀ b, S b → S' b) : Zz S' w v l := by
 rcases h with h | ⟨b, off, cap, hb, h⟩
 ·exact .inl h
 ·exact .inr ⟨b, off, cap, hS b hb, h⟩
theorem Zz.but {S : Nat → Prop} {g : Nat} {w w' : World} {v : Value} {l : List UInt8} (h : Zz S w v l) (hg : Zq g w w') (hn : ¬ S g) : Zz S w' v l := by
 rcases h with h | ⟨b, off, cap, hb, h1, h2, hc⟩
 ·exact .inl h
 ·refine .inr ⟨b, off, cap, hb, h1, h2, fun i hi => ?_⟩;have h3 := hc i hi;exact (hg.cell (Zt h3) (fun e => hn (by rw [← e]; exact hb))).trans h3
theorem Zz.grow {S : Nat → Prop} {w w' : World} {v : Value} {l : List UInt8} (h : Zz S w v l) (hg : Zn w w') : Zz S w' v l := by
 rcases h with h | ⟨b, off, cap, hb, h1, h2, hc⟩
 ·exact .inl h
 ·exact .inr ⟨b, off, cap, hb, h1, h2, fun i hi => (Below.cell hg (Zt (hc i hi))).trans (hc i hi)⟩
theorem Yw.p {S : Nat → Prop} {w : World} {v : Value} {bs : List (List UInt8)} (h : Yw S w v bs) : Xx w v bs := by
 rcases h with h | ⟨b, off, cap, _, h1, h2, h⟩
 ·exact .inl h
 ·refine .inr ⟨b, off, cap, h1, h2, fun i hi => ?_⟩;obtain ⟨u, h3, h4⟩ := h i hi;exact ⟨u, h3, h4.p⟩
theorem Xx.s {w : World} {v : Value} {bs : List (List UInt8)} (h : Xx w v bs) : Yw (fun b => b < w.heap.size) w v bs := by
 by_cases h0 : bs = []
 ·subst h0;rcases h with h | ⟨b, off, cap, rfl, h1, hc⟩
  ·exact .inl h
  ·exact .inl ⟨_, cap, rfl, rfl, fun h => by cases h⟩
 ·rcases h with ⟨_, _, _, h1, _⟩ | ⟨b, off, cap, h2, h1, hc⟩
  ·exact absurd h1 h0
  ·refine .inr ⟨b, off, cap, ?_, h2, h1, fun i hi => ?_⟩
   ·obtain ⟨u, h3, _⟩ := hc 0 (List.length_pos_iff.2 h0);exact Zt h3
   ·obtain ⟨u, h3, h4⟩ := hc i hi;exact ⟨u, h3, Zi9 h4⟩
theorem Yw.mono {S S' : Nat → Prop} {w : World} {v : Value} {bs : List (List UInt8)} (h : Yw S w v bs) (hS : ∀ b, S b → S' b) : Yw S' w v bs := by
 rcases h with h | ⟨b, off, cap, hb, h1, h2, h⟩
 ·exact .inl h
 ·refine .inr ⟨b, off, cap, hS b hb, h1, h2, fun i hi => ?_⟩;obtain ⟨u, h3, h4⟩ := h i hi;exact ⟨u, h3, h4.mono hS⟩
theorem Yw.but {S : Nat → Prop} {g : Nat} {w w' : World} {v : Value} {bs : List (List UInt8)} (h : Yw S w v bs) (hg : Zq g w w') (hn : ¬ S g) : Yw S w' v bs := by
 rcases h with h | ⟨b, off, cap, hb, h1, h2, hc⟩
 ·exact .inl h
 ·refine .inr ⟨b, off, cap, hb, h1, h2, fun i hi => ?_⟩;obtain ⟨u, h3, h4⟩ := hc i hi;exact ⟨u, (hg.cell (Zt h3) (fun e => hn (by rw [← e]; exact hb))).trans h3, h4.but hg hn⟩
theorem Yw.grow {S : Nat → Prop} {w w' : World} {v : Value} {bs : List (List UInt8)} (h : Yw S w v bs) (hg : Zn w w') : Yw S w' v bs := by
 rcases h with h | ⟨b, off, cap, hb, h1, h2, hc⟩
 ·exact .inl h
 ·refine .inr ⟨b, off, cap, hb, h1, h2, fun i hi => ?_⟩;obtain ⟨u, h3, h4⟩ := hc i hi;exact ⟨u, (Below.cell hg (Zt h3)).trans h3, h4.grow hg⟩
theorem Yw.at {S : Nat → Prop} {w : World} {ao : Option Addr} {n cap : Nat} {bs : List (List UInt8)} (h : Yw S w (.slice ao n cap) bs) (i : Nat) (hi : i < bs.length) :
  ∃ b off, ao = some ⟨b, off, none⟩ ∧ ∃ u, w.cell? ⟨b, off + i, none⟩ = some u ∧ Zz S w u bs[i] := by
 rcases h with ⟨_, _, _, rfl, _⟩ | ⟨b, off, cp, _, h2, h3, h4⟩
 ·simp at hi
 ·cases h2;exact ⟨b, off, rfl, h4 i hi⟩
theorem Xh.p {S : Nat → Prop} {w : World} {v : Value} {ws : List Wr} (h : Xh S w v ws) : Vs w v ws := by
 rcases h with h | ⟨b, off, cap, _, h1, h2, h⟩
 ·exact .inl h
 ·refine .inr ⟨b, off, cap, h1, h2, fun i hi => ?_⟩;obtain ⟨h0, u, h3, h4⟩ := h i hi;exact ⟨h0, u, h3, h4.p⟩
theorem Vs.s {w : World} {v : Value} {ws : List Wr} (h : Vs w v ws) : Xh (fun b => b < w.heap.size) w v ws := by
 by_cases h0 : ws = []
 ·subst h0;rcases h with h | ⟨b, off, cap, rfl, h1, hc⟩
  ·exact .inl h
  ·exact .inl ⟨_, cap, rfl, rfl, fun h => by cases h⟩
 ·rcases h with ⟨_, _, _, h1, _⟩ | ⟨b, off, cap, h2, h1, hc⟩
  ·exact absurd h1 h0
  ·refine .inr ⟨b, off, cap, Zt (hc 0 (List.length_pos_iff.2 h0)).1, h2, h1, fun i hi => ?_⟩;obtain ⟨hq, u, h3, h4⟩ := hc i hi;exact ⟨hq, u, h3, Zi9 h4⟩
theorem Xh.mono {S S' : Nat → Prop} {w : World} {v : Value} {ws : List Wr} (h : Xh S w v ws) (hS : ∀ b, S b → S' b) : Xh S' w v ws := by
 rcases h with h | ⟨b, off, cap, hb, h1, h2, h⟩
 ·exact .inl h
 ·refine .inr ⟨b, off, cap, hS b hb, h1, h2, fun i hi => ?_⟩;obtain ⟨h0, u, h3, h4⟩ := h i hi;exact ⟨h0, u, h3, h4.mono hS⟩
theorem Xh.but {S : Nat → Prop} {g : Nat} {w w' : World} {v : Value} {ws : List Wr} (h : Xh S w v ws) (hg : Zq g w w') (hn : ¬ S g) : Xh S w' v ws := by
 rcases h with h | ⟨b, off, cap, hb, h1, h2, hc⟩
 ·exact .inl h
 ·refine .inr ⟨b, off, cap, hb, h1, h2, fun i hi => ?_⟩;obtain ⟨h0, u, h3, h4⟩ := hc i hi;exact ⟨(hg.cell (Zt h0) (fun e => hn (by rw [← e]; exact hb))).trans h0, u, (hg.cell (Zt h3) (fun e => hn (by rw [← e]; exact hb))).trans h3, h4.but hg hn⟩
theorem Xh.grow {S : Nat → Prop} {w w' : World} {v : Value} {ws : List Wr} (h : Xh S w v ws) (hg : Zn w w') : Xh S w' v ws := by
 rcases h with h | ⟨b, off, cap, hb, h1, h2, hc⟩
 ·exact .inl h
 ·refine .inr ⟨b, off, cap, hb, h1, h2, fun i hi => ?_⟩;obtain ⟨h0, u, h3, h4⟩ := hc i hi;exact ⟨(Below.cell hg (Zt h0)).trans h0, u, (Below.cell hg (Zt h3)).trans h3, h4.grow hg⟩
theorem Xh.at {S : Nat → Prop} {w : World} {ao : Option Addr} {n cap : Nat} {ws : List Wr} (h : Xh S w (.slice ao n cap) ws) (i : Nat) (hi : i < ws.length) :
  ∃ b off, ao = some ⟨b, off, none⟩ ∧ w.cell? ⟨b, off + i * 2, none⟩ = some (.int .i64 ws[i].1) ∧ ∃ u, w.cell? ⟨b, off + i * 2 + 1, none⟩ = some u ∧ Zz S w u ws[i].2 := by
 rcases h with ⟨_, _, _, rfl, _⟩ | ⟨b, off, cp, _, h2, h3, h4⟩
 ·simp at hi
 ·cases h2;exact ⟨b, off, rfl, h4 i hi⟩
theorem Zhd (S : Nat → Prop) (l : List UInt8) : Xp (fun v w => Zz S w v l) := fun _ _ _ hg h => Zz.grow h hg
theorem Vw {α : Type} [BEq α] [LawfulBEq α] {a b : α} (h : a ≠ b) : (a == b) = false := by simpa using h
end Go.Proofs.YtikhknkpndhakabGreat
