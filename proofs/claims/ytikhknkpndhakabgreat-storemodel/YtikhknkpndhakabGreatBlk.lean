import Derived.Test.YtikhknkpndhakabGreatBRead
set_option maxHeartbeats 8000000
namespace Go.Proofs.YtikhknkpndhakabGreat
set_option maxRecDepth 100000
open Go.RowKit
open Plain Reg
theorem Zja (c : UInt8) : lo (c.toNat : Int) = c := by
 refine UInt8.toNat_inj.1 ?_;have := K2 (c.toNat : Int);have hc : c.toNat < 256 := UInt8.toNat_lt _;omega
theorem Zao (n : Int) (h0 : 0 ≤ n) (h1 : n ≤ 255) : ((lo n).toNat : Int) = n := by rw [K2]; omega
theorem Zwt (x y : UInt8) : hi ((x.toNat : Int) * 256 + (y.toNat : Int)) = x := by
 have hx : x.toNat < 256 := UInt8.toNat_lt _;have hy : y.toNat < 256 := UInt8.toNat_lt _;exact ((Zcw x y _ (by omega) (by omega)).1 rfl).1
theorem Zws (x y : UInt8) : lo ((x.toNat : Int) * 256 + (y.toNat : Int)) = y := by
 have hx : x.toNat < 256 := UInt8.toNat_lt _;have hy : y.toNat < 256 := UInt8.toNat_lt _;exact ((Zcw x y _ (by omega) (by omega)).1 rfl).2
theorem Zwf (r : Rec) (a : Int) : at' (blk r a) 0 = lo r.kind := rfl
theorem Zwe (r : Rec) (a : Int) : at' (blk r a) 1 = lo a := rfl
theorem Zwd (r : Rec) (a : Int) : at' (blk r a) 2 = lo r.key := rfl
theorem Zwc (r : Rec) (a : Int) : at' (blk r a) 3 = hi r.ver := rfl
theorem Zwb (r : Rec) (a : Int) : at' (blk r a) 4 = lo r.ver := rfl
theorem Zjp (r : Rec) (a : Int) : at' (blk r a) 5 = lo (r.data.length : Int) := rfl
theorem Zl1 (r : Rec) (a : Int) : (blk r a).drop 6 = r.data ++ (List.replicate (8 - r.data.length) 0 ++ [hi (Xa (Zav r a)), lo (Xa (Zav r a))]) := by
 show (r.data ++ List.replicate (8 - r.data.length) 0) ++ _ = _;rw [List.append_assoc]
theorem Zow (r : Rec) (a : Int) (h : Z9 r = 0) : Ys (blk r a) = r := by
 obtain ⟨k0, k1, y0, y1, n0, n1, hl⟩ := Vc h;unfold Ys;rw [Zwf, Zwd, Zwc, Zwb, Zjp, Zl1];have e1 := Zao r.kind (by omega) (by omega);have e2 := Zao r.key (by omega) (by omega);have e3 := Zao (r.data.length : Int) (by omega) (by omega);have e4 : ((hi r.ver).toNat : Int) * 256 + ((lo r.ver).toNat : Int) = r.ver := by rw [Zgp, K2]; omega
 have e5 : (lo (r.data.length : Int)).toNat = r.data.length := by omega
 rw [e1, e2, e4, e5, List.take_left' rfl]
theorem Zsr (r : Rec) (a : Int) (h : Z9 r = 0) : Y5 (Q8 (blk r a)) = true := by
 obtain ⟨k0, k1, y0, y1, n0, n1, hl⟩ := Vc h;have e3 := Zao (r.data.length : Int) (by omega) (by omega);have e5 : (lo (r.data.length : Int)).toNat = r.data.length := by omega
 unfold Q8;rw [Zjp, e5, ← List.drop_drop, Zl1, List.drop_left' rfl, List.take_left' (by simp)];unfold Y5;rw [List.all_eq_true];intro c hc;simp [List.eq_of_mem_replicate hc]
theorem Zmp (r : Rec) (a : Int) (h : Z9 r = 0) (h0 : 0 ≤ a) (h1 : a ≤ 255) : spoilt (blk r a) a = 0 := by
 obtain ⟨k0, k1, y0, y1, n0, n1, hl⟩ := Vc h;have e1 := Zao a h0 h1;have e3 := Zao (r.data.length : Int) (by omega) (by omega);unfold spoilt;rw [if_neg (by rw [Qh r a hl]; simp), if_neg (by unfold blk; rw [Zfr]; simp), if_neg (by rw [Zwe, e1]; simp), if_neg (by rw [Zjp]; omega), if_neg (by rw [Zsr r a h]; simp)]
theorem Zkp (r : Rec) (a : Int) (h : Z9 r = 0) (h0 : 0 ≤ a) (h1 : a ≤ 255) : Xz (blk r a) a = 0 ∧ Y1 (blk r a) a = r := by
 have e : Xz (blk r a) a = 0 := by unfold Xz; rw [if_pos (Zmp r a h h0 h1), Zow r a h]; exact h
 refine ⟨e, ?_⟩;unfold Y1;rw [if_pos e, Zow r a h]
theorem Zm8 {b : List UInt8} {a : Int} (h : Xz b a = 0) : spoilt b a = 0 ∧ Z9 (Ys b) = 0 ∧ Y1 b a = Ys b := by
 have hr : Y1 b a = Ys b := by unfold Y1; rw [if_pos h]
 unfold Xz at h;by_cases hs : spoilt b a = 0
 ·rw [if_pos hs] at h; exact ⟨hs, h, hr⟩
 ·rw [if_neg hs] at h; exact absurd h hs
theorem Zwv (b : List UInt8) (a : Int) (hs : spoilt b a = 0) : b.take 14 = Zav (Ys b) a := by
 obtain ⟨hl, hsl, hp, h8, hn⟩ := J0 hs;have hlen : ((b.drop 6).take (at' b 5).toNat).length = (at' b 5).toNat := by simp; omega
 have hz : Q8 b = List.replicate (8 - (at' b 5).toNat) 0 := by
  refine List.eq_replicate_iff.2 ⟨by unfold Q8; simp; omega, fun c hc => ?_⟩;unfold Y5 at hn;have := (List.all_eq_true.1 hn) c hc;simpa using this
 unfold Zav Ys;simp only [];rw [hlen, Zja, Zja, Zwt, Zws, Zja, ← hp, Zja, ← hz];have e : b.take 14 = [at' b 0, at' b 1, at' b 2, at' b 3, at' b 4, at' b 5] ++ (b.drop 6).take 8 := by
  match b, hl with
  | [x0, x1, x2, x3, x4, x5, x6, x7, x8, x9, x10, x11, x12, x13, x14, x15], _ => rfl
 rw [e]
 congr 1
 unfold Q8;rw [← List.drop_drop, ← List.take_add]
 congr 1
 omega
theorem Zl0 (b : List UInt8) (a : Int) (h : Xz b a = 0) : Z9 (Y1 b a) = 0 ∧ blk (Y1 b a) a = b := by
 obtain ⟨hs, hw, hr⟩ := Zm8 h;obtain ⟨hl, hsl, -, -, -⟩ := J0 hs;rw [hr];refine ⟨hw, ?_⟩;unfold blk;rw [← Zwv b a hs];have := Zfs b (by omega);rw [hsl, hl] at this;exact beq_iff_eq.1 this
theorem Zko (r : Rec) (a : Int) (n : Nat) (c : UInt8) (h : Z9 r = 0) (hn : n < (blk r a).length) (hne : (blk r a)[n] ≠ c) : Xz ((blk r a).set n c) a = 7 := by
 obtain ⟨k0, k1, y0, y1, n0, n1, hl⟩ := Vc h;have e : spoilt ((blk r a).set n c) a = 7 := by
  have hse : Xh ((blk r a).set n c) = false := Zka (Zav r a) n c hn hne;unfold spoilt;rw [if_neg (by rw [List.length_set, Qh r a hl]; simp), if_pos hse]
 unfold Xz;rw [e]; rfl
abbrev Wr := Int × List UInt8
structure Dk where
 blocks : List (List UInt8)
 late : List Wr
def X1 (w : World) (v : Value) (bs : List (List UInt8)) : Prop :=
 (∃ ao cap, v = .slice ao 0 cap ∧ bs = [] ∧ (ao = none → cap = 0)) ∨
 (∃ b off cap, v = .slice (some ⟨b, off, none⟩) bs.length cap ∧ bs.length ≤ cap ∧ ∀ (i : Nat) (h : i < bs.length), ∃ u, w.cell? ⟨b, off + i, none⟩ = some u ∧ Bytes w u bs[i])
def Vv (w : World) (v : Value) (ws : List Wr) : Prop :=
 (∃ ao cap, v = .slice ao 0 cap ∧ ws = [] ∧ (ao = none → cap = 0)) ∨
 (∃ b off cap, v = .slice (some ⟨b, off, none⟩) ws.length cap ∧ ws.length ≤ cap ∧ ∀ (i : Nat) (h : i < ws.length), w.cell? ⟨b, off + i * 2, none⟩ = some (.int .i64 ws[i].1) ∧ ∃ u, w.cell? ⟨b, off + i * 2 + 1, none⟩ = some u ∧ Bytes w u ws[i].2)
theorem X1.grow {w w' : World} {v : Value} {bs : List (List UInt8)} (h : X1 w v bs) (hg : Zo w w') : X1 w' v bs := by
 rcases h with h | ⟨b, off, cap, rfl, h1, hc⟩
 ·exact .inl h
 ·refine .inr ⟨b, off, cap, rfl, h1, fun i hi => ?_⟩;obtain ⟨u, h2, h3⟩ := hc i hi;exact ⟨u, (Below.cell hg (Zv h2)).trans h2, Z1 h3 hg⟩
theorem Vv.grow {w w' : World} {v : Value} {ws : List Wr} (h : Vv w v ws) (hg : Zo w w') : Vv w' v ws := by
 rcases h with h | ⟨b, off, cap, rfl, h1, hc⟩
 ·exact .inl h
 ·refine .inr ⟨b, off, cap, rfl, h1, fun i hi => ?_⟩;obtain ⟨h0, u, h2, h3⟩ := hc i hi;exact ⟨(Below.cell hg (Zv h0)).trans h0, u, (Below.cell hg (Zv h2)).trans h2, Z1 h3 hg⟩
theorem X1.form {w : World} {v : Value} {bs : List (List UInt8)} (h : X1 w v bs) : ∃ ao cap, v = .slice ao bs.length cap := by
 rcases h with ⟨ao, cap, rfl, rfl, _⟩ | ⟨b, off, cap, rfl, _⟩
 ·exact ⟨ao, cap, rfl⟩
 ·exact ⟨_, cap, rfl⟩
theorem Vv.form {w : World} {v : Value} {ws : List Wr} (h : Vv w v ws) : ∃ ao cap, v = .slice ao ws.length cap := by
 rcases h with ⟨ao, cap, rfl, rfl, _⟩ | ⟨b, off, cap, rfl, _⟩
 ·exact ⟨ao, cap, rfl⟩
 ·exact ⟨_, cap, rfl⟩
theorem X1.at {w : World} {ao : Option Addr} {n cap : Nat} {bs : List (List UInt8)} (h : X1 w (.slice ao n cap) bs) (i : Nat) (hi : i < bs.length) :
  ∃ b off, ao = some ⟨b, off, none⟩ ∧ ∃ u, w.cell? ⟨b, off + i, none⟩ = some u ∧ Bytes w u bs[i] := by
 rcases h with ⟨_, _, _, rfl, _⟩ | ⟨b, off, cp, h2, h3, h4⟩
 ·simp at hi
 ·cases h2;exact ⟨b, off, rfl, h4 i hi⟩
theorem Vv.at {w : World} {ao : Option Addr} {n cap : Nat} {ws : List Wr} (h : Vv w (.slice ao n cap) ws) (i : Nat) (hi : i < ws.length) :
  ∃ b off, ao = some ⟨b, off, none⟩ ∧ w.cell? ⟨b, off + i * 2, none⟩ = some (.int .i64 ws[i].1) ∧ ∃ u, w.cell? ⟨b, off + i * 2 + 1, none⟩ = some u ∧ Bytes w u ws[i].2 := by
 rcases h with ⟨_, _, _, rfl, _⟩ | ⟨b, off, cp, h2, h3, h4⟩
 ·simp at hi
 ·cases h2;exact ⟨b, off, rfl, h4 i hi⟩
def Zz (S : Nat → Prop) (w : World) (v : Value) (l : List UInt8) : Prop :=
 (∃ ao cap, v = .slice ao 0 cap ∧ l = [] ∧ (ao = none → cap = 0)) ∨
 (∃ b off cap, S b ∧ v = .slice (some ⟨b, off, none⟩) l.length cap ∧ l.length ≤ cap ∧ ∀ (i : Nat) (h : i < l.length), w.cell? ⟨b, off + i, none⟩ = some (.int .u8 (l[i].toNat : Int)))
def Yx (S : Nat → Prop) (w : World) (v : Value) (bs : List (List UInt8)) : Prop :=
 (∃ ao cap, v = .slice ao 0 cap ∧ bs = [] ∧ (ao = none → cap = 0)) ∨
 (∃ b off cap, S b ∧ v = .slice (some ⟨b, off, none⟩) bs.length cap ∧ bs.length ≤ cap ∧ ∀ (i : Nat) (h : i < bs.length), ∃ u, w.cell? ⟨b, off + i, none⟩ = some u ∧ Zz S w u bs[i])
def Xm (S : Nat → Prop) (w : World) (v : Value) (ws : List Wr) : Prop :=
 (∃ ao cap, v = .slice ao 0 cap ∧ ws = [] ∧ (ao = none → cap = 0)) ∨
 (∃ b off cap, S b ∧ v = .slice (some ⟨b, off, none⟩) ws.length cap ∧ ws.length ≤ cap ∧ ∀ (i : Nat) (h : i < ws.length), w.cell? ⟨b, off + i * 2, none⟩ = some (.int .i64 ws[i].1) ∧ ∃ u, w.cell? ⟨b, off + i * 2 + 1, none⟩ = some u ∧ Zz S w u ws[i].2)
def Zw (S : Nat → Prop) (B : Nat) : Nat → Prop := fun b => S b ∨ B ≤ b
theorem Vz {S : Nat → Prop} {B : Nat} : ∀ b, S b → Zw S B b := fun _ h => .inl h
theorem Z6 {S : Nat → Prop} {B B' : Nat} (h : B ≤ B') : ∀ b, Zw S B' b → Zw S B b := fun _ hb => Xs hb (fun x => x) (fun x => Nat.le_trans h x)
theorem Zz.p {S : Nat → Prop} {w : World} {v : Value} {l : List UInt8} (h : Zz S w v l) : Bytes w v l := by
 rcases h with h | ⟨b, off, cap, _, h⟩
 ·exact .inl h
 ·exact .inr ⟨b, off, cap, h⟩
theorem Zds {w : World} {v : Value} {l : List UInt8} (h : Bytes w v l) : Zz (fun b => b < w.heap.size) w v l := by
 by_cases h0 : l = []
 ·subst h0;rcases h with h | ⟨b, off, cap, rfl, h1, hc⟩
  ·exact .inl h
  ·exact .inl ⟨_, cap, rfl, rfl, fun h => by cases h⟩
 ·rcases h with ⟨_, _, _, h1, _⟩ | ⟨b, off, cap, h2, h1, hc⟩
  ·exact absurd h1 h0
  ·exact .inr ⟨b, off, cap, Zv (hc 0 (List.length_pos_iff.2 h0)), h2, h1, hc⟩
theorem Zbu {w : World} {base : Nat} {v : Value} {l : List UInt8} (S : Nat → Prop) (h : w.ownsRow base 5 1 v l.length (l.map bv)) : Zz (Zw S base) w v l := by
 rcases h.2 with ⟨rfl, h0⟩ | ⟨g, cap, cur, rfl, hb, hh, h1, h2, h3, h4⟩
 ·exact .inl ⟨none, 0, rfl, List.eq_nil_of_length_eq_zero h0, fun _ => rfl⟩
 ·refine .inr ⟨g, 0, cap, .inr hb, rfl, h1, fun i hi => ?_⟩;have := h.cellAt i (by omega);rw [Nat.zero_add, this];simp [hi, bv]
theorem Zz.mono {S S' : Nat → Prop} {w : World} {v : Value} {l : List UInt8} (h : Zz S w v l) (hS : ∀ b, S b → S' b) : Zz S' w v l := by
 rcases h with h | ⟨b, off, cap, hb, h⟩
 ·exact .inl h
 ·exact .inr ⟨b, off, cap, hS b hb, h⟩
theorem Zz.but {S : Nat → Prop} {g : Nat} {w w' : World} {v : Value} {l : List UInt8} (h : Zz S w v l) (hg : Zp g w w') (hn : ¬ S g) : Zz S w' v l := by
 rcases h with h | ⟨b, off, cap, hb, h1, h2, hc⟩
 ·exact .inl h
 ·refine .inr ⟨b, off, cap, hb, h1, h2, fun i hi => ?_⟩;have h3 := hc i hi;exact (hg.cell (Zv h3) (fun e => hn (by rw [← e]; exact hb))).trans h3
theorem Zz.grow {S : Nat → Prop} {w w' : World} {v : Value} {l : List UInt8} (h : Zz S w v l) (hg : Zo w w') : Zz S w' v l := by
 rcases h with h | ⟨b, off, cap, hb, h1, h2, hc⟩
 ·exact .inl h
 ·exact .inr ⟨b, off, cap, hb, h1, h2, fun i hi => (Below.cell hg (Zv (hc i hi))).trans (hc i hi)⟩
theorem Yx.p {S : Nat → Prop} {w : World} {v : Value} {bs : List (List UInt8)} (h : Yx S w v bs) : X1 w v bs := by
 rcases h with h | ⟨b, off, cap, _, h1, h2, h⟩
 ·exact .inl h
 ·refine .inr ⟨b, off, cap, h1, h2, fun i hi => ?_⟩;obtain ⟨u, h3, h4⟩ := h i hi;exact ⟨u, h3, h4.p⟩
theorem X1.s {w : World} {v : Value} {bs : List (List UInt8)} (h : X1 w v bs) : Yx (fun b => b < w.heap.size) w v bs := by
 by_cases h0 : bs = []
 ·subst h0;rcases h with h | ⟨b, off, cap, rfl, h1, hc⟩
  ·exact .inl h
  ·exact .inl ⟨_, cap, rfl, rfl, fun h => by cases h⟩
 ·rcases h with ⟨_, _, _, h1, _⟩ | ⟨b, off, cap, h2, h1, hc⟩
  ·exact absurd h1 h0
  ·refine .inr ⟨b, off, cap, ?_, h2, h1, fun i hi => ?_⟩
   ·obtain ⟨u, h3, _⟩ := hc 0 (List.length_pos_iff.2 h0);exact Zv h3
   ·obtain ⟨u, h3, h4⟩ := hc i hi;exact ⟨u, h3, Zds h4⟩
theorem Yx.mono {S S' : Nat → Prop} {w : World} {v : Value} {bs : List (List UInt8)} (h : Yx S w v bs) (hS : ∀ b, S b → S' b) : Yx S' w v bs := by
 rcases h with h | ⟨b, off, cap, hb, h1, h2, h⟩
 ·exact .inl h
 ·refine .inr ⟨b, off, cap, hS b hb, h1, h2, fun i hi => ?_⟩;obtain ⟨u, h3, h4⟩ := h i hi;exact ⟨u, h3, h4.mono hS⟩
theorem Yx.but {S : Nat → Prop} {g : Nat} {w w' : World} {v : Value} {bs : List (List UInt8)} (h : Yx S w v bs) (hg : Zp g w w') (hn : ¬ S g) : Yx S w' v bs := by
 rcases h with h | ⟨b, off, cap, hb, h1, h2, hc⟩
 ·exact .inl h
 ·refine .inr ⟨b, off, cap, hb, h1, h2, fun i hi => ?_⟩;obtain ⟨u, h3, h4⟩ := hc i hi;exact ⟨u, (hg.cell (Zv h3) (fun e => hn (by rw [← e]; exact hb))).trans h3, h4.but hg hn⟩
theorem Yx.grow {S : Nat → Prop} {w w' : World} {v : Value} {bs : List (List UInt8)} (h : Yx S w v bs) (hg : Zo w w') : Yx S w' v bs := by
 rcases h with h | ⟨b, off, cap, hb, h1, h2, hc⟩
 ·exact .inl h
 ·refine .inr ⟨b, off, cap, hb, h1, h2, fun i hi => ?_⟩;obtain ⟨u, h3, h4⟩ := hc i hi;exact ⟨u, (Below.cell hg (Zv h3)).trans h3, h4.grow hg⟩
theorem Yx.at {S : Nat → Prop} {w : World} {ao : Option Addr} {n cap : Nat} {bs : List (List UInt8)} (h : Yx S w (.slice ao n cap) bs) (i : Nat) (hi : i < bs.length) :
  ∃ b off, ao = some ⟨b, off, none⟩ ∧ ∃ u, w.cell? ⟨b, off + i, none⟩ = some u ∧ Zz S w u bs[i] := by
 rcases h with ⟨_, _, _, rfl, _⟩ | ⟨b, off, cp, _, h2, h3, h4⟩
 ·simp at hi
 ·cases h2;exact ⟨b, off, rfl, h4 i hi⟩
theorem Xm.p {S : Nat → Prop} {w : World} {v : Value} {ws : List Wr} (h : Xm S w v ws) : Vv w v ws := by
 rcases h with h | ⟨b, off, cap, _, h1, h2, h⟩
 ·exact .inl h
 ·refine .inr ⟨b, off, cap, h1, h2, fun i hi => ?_⟩;obtain ⟨h0, u, h3, h4⟩ := h i hi;exact ⟨h0, u, h3, h4.p⟩
theorem Vv.s {w : World} {v : Value} {ws : List Wr} (h : Vv w v ws) : Xm (fun b => b < w.heap.size) w v ws := by
 by_cases h0 : ws = []
 ·subst h0;rcases h with h | ⟨b, off, cap, rfl, h1, hc⟩
  ·exact .inl h
  ·exact .inl ⟨_, cap, rfl, rfl, fun h => by cases h⟩
 ·rcases h with ⟨_, _, _, h1, _⟩ | ⟨b, off, cap, h2, h1, hc⟩
  ·exact absurd h1 h0
  ·refine .inr ⟨b, off, cap, Zv (hc 0 (List.length_pos_iff.2 h0)).1, h2, h1, fun i hi => ?_⟩;obtain ⟨hq, u, h3, h4⟩ := hc i hi;exact ⟨hq, u, h3, Zds h4⟩
theorem Xm.mono {S S' : Nat → Prop} {w : World} {v : Value} {ws : List Wr} (h : Xm S w v ws) (hS : ∀ b, S b → S' b) : Xm S' w v ws := by
 rcases h with h | ⟨b, off, cap, hb, h1, h2, h⟩
 ·exact .inl h
 ·refine .inr ⟨b, off, cap, hS b hb, h1, h2, fun i hi => ?_⟩;obtain ⟨h0, u, h3, h4⟩ := h i hi;exact ⟨h0, u, h3, h4.mono hS⟩
theorem Xm.but {S : Nat → Prop} {g : Nat} {w w' : World} {v : Value} {ws : List Wr} (h : Xm S w v ws) (hg : Zp g w w') (hn : ¬ S g) : Xm S w' v ws := by
 rcases h with h | ⟨b, off, cap, hb, h1, h2, hc⟩
 ·exact .inl h
 ·refine .inr ⟨b, off, cap, hb, h1, h2, fun i hi => ?_⟩;obtain ⟨h0, u, h3, h4⟩ := hc i hi;exact ⟨(hg.cell (Zv h0) (fun e => hn (by rw [← e]; exact hb))).trans h0, u, (hg.cell (Zv h3) (fun e => hn (by rw [← e]; exact hb))).trans h3, h4.but hg hn⟩
theorem Xm.grow {S : Nat → Prop} {w w' : World} {v : Value} {ws : List Wr} (h : Xm S w v ws) (hg : Zo w w') : Xm S w' v ws := by
 rcases h with h | ⟨b, off, cap, hb, h1, h2, hc⟩
 ·exact .inl h
 ·refine .inr ⟨b, off, cap, hb, h1, h2, fun i hi => ?_⟩;obtain ⟨h0, u, h3, h4⟩ := hc i hi;exact ⟨(Below.cell hg (Zv h0)).trans h0, u, (Below.cell hg (Zv h3)).trans h3, h4.grow hg⟩
theorem Xm.at {S : Nat → Prop} {w : World} {ao : Option Addr} {n cap : Nat} {ws : List Wr} (h : Xm S w (.slice ao n cap) ws) (i : Nat) (hi : i < ws.length) :
  ∃ b off, ao = some ⟨b, off, none⟩ ∧ w.cell? ⟨b, off + i * 2, none⟩ = some (.int .i64 ws[i].1) ∧ ∃ u, w.cell? ⟨b, off + i * 2 + 1, none⟩ = some u ∧ Zz S w u ws[i].2 := by
 rcases h with ⟨_, _, _, rfl, _⟩ | ⟨b, off, cp, _, h2, h3, h4⟩
 ·simp at hi
 ·cases h2;exact ⟨b, off, rfl, h4 i hi⟩
theorem Zhx (S : Nat → Prop) (l : List UInt8) : Xr (fun v w => Zz S w v l) := fun _ _ _ hg h => Zz.grow h hg
theorem V1 {α : Type} [BEq α] [LawfulBEq α] {a b : α} (h : a ≠ b) : (a == b) = false := by simpa using h
end Go.Proofs.YtikhknkpndhakabGreat
