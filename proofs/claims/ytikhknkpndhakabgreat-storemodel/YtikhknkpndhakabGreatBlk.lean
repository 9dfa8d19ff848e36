import Derived.Test.YtikhknkpndhakabGreatBRead
set_option maxHeartbeats 8000000
namespace Go.Proofs.YtikhknkpndhakabGreat
set_option maxRecDepth 100000
open Go.RowKit
open Plain Reg
theorem Zi9 (c : UInt8) : lo (c.toNat : Int) = c := by
 refine UInt8.toNat_inj.1 ?_;have := K1 (c.toNat : Int);have hc : c.toNat < 256 := UInt8.toNat_lt _;omega
theorem Zao (n : Int) (h0 : 0 ≤ n) (h1 : n ≤ 255) : ((lo n).toNat : Int) = n := by rw [K1]; omega
theorem Zwh (x y : UInt8) : hi ((x.toNat : Int) * 256 + (y.toNat : Int)) = x := by
 have hx : x.toNat < 256 := UInt8.toNat_lt _;have hy : y.toNat < 256 := UInt8.toNat_lt _;exact ((Zcv x y _ (by omega) (by omega)).1 rfl).1
theorem Zwg (x y : UInt8) : lo ((x.toNat : Int) * 256 + (y.toNat : Int)) = y := by
 have hx : x.toNat < 256 := UInt8.toNat_lt _;have hy : y.toNat < 256 := UInt8.toNat_lt _;exact ((Zcv x y _ (by omega) (by omega)).1 rfl).2
theorem Zv4 (r : Rec) (a : Int) : at' (blk r a) 0 = lo r.kind := rfl
theorem Zv3 (r : Rec) (a : Int) : at' (blk r a) 1 = lo a := rfl
theorem Zv2 (r : Rec) (a : Int) : at' (blk r a) 2 = lo r.key := rfl
theorem Zv1 (r : Rec) (a : Int) : at' (blk r a) 3 = hi r.ver := rfl
theorem Zv0 (r : Rec) (a : Int) : at' (blk r a) 4 = lo r.ver := rfl
theorem Zjo (r : Rec) (a : Int) : at' (blk r a) 5 = lo (r.data.length : Int) := rfl
theorem Zlu (r : Rec) (a : Int) : (blk r a).drop 6 = r.data ++ (List.replicate (8 - r.data.length) 0 ++ [hi (Y8 (Zav r a)), lo (Y8 (Zav r a))]) := by
 show (r.data ++ List.replicate (8 - r.data.length) 0) ++ _ = _;rw [List.append_assoc]
theorem Zon (r : Rec) (a : Int) (h : Z9 r = 0) : Yr (blk r a) = r := by
 obtain ⟨k0, k1, y0, y1, n0, n1, hl⟩ := Vb h;unfold Yr;rw [Zv4, Zv2, Zv1, Zv0, Zjo, Zlu];have e1 := Zao r.kind (by omega) (by omega);have e2 := Zao r.key (by omega) (by omega);have e3 := Zao (r.data.length : Int) (by omega) (by omega);have e4 : ((hi r.ver).toNat : Int) * 256 + ((lo r.ver).toNat : Int) = r.ver := by rw [Zgo, K1]; omega
 have e5 : (lo (r.data.length : Int)).toNat = r.data.length := by omega
 rw [e1, e2, e4, e5, List.take_left' rfl]
theorem Zsk (r : Rec) (a : Int) (h : Z9 r = 0) : Y4 (Q5 (blk r a)) = true := by
 obtain ⟨k0, k1, y0, y1, n0, n1, hl⟩ := Vb h;have e3 := Zao (r.data.length : Int) (by omega) (by omega);have e5 : (lo (r.data.length : Int)).toNat = r.data.length := by omega
 unfold Q5;rw [Zjo, e5, ← List.drop_drop, Zlu, List.drop_left' rfl, List.take_left' (by simp)];unfold Y4;rw [List.all_eq_true];intro c hc;simp [List.eq_of_mem_replicate hc]
theorem Zmf (r : Rec) (a : Int) (h : Z9 r = 0) (h0 : 0 ≤ a) (h1 : a ≤ 255) : spoilt (blk r a) a = 0 := by
 obtain ⟨k0, k1, y0, y1, n0, n1, hl⟩ := Vb h;have e1 := Zao a h0 h1;have e3 := Zao (r.data.length : Int) (by omega) (by omega);unfold spoilt;rw [if_neg (by rw [Qg r a hl]; simp), if_neg (by unfold blk; rw [Zfq]; simp), if_neg (by rw [Zv3, e1]; simp), if_neg (by rw [Zjo]; omega), if_neg (by rw [Zsk r a h]; simp)]
theorem Zkm (r : Rec) (a : Int) (h : Z9 r = 0) (h0 : 0 ≤ a) (h1 : a ≤ 255) : Xy (blk r a) a = 0 ∧ Y0 (blk r a) a = r := by
 have e : Xy (blk r a) a = 0 := by unfold Xy; rw [if_pos (Zmf r a h h0 h1), Zon r a h]; exact h
 refine ⟨e, ?_⟩;unfold Y0;rw [if_pos e, Zon r a h]
theorem Zmy {b : List UInt8} {a : Int} (h : Xy b a = 0) : spoilt b a = 0 ∧ Z9 (Yr b) = 0 ∧ Y0 b a = Yr b := by
 have hr : Y0 b a = Yr b := by unfold Y0; rw [if_pos h]
 unfold Xy at h;by_cases hs : spoilt b a = 0
 ·rw [if_pos hs] at h; exact ⟨hs, h, hr⟩
 ·rw [if_neg hs] at h; exact absurd h hs
theorem Zwj (b : List UInt8) (a : Int) (hs : spoilt b a = 0) : b.take 14 = Zav (Yr b) a := by
 obtain ⟨hl, hsl, hp, h8, hn⟩ := J0 hs;have hlen : ((b.drop 6).take (at' b 5).toNat).length = (at' b 5).toNat := by simp; omega
 have hz : Q5 b = List.replicate (8 - (at' b 5).toNat) 0 := by
  refine List.eq_replicate_iff.2 ⟨by unfold Q5; simp; omega, fun c hc => ?_⟩;unfold Y4 at hn;have := (List.all_eq_true.1 hn) c hc;simpa using this
 unfold Zav Yr;simp only [];rw [hlen, Zi9, Zi9, Zwh, Zwg, Zi9, ← hp, Zi9, ← hz];have e : b.take 14 = [at' b 0, at' b 1, at' b 2, at' b 3, at' b 4, at' b 5] ++ (b.drop 6).take 8 := by
  match b, hl with
  | [x0, x1, x2, x3, x4, x5, x6, x7, x8, x9, x10, x11, x12, x13, x14, x15], _ => rfl
 rw [e]
 congr 1
 unfold Q5;rw [← List.drop_drop, ← List.take_add]
 congr 1
 omega
theorem Zlt (b : List UInt8) (a : Int) (h : Xy b a = 0) : Z9 (Y0 b a) = 0 ∧ blk (Y0 b a) a = b := by
 obtain ⟨hs, hw, hr⟩ := Zmy h;obtain ⟨hl, hsl, -, -, -⟩ := J0 hs;rw [hr];refine ⟨hw, ?_⟩;unfold blk;rw [← Zwj b a hs];have := Zfr b (by omega);rw [hsl, hl] at this;exact beq_iff_eq.1 this
theorem Zkl (r : Rec) (a : Int) (n : Nat) (c : UInt8) (h : Z9 r = 0) (hn : n < (blk r a).length) (hne : (blk r a)[n] ≠ c) : Xy ((blk r a).set n c) a = 7 := by
 obtain ⟨k0, k1, y0, y1, n0, n1, hl⟩ := Vb h;have e : spoilt ((blk r a).set n c) a = 7 := by
  have hse : Xe ((blk r a).set n c) = false := Zj8 (Zav r a) n c hn hne;unfold spoilt;rw [if_neg (by rw [List.length_set, Qg r a hl]; simp), if_pos hse]
 unfold Xy;rw [e]; rfl
abbrev Wr := Int × List UInt8
structure Dk where
 blocks : List (List UInt8)
 late : List Wr
def X0 (w : World) (v : Value) (bs : List (List UInt8)) : Prop :=
 (∃ ao cap, v = .slice ao 0 cap ∧ bs = [] ∧ (ao = none → cap = 0)) ∨
 (∃ b off cap, v = .slice (some ⟨b, off, none⟩) bs.length cap ∧ bs.length ≤ cap ∧ ∀ (i : Nat) (h : i < bs.length), ∃ u, w.cell? ⟨b, off + i, none⟩ = some u ∧ Bytes w u bs[i])
def Vu (w : World) (v : Value) (ws : List Wr) : Prop :=
 (∃ ao cap, v = .slice ao 0 cap ∧ ws = [] ∧ (ao = none → cap = 0)) ∨
 (∃ b off cap, v = .slice (some ⟨b, off, none⟩) ws.length cap ∧ ws.length ≤ cap ∧ ∀ (i : Nat) (h : i < ws.length), w.cell? ⟨b, off + i * 2, none⟩ = some (.int .i64 ws[i].1) ∧ ∃ u, w.cell? ⟨b, off + i * 2 + 1, none⟩ = some u ∧ Bytes w u ws[i].2)
theorem X0.grow {w w' : World} {v : Value} {bs : List (List UInt8)} (h : X0 w v bs) (hg : Zo w w') : X0 w' v bs := by
 rcases h with h | ⟨b, off, cap, rfl, h1, hc⟩
 ·exact .inl h
 ·refine .inr ⟨b, off, cap, rfl, h1, fun i hi => ?_⟩;obtain ⟨u, h2, h3⟩ := hc i hi;exact ⟨u, (Below.cell hg (Zt h2)).trans h2, Z1 h3 hg⟩
theorem Vu.grow {w w' : World} {v : Value} {ws : List Wr} (h : Vu w v ws) (hg : Zo w w') : Vu w' v ws := by
 rcases h with h | ⟨b, off, cap, rfl, h1, hc⟩
 ·exact .inl h
 ·refine .inr ⟨b, off, cap, rfl, h1, fun i hi => ?_⟩;obtain ⟨h0, u, h2, h3⟩ := hc i hi;exact ⟨(Below.cell hg (Zt h0)).trans h0, u, (Below.cell hg (Zt h2)).trans h2, Z1 h3 hg⟩
theorem X0.form {w : World} {v : Value} {bs : List (List UInt8)} (h : X0 w v bs) : ∃ ao cap, v = .slice ao bs.length cap := by
 rcases h with ⟨ao, cap, rfl, rfl, _⟩ | ⟨b, off, cap, rfl, _⟩
 ·exact ⟨ao, cap, rfl⟩
 ·exact ⟨_, cap, rfl⟩
theorem Vu.form {w : World} {v : Value} {ws : List Wr} (h : Vu w v ws) : ∃ ao cap, v = .slice ao ws.length cap := by
 rcases h with ⟨ao, cap, rfl, rfl, _⟩ | ⟨b, off, cap, rfl, _⟩
 ·exact ⟨ao, cap, rfl⟩
 ·exact ⟨_, cap, rfl⟩
theorem X0.at {w : World} {ao : Option Addr} {n cap : Nat} {bs : List (List UInt8)} (h : X0 w (.slice ao n cap) bs) (i : Nat) (hi : i < bs.length) :
  ∃ b off, ao = some ⟨b, off, none⟩ ∧ ∃ u, w.cell? ⟨b, off + i, none⟩ = some u ∧ Bytes w u bs[i] := by
 rcases h with ⟨_, _, _, rfl, _⟩ | ⟨b, off, cp, h2, h3, h4⟩
 ·simp at hi
 ·cases h2;exact ⟨b, off, rfl, h4 i hi⟩
theorem Vu.at {w : World} {ao : Option Addr} {n cap : Nat} {ws : List Wr} (h : Vu w (.slice ao n cap) ws) (i : Nat) (hi : i < ws.length) :
  ∃ b off, ao = some ⟨b, off, none⟩ ∧ w.cell? ⟨b, off + i * 2, none⟩ = some (.int .i64 ws[i].1) ∧ ∃ u, w.cell? ⟨b, off + i * 2 + 1, none⟩ = some u ∧ Bytes w u ws[i].2 := by
 rcases h with ⟨_, _, _, rfl, _⟩ | ⟨b, off, cp, h2, h3, h4⟩
 ·simp at hi
 ·cases h2;exact ⟨b, off, rfl, h4 i hi⟩
def Zy (S : Nat → Prop) (w : World) (v : Value) (l : List UInt8) : Prop :=
 (∃ ao cap, v = .slice ao 0 cap ∧ l = [] ∧ (ao = none → cap = 0)) ∨
 (∃ b off cap, S b ∧ v = .slice (some ⟨b, off, none⟩) l.length cap ∧ l.length ≤ cap ∧ ∀ (i : Nat) (h : i < l.length), w.cell? ⟨b, off + i, none⟩ = some (.int .u8 (l[i].toNat : Int)))
def Yw (S : Nat → Prop) (w : World) (v : Value) (bs : List (List UInt8)) : Prop :=
 (∃ ao cap, v = .slice ao 0 cap ∧ bs = [] ∧ (ao = none → cap = 0)) ∨
 (∃ b off cap, S b ∧ v = .slice (some ⟨b, off, none⟩) bs.length cap ∧ bs.length ≤ cap ∧ ∀ (i : Nat) (h : i < bs.length), ∃ u, w.cell? ⟨b, off + i, none⟩ = some u ∧ Zy S w u bs[i])
def Xl (S : Nat → Prop) (w : World) (v : Value) (ws : List Wr) : Prop :=
 (∃ ao cap, v = .slice ao 0 cap ∧ ws = [] ∧ (ao = none → cap = 0)) ∨
 (∃ b off cap, S b ∧ v = .slice (some ⟨b, off, none⟩) ws.length cap ∧ ws.length ≤ cap ∧ ∀ (i : Nat) (h : i < ws.length), w.cell? ⟨b, off + i * 2, none⟩ = some (.int .i64 ws[i].1) ∧ ∃ u, w.cell? ⟨b, off + i * 2 + 1, none⟩ = some u ∧ Zy S w u ws[i].2)
def Zu (S : Nat → Prop) (B : Nat) : Nat → Prop := fun b => S b ∨ B ≤ b
theorem Vx {S : Nat → Prop} {B : Nat} : ∀ b, S b → Zu S B b := fun _ h => .inl h
theorem Z6 {S : Nat → Prop} {B B' : Nat} (h : B ≤ B') : ∀ b, Zu S B' b → Zu S B b := fun _ hb => Xr hb (fun x => x) (fun x => Nat.le_trans h x)
theorem Zy.p {S : Nat → Prop} {w : World} {v : Value} {l : List UInt8} (h : Zy S w v l) : Bytes w v l := by
 rcases h with h | ⟨b, off, cap, _, h⟩
 ·exact .inl h
 ·exact .inr ⟨b, off, cap, h⟩
theorem Zdr {w : World} {v : Value} {l : List UInt8} (h : Bytes w v l) : Zy (fun b => b < w.heap.size) w v l := by
 by_cases h0 : l = []
 ·subst h0;rcases h with h | ⟨b, off, cap, rfl, h1, hc⟩
  ·exact .inl h
  ·exact .inl ⟨_, cap, rfl, rfl, fun h => by cases h⟩
 ·rcases h with ⟨_, _, _, h1, _⟩ | ⟨b, off, cap, h2, h1, hc⟩
  ·exact absurd h1 h0
  ·exact .inr ⟨b, off, cap, Zt (hc 0 (List.length_pos_iff.2 h0)), h2, h1, hc⟩
theorem Zbt {w : World} {base : Nat} {v : Value} {l : List UInt8} (S : Nat → Prop) (h : w.ownsRow base 5 1 v l.length (l.map bv)) : Zy (Zu S base) w v l := by
 rcases h.2 with ⟨rfl, h0⟩ | ⟨g, cap, cur, rfl, hb, hh, h1, h2, h3, h4⟩
 ·exact .inl ⟨none, 0, rfl, List.eq_nil_of_length_eq_zero h0, fun _ => rfl⟩
 ·refine .inr ⟨g, 0, cap, .inr hb, rfl, h1, fun i hi => ?_⟩;have := h.cellAt i (by omega);rw [Nat.zero_add, this];simp [hi, bv]
theorem Zy.mono {S S' : Nat → Prop} {w : World} {v : Value} {l : List UInt8} (h : Zy S w v l) (hS : ∀ b, S b → S' b) : Zy S' w v l := by
 rcases h with h | ⟨b, off, cap, hb, h⟩
 ·exact .inl h
 ·exact .inr ⟨b, off, cap, hS b hb, h⟩
theorem Zy.but {S : Nat → Prop} {g : Nat} {w w' : World} {v : Value} {l : List UInt8} (h : Zy S w v l) (hg : Zq g w w') (hn : ¬ S g) : Zy S w' v l := by
 rcases h with h | ⟨b, off, cap, hb, h1, h2, hc⟩
 ·exact .inl h
 ·refine .inr ⟨b, off, cap, hb, h1, h2, fun i hi => ?_⟩;have h3 := hc i hi;exact (hg.cell (Zt h3) (fun e => hn (by rw [← e]; exact hb))).trans h3
theorem Zy.grow {S : Nat → Prop} {w w' : World} {v : Value} {l : List UInt8} (h : Zy S w v l) (hg : Zo w w') : Zy S w' v l := by
 rcases h with h | ⟨b, off, cap, hb, h1, h2, hc⟩
 ·exact .inl h
 ·exact .inr ⟨b, off, cap, hb, h1, h2, fun i hi => (Below.cell hg (Zt (hc i hi))).trans (hc i hi)⟩
theorem Yw.p {S : Nat → Prop} {w : World} {v : Value} {bs : List (List UInt8)} (h : Yw S w v bs) : X0 w v bs := by
 rcases h with h | ⟨b, off, cap, _, h1, h2, h⟩
 ·exact .inl h
 ·refine .inr ⟨b, off, cap, h1, h2, fun i hi => ?_⟩;obtain ⟨u, h3, h4⟩ := h i hi;exact ⟨u, h3, h4.p⟩
theorem X0.s {w : World} {v : Value} {bs : List (List UInt8)} (h : X0 w v bs) : Yw (fun b => b < w.heap.size) w v bs := by
 by_cases h0 : bs = []
 ·subst h0;rcases h with h | ⟨b, off, cap, rfl, h1, hc⟩
  ·exact .inl h
  ·exact .inl ⟨_, cap, rfl, rfl, fun h => by cases h⟩
 ·rcases h with ⟨_, _, _, h1, _⟩ | ⟨b, off, cap, h2, h1, hc⟩
  ·exact absurd h1 h0
  ·refine .inr ⟨b, off, cap, ?_, h2, h1, fun i hi => ?_⟩
   ·obtain ⟨u, h3, _⟩ := hc 0 (List.length_pos_iff.2 h0);exact Zt h3
   ·obtain ⟨u, h3, h4⟩ := hc i hi;exact ⟨u, h3, Zdr h4⟩
theorem Yw.mono {S S' : Nat → Prop} {w : World} {v : Value} {bs : List (List UInt8)} (h : Yw S w v bs) (hS : ∀ b, S b → S' b) : Yw S' w v bs := by
 rcases h with h | ⟨b, off, cap, hb, h1, h2, h⟩
 ·exact .inl h
 ·refine .inr ⟨b, off, cap, hS b hb, h1, h2, fun i hi => ?_⟩;obtain ⟨u, h3, h4⟩ := h i hi;exact ⟨u, h3, h4.mono hS⟩
theorem Yw.but {S : Nat → Prop} {g : Nat} {w w' : World} {v : Value} {bs : List (List UInt8)} (h : Yw S w v bs) (hg : Zq g w w') (hn : ¬ S g) : Yw S w' v bs := by
 rcases h with h | ⟨b, off, cap, hb, h1, h2, hc⟩
 ·exact .inl h
 ·refine .inr ⟨b, off, cap, hb, h1, h2, fun i hi => ?_⟩;obtain ⟨u, h3, h4⟩ := hc i hi;exact ⟨u, (hg.cell (Zt h3) (fun e => hn (by rw [← e]; exact hb))).trans h3, h4.but hg hn⟩
theorem Yw.grow {S : Nat → Prop} {w w' : World} {v : Value} {bs : List (List UInt8)} (h : Yw S w v bs) (hg : Zo w w') : Yw S w' v bs := by
 rcases h with h | ⟨b, off, cap, hb, h1, h2, hc⟩
 ·exact .inl h
 ·refine .inr ⟨b, off, cap, hb, h1, h2, fun i hi => ?_⟩;obtain ⟨u, h3, h4⟩ := hc i hi;exact ⟨u, (Below.cell hg (Zt h3)).trans h3, h4.grow hg⟩
theorem Yw.at {S : Nat → Prop} {w : World} {ao : Option Addr} {n cap : Nat} {bs : List (List UInt8)} (h : Yw S w (.slice ao n cap) bs) (i : Nat) (hi : i < bs.length) :
  ∃ b off, ao = some ⟨b, off, none⟩ ∧ ∃ u, w.cell? ⟨b, off + i, none⟩ = some u ∧ Zy S w u bs[i] := by
 rcases h with ⟨_, _, _, rfl, _⟩ | ⟨b, off, cp, _, h2, h3, h4⟩
 ·simp at hi
 ·cases h2;exact ⟨b, off, rfl, h4 i hi⟩
theorem Xl.p {S : Nat → Prop} {w : World} {v : Value} {ws : List Wr} (h : Xl S w v ws) : Vu w v ws := by
 rcases h with h | ⟨b, off, cap, _, h1, h2, h⟩
 ·exact .inl h
 ·refine .inr ⟨b, off, cap, h1, h2, fun i hi => ?_⟩;obtain ⟨h0, u, h3, h4⟩ := h i hi;exact ⟨h0, u, h3, h4.p⟩
theorem Vu.s {w : World} {v : Value} {ws : List Wr} (h : Vu w v ws) : Xl (fun b => b < w.heap.size) w v ws := by
 by_cases h0 : ws = []
 ·subst h0;rcases h with h | ⟨b, off, cap, rfl, h1, hc⟩
  ·exact .inl h
  ·exact .inl ⟨_, cap, rfl, rfl, fun h => by cases h⟩
 ·rcases h with ⟨_, _, _, h1, _⟩ | ⟨b, off, cap, h2, h1, hc⟩
  ·exact absurd h1 h0
  ·refine .inr ⟨b, off, cap, Zt (hc 0 (List.length_pos_iff.2 h0)).1, h2, h1, fun i hi => ?_⟩;obtain ⟨hq, u, h3, h4⟩ := hc i hi;exact ⟨hq, u, h3, Zdr h4⟩
theorem Xl.mono {S S' : Nat → Prop} {w : World} {v : Value} {ws : List Wr} (h : Xl S w v ws) (hS : ∀ b, S b → S' b) : Xl S' w v ws := by
 rcases h with h | ⟨b, off, cap, hb, h1, h2, h⟩
 ·exact .inl h
 ·refine .inr ⟨b, off, cap, hS b hb, h1, h2, fun i hi => ?_⟩;obtain ⟨h0, u, h3, h4⟩ := h i hi;exact ⟨h0, u, h3, h4.mono hS⟩
theorem Xl.but {S : Nat → Prop} {g : Nat} {w w' : World} {v : Value} {ws : List Wr} (h : Xl S w v ws) (hg : Zq g w w') (hn : ¬ S g) : Xl S w' v ws := by
 rcases h with h | ⟨b, off, cap, hb, h1, h2, hc⟩
 ·exact .inl h
 ·refine .inr ⟨b, off, cap, hb, h1, h2, fun i hi => ?_⟩;obtain ⟨h0, u, h3, h4⟩ := hc i hi;exact ⟨(hg.cell (Zt h0) (fun e => hn (by rw [← e]; exact hb))).trans h0, u, (hg.cell (Zt h3) (fun e => hn (by rw [← e]; exact hb))).trans h3, h4.but hg hn⟩
theorem Xl.grow {S : Nat → Prop} {w w' : World} {v : Value} {ws : List Wr} (h : Xl S w v ws) (hg : Zo w w') : Xl S w' v ws := by
 rcases h with h | ⟨b, off, cap, hb, h1, h2, hc⟩
 ·exact .inl h
 ·refine .inr ⟨b, off, cap, hb, h1, h2, fun i hi => ?_⟩;obtain ⟨h0, u, h3, h4⟩ := hc i hi;exact ⟨(Below.cell hg (Zt h0)).trans h0, u, (Below.cell hg (Zt h3)).trans h3, h4.grow hg⟩
theorem Xl.at {S : Nat → Prop} {w : World} {ao : Option Addr} {n cap : Nat} {ws : List Wr} (h : Xl S w (.slice ao n cap) ws) (i : Nat) (hi : i < ws.length) :
  ∃ b off, ao = some ⟨b, off, none⟩ ∧ w.cell? ⟨b, off + i * 2, none⟩ = some (.int .i64 ws[i].1) ∧ ∃ u, w.cell? ⟨b, off + i * 2 + 1, none⟩ = some u ∧ Zy S w u ws[i].2 := by
 rcases h with ⟨_, _, _, rfl, _⟩ | ⟨b, off, cp, _, h2, h3, h4⟩
 ·simp at hi
 ·cases h2;exact ⟨b, off, rfl, h4 i hi⟩
theorem Zhw (S : Nat → Prop) (l : List UInt8) : Xq (fun v w => Zy S w v l) := fun _ _ _ hg h => Zy.grow h hg
theorem Vz {α : Type} [BEq α] [LawfulBEq α] {a b : α} (h : a ≠ b) : (a == b) = false := by simpa using h
end Go.Proofs.YtikhknkpndhakabGreat
