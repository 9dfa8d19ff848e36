import Derived.Test.YtljogbielflgdacRScan
set_option maxHeartbeats 8000000
namespace Go.Proofs.Ytljogbielflgdac
set_option maxRecDepth 100000
open Go.RowKit
open Plain Reg
def J4 (pre : List Ent) (e : Ent) : Bool := match pre.getLast? with | none => true | some x => Xr x e
def okE (pre : List Ent) (e : Ent) : Bool := decide (Z5 e.rc = 0 ∧ e.rc.kind ≠ 1 ∧ 0 ≤ e.pair ∧ e.pair ≤ 1000) && J4 pre e && pre.all (fun x => decide (x.pair ≠ e.pair))
def K0 (pre : List Ent) : List Ent → Bool
 | [] => true
 | e :: l => okE pre e && K0 (pre ++ [e]) l
def Zb4 (l : List Ent) : Bool := K0 [] l
theorem Zf8 (c : UInt8) : lo (c.toNat : Int) = c := by
 refine UInt8.toNat_inj.1 ?_;have := Ji (c.toNat : Int);have hc : c.toNat < 256 := UInt8.toNat_lt _;omega
theorem K7 (n : Int) (h0 : 0 ≤ n) (h1 : n ≤ 255) : ((lo n).toNat : Int) = n := by rw [Ji]; omega
theorem Zpq (x y : UInt8) : hi ((x.toNat : Int) * 256 + (y.toNat : Int)) = x := by
 have hx : x.toNat < 256 := UInt8.toNat_lt _;have hy : y.toNat < 256 := UInt8.toNat_lt _;exact ((Zft x y _ (by omega) (by omega)).1 rfl).1
theorem Zpp (x y : UInt8) : lo ((x.toNat : Int) * 256 + (y.toNat : Int)) = y := by
 have hx : x.toNat < 256 := UInt8.toNat_lt _;have hy : y.toNat < 256 := UInt8.toNat_lt _;exact ((Zft x y _ (by omega) (by omega)).1 rfl).2
theorem Zpi (r : Rec) (a : Int) : at' (blk r a) 0 = lo r.kind := rfl
theorem Zph (r : Rec) (a : Int) : at' (blk r a) 1 = lo a := rfl
theorem Zpg (r : Rec) (a : Int) : at' (blk r a) 2 = lo r.key := rfl
theorem Zpf (r : Rec) (a : Int) : at' (blk r a) 3 = hi r.ver := rfl
theorem Zpe (r : Rec) (a : Int) : at' (blk r a) 4 = lo r.ver := rfl
theorem Zgo (r : Rec) (a : Int) : at' (blk r a) 5 = lo (r.data.length : Int) := rfl
theorem Zib (r : Rec) (a : Int) : (blk r a).drop 6 = r.data ++ (List.replicate (8 - r.data.length) 0 ++ [hi (Y6 (Jp r a)), lo (Y6 (Jp r a))]) := by
 show (r.data ++ List.replicate (8 - r.data.length) 0) ++ _ = _;rw [List.append_assoc]
theorem Zkt (r : Rec) (a : Int) (h : Z5 r = 0) : Ym (blk r a) = r := by
 obtain ⟨k0, k1, y0, y1, n0, n1, hl⟩ := Vs h;unfold Ym;rw [Zpi, Zpg, Zpf, Zpe, Zgo, Zib];have e1 := K7 r.kind (by omega) (by omega);have e2 := K7 r.key (by omega) (by omega);have e3 := K7 (r.data.length : Int) (by omega) (by omega);have e4 : ((hi r.ver).toNat : Int) * 256 + ((lo r.ver).toNat : Int) = r.ver := by rw [Zec, Ji]; omega
 have e5 : (lo (r.data.length : Int)).toNat = r.data.length := by omega
 rw [e1, e2, e4, e5, List.take_left' rfl]
theorem Zm4 (r : Rec) (a : Int) (h : Z5 r = 0) : Yw (Qk (blk r a)) = true := by
 obtain ⟨k0, k1, y0, y1, n0, n1, hl⟩ := Vs h;have e3 := K7 (r.data.length : Int) (by omega) (by omega);have e5 : (lo (r.data.length : Int)).toNat = r.data.length := by omega
 unfold Qk;rw [Zgo, e5, ← List.drop_drop, Zib, List.drop_left' rfl, List.take_left' (by simp)];unfold Yw;rw [List.all_eq_true];intro c hc;simp [List.eq_of_mem_replicate hc]
theorem Ziu (r : Rec) (a : Int) (h : Z5 r = 0) (h0 : 0 ≤ a) (h1 : a ≤ 255) : Yr (blk r a) a = 0 := by
 obtain ⟨k0, k1, y0, y1, n0, n1, hl⟩ := Vs h;have e1 := K7 a h0 h1;have e3 := K7 (r.data.length : Int) (by omega) (by omega);unfold Yr;rw [if_neg (by rw [Qe r a hl]; simp), if_neg (by unfold blk; rw [Zdn]; simp), if_neg (by rw [Zph, e1]; simp), if_neg (by rw [Zgo]; omega), if_neg (by rw [Zm4 r a h]; simp)]
theorem Zhc (r : Rec) (a : Int) (h : Z5 r = 0) (h0 : 0 ≤ a) (h1 : a ≤ 255) : Xl (blk r a) a = 0 ∧ Yu (blk r a) a = r := by
 have e : Xl (blk r a) a = 0 := by unfold Xl; rw [if_pos (Ziu r a h h0 h1), Zkt r a h]; exact h
 refine ⟨e, ?_⟩;unfold Yu;rw [if_pos e, Zkt r a h]
theorem Zi9 {b : List UInt8} {a : Int} (h : Xl b a = 0) : Yr b a = 0 ∧ Z5 (Ym b) = 0 ∧ Yu b a = Ym b := by
 have hr : Yu b a = Ym b := by unfold Yu; rw [if_pos h]
 unfold Xl at h;by_cases hs : Yr b a = 0
 ·rw [if_pos hs] at h; exact ⟨hs, h, hr⟩
 ·rw [if_neg hs] at h; exact absurd h hs
theorem Zpr (b : List UInt8) (a : Int) (hs : Yr b a = 0) : b.take 14 = Jp (Ym b) a := by
 obtain ⟨hl, hsl, hp, h8, hn⟩ := Kl hs;have hlen : ((b.drop 6).take (at' b 5).toNat).length = (at' b 5).toNat := by simp; omega
 have hz : Qk b = List.replicate (8 - (at' b 5).toNat) 0 := by
  refine List.eq_replicate_iff.2 ⟨by unfold Qk; simp; omega, fun c hc => ?_⟩;unfold Yw at hn;have := (List.all_eq_true.1 hn) c hc;simpa using this
 unfold Jp Ym;simp only [];rw [hlen, Zf8, Zf8, Zpq, Zpp, Zf8, ← hp, Zf8, ← hz];have e : b.take 14 = [at' b 0, at' b 1, at' b 2, at' b 3, at' b 4, at' b 5] ++ (b.drop 6).take 8 := by
  match b, hl with
  | [x0, x1, x2, x3, x4, x5, x6, x7, x8, x9, x10, x11, x12, x13, x14, x15], _ => rfl
 rw [e]
 congr 1
 unfold Qk;rw [← List.drop_drop, ← List.take_add]
 congr 1
 omega
theorem Zia (b : List UInt8) (a : Int) (h : Xl b a = 0) : Z5 (Yu b a) = 0 ∧ blk (Yu b a) a = b := by
 obtain ⟨hs, hw, hr⟩ := Zi9 h;obtain ⟨hl, hsl, -, -, -⟩ := Kl hs;rw [hr];refine ⟨hw, ?_⟩;unfold blk;rw [← Zpr b a hs];have := Zdo b (by omega);rw [hsl, hl] at this;exact beq_iff_eq.1 this
end Go.Proofs.Ytljogbielflgdac
namespace Go.Proofs.Ytljogbielflgdac
set_option maxRecDepth 100000
open Plain
theorem V7 : Z5 Rec.free = 0 := by decide
theorem Za7 (d : Dk) (a : Int) : Z5 (Z9 d a) = 0 := by
 unfold Z9;split
 ·next h => exact (Zia _ _ h).1
 ·exact V7
theorem Qv (d : Dk) (p : Int) : Z5 (d.tell p) = 0 := by
 unfold Dk.tell;split
 ·exact V7
 ·split
  ·exact V7
  ·unfold Ku; split
   ·exact Za7 _ _
   ·exact Za7 _ _
theorem Zg1 {d : Dk} {a : Int} {r : Rec} (h : d.get a = some (blk r a)) (hr : Z5 r = 0) (h0 : 0 ≤ a) (h1 : a ≤ 255) : Z9 d a = r ∧ Y8 d a = 0 := by
 have hb : Yh d a = blk r a := by unfold Yh; rw [h]; rfl
 obtain ⟨he, hR⟩ := Zhc r a hr h0 h1;unfold Y8 Z9 Qf;rw [hb, if_pos he, if_pos he]; exact ⟨hR, rfl⟩
theorem Q9 {d : Dk} {a : Int} (h : (Z9 d a).kind = 1) : Yg d a = 0 := by unfold Yg; rw [if_pos h]
theorem Zb3 {d : Dk} {a : Int} (h : (Z9 d a).kind ≠ 1) : Yg d a = 1 := by unfold Yg; rw [if_neg h]
theorem Zea {d : Dk} {p : Int} {r : Rec} (hn : d.noPair p = false) (h0 : Z9 d (2 * p) = r) (h1 : Z9 d (2 * p + 1) = r) (hr : r.kind ≠ 1) : d.how p = 1 ∧ d.tell p = r := by
 have s0 : Yg d (2 * p) = 1 := Zb3 (by rw [h0]; exact hr);have s1 : Yg d (2 * p + 1) = 1 := Zb3 (by rw [h1]; exact hr);have hs : Xt r r = true := by rw [Vh]
 unfold Dk.how Dk.tell Ku;rw [hn, s0, s1, h0, h1, if_neg hr];simp [hs]
theorem Zd9 {d : Dk} {p : Int} (hn : d.noPair p = false) (h0 : (Z9 d (2 * p)).kind = 1) (h1 : (Z9 d (2 * p + 1)).kind = 1) (b0 : Y8 d (2 * p) = 0) (b1 : Y8 d (2 * p + 1) = 0) : d.how p = 0 ∧ d.tell p = Rec.free := by
 have s0 := Q9 h0;have s1 := Q9 h1;unfold Dk.how Dk.tell;rw [hn, s0, s1, b0, b1];simp
theorem Zfc {d : Dk} {p : Int} {r : Rec} (h0 : 0 ≤ p) (h1 : 2 * p + 1 < (d.blocks.length : Int)) : (d.pairW p r).get (2 * p) = some (blk r (2 * p)) ∧ (d.pairW p r).get (2 * p + 1) = some (blk r (2 * p + 1)) := by
 have e : d.pairW p r = (d.put (2 * p) (blk r (2 * p))).put (2 * p + 1) (blk r (2 * p + 1)) := by simp [Dk.pairW, Dk.put]
 rw [e];refine ⟨?_, Dk.put_get _ _ _ (by omega) h1⟩;rw [Dk.put_other _ _ _ _ (by omega)];exact Dk.put_get _ _ _ (by omega) (by omega)
theorem Zcb {d : Dk} {p : Int} (h0 : 0 ≤ p) (h1 : 2 * p + 1 < (d.blocks.length : Int)) : d.noPair p = false := by
 unfold Dk.noPair; exact decide_eq_false (by omega)
theorem Zdv {d : Dk} {p : Int} {r : Rec} (h0 : 0 ≤ p) (h1 : 2 * p + 1 < (d.blocks.length : Int)) : d.pairE p r = Z5 r := by
 unfold Dk.pairE; rw [if_neg (by omega)]
theorem Zjl (d : Dk) (p : Int) (h0 : 0 ≤ p) (h1 : 2 * p + 1 < (d.blocks.length : Int)) (hlen : d.blocks.length ≤ 256) :
  (d.mendD p).how p = (if (d.tell p).kind = 1 then 0 else 1) ∧ (d.mendD p).tell p = d.tell p ∧ (d.mendD p).mendD p = d.mendD p := by
 have key : (d.mendD p).how p = (if (d.tell p).kind = 1 then 0 else 1) ∧ (d.mendD p).tell p = d.tell p := by
  have hn := Zcb h0 h1;by_cases h2 : 2 ≤ d.how p
  ·have hd : d.mendD p = d.pairW p (d.tell p) := by
    unfold Dk.mendD Dk.pairD;rw [if_pos h2, Zdv h0 h1, Qv, if_pos rfl]
   rw [hd];obtain ⟨g0, g1⟩ := Zfc (d := d) (r := d.tell p) h0 h1;obtain ⟨r0, b0⟩ := Zg1 g0 (Qv d p) (by omega) (by omega);obtain ⟨r1, b1⟩ := Zg1 g1 (Qv d p) (by omega) (by omega);have hn' : (d.pairW p (d.tell p)).noPair p = false := Zcb h0 h1;by_cases hk : (d.tell p).kind = 1
   ·have hf : d.tell p = Rec.free := by
     by_cases hs : Yg d (2 * p) + Yg d (2 * p + 1) = 0
     ·unfold Dk.tell; rw [hn, if_neg (by decide), if_pos hs]
     ·exfalso;have ht : d.tell p = Ku d p := by unfold Dk.tell; rw [hn, if_neg (by decide), if_neg hs]
      rw [ht] at hk;unfold Ku at hk;by_cases hk0 : (Z9 d (2 * p)).kind = 1
      ·rw [if_pos hk0] at hk;rw [Q9 hk0, Q9 hk] at hs; exact hs rfl
      ·rw [if_neg hk0] at hk; exact hk0 hk
    rw [if_pos hk];obtain ⟨a, b⟩ := Zd9 hn' (by rw [r0]; exact hk) (by rw [r1]; exact hk) b0 b1;exact ⟨a, by rw [b, hf]⟩
   ·rw [if_neg hk];exact Zea hn' r0 r1 hk
  ·have hd : d.mendD p = d := by unfold Dk.mendD; rw [if_neg h2]
   rw [hd];refine ⟨?_, rfl⟩;unfold Dk.how at h2 ⊢;unfold Dk.tell;rw [hn] at h2 ⊢;simp only [Bool.false_eq_true, if_false] at h2 ⊢;have e0 := Jx d (2 * p);have e1 := Jx d (2 * p + 1);by_cases hs : Yg d (2 * p) + Yg d (2 * p + 1) = 2
   ·rw [if_pos hs] at h2 ⊢;have hk : (Z9 d (2 * p)).kind ≠ 1 := fun h => by have := Q9 h; omega
    have hz : ¬ (Yg d (2 * p) + Yg d (2 * p + 1) = 0) := by omega
    rw [if_neg hz];by_cases hsm : Xt (Z9 d (2 * p)) (Z9 d (2 * p + 1)) = true
    ·unfold Ku; rw [if_pos hsm, if_neg hk, if_neg hk]
    ·rw [if_neg hsm] at h2; omega
   ·rw [if_neg hs] at h2 ⊢;by_cases hs1 : Yg d (2 * p) + Yg d (2 * p + 1) = 1
    ·rw [if_pos hs1] at h2; omega
    ·rw [if_neg hs1] at h2 ⊢;have hz : Yg d (2 * p) + Yg d (2 * p + 1) = 0 := by omega
     rw [if_pos hz, if_pos (show Rec.free.kind = 1 from rfl)];by_cases hb0 : Y8 d (2 * p) + Y8 d (2 * p + 1) = 0
     ·rw [if_pos hb0]
     ·rw [if_neg hb0] at h2; split at h2 <;> omega
 refine ⟨key.1, key.2, ?_⟩;show (if 2 ≤ (d.mendD p).how p then _ else _) = _;rw [if_neg (by rw [key.1]; split <;> omega)]
theorem Zj9 (r : Rec) (a : Int) (h : Z5 r = 0) : (blk r a).length = 16 := Qe r a (Vs h).2.2.2.2.2.2
end Go.Proofs.Ytljogbielflgdac
