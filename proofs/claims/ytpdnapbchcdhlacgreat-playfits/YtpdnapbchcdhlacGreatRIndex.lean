import Derived.Test.YtpdnapbchcdhlacGreatRMend
set_option maxHeartbeats 8000000
namespace Go.Proofs.YtpdnapbchcdhlacGreat
set_option maxRecDepth 100000
open Go.RowKit
open Plain Reg
def Zbw (pre : List Ent) (e : Ent) : Bool := match pre.getLast? with | none => true | some x => Y5 x e
def okE (pre : List Ent) (e : Ent) : Bool := decide (Yd e.rc = 0 ∧ e.rc.kind ≠ 1 ∧ 0 ≤ e.pair ∧ e.pair ≤ 1000) && Zbw pre e && pre.all (fun x => decide (x.pair ≠ e.pair))
def Zaj (pre : List Ent) : List Ent → Bool
 | [] => true
 | e :: l => okE pre e && Zaj (pre ++ [e]) l
def Q1 (l : List Ent) : Bool := Zaj [] l
theorem Zjn (c : UInt8) : lo (c.toNat : Int) = c := by
 refine UInt8.toNat_inj.1 ?_;have := Kn (c.toNat : Int);have hc : c.toNat < 256 := UInt8.toNat_lt _;omega
theorem Zar (n : Int) (h0 : 0 ≤ n) (h1 : n ≤ 255) : ((lo n).toNat : Int) = n := by rw [Kn]; omega
theorem Zxi (x y : UInt8) : hi ((x.toNat : Int) * 256 + (y.toNat : Int)) = x := by
 have hx : x.toNat < 256 := UInt8.toNat_lt _;have hy : y.toNat < 256 := UInt8.toNat_lt _;exact ((Zcz x y _ (by omega) (by omega)).1 rfl).1
theorem Zxh (x y : UInt8) : lo ((x.toNat : Int) * 256 + (y.toNat : Int)) = y := by
 have hx : x.toNat < 256 := UInt8.toNat_lt _;have hy : y.toNat < 256 := UInt8.toNat_lt _;exact ((Zcz x y _ (by omega) (by omega)).1 rfl).2
theorem Zw4 (r : Rec) (a : Int) : at' (blk r a) 0 = lo r.kind := rfl
theorem Zw3 (r : Rec) (a : Int) : at' (blk r a) 1 = lo a := rfl
theorem Zw2 (r : Rec) (a : Int) : at' (blk r a) 2 = lo r.key := rfl
theorem Zw1 (r : Rec) (a : Int) : at' (blk r a) 3 = hi r.ver := rfl
theorem Zw0 (r : Rec) (a : Int) : at' (blk r a) 4 = lo r.ver := rfl
theorem Zjz (r : Rec) (a : Int) : at' (blk r a) 5 = lo (r.data.length : Int) := rfl
theorem Zl8 (r : Rec) (a : Int) : (blk r a).drop 6 = r.data ++ (List.replicate (8 - r.data.length) 0 ++ [hi (Xh (Zay r a)), lo (Xh (Zay r a))]) := by
 show (r.data ++ List.replicate (8 - r.data.length) 0) ++ _ = _;rw [List.append_assoc]
theorem Zpa (r : Rec) (a : Int) (h : Yd r = 0) : Y0 (blk r a) = r := by
 obtain ⟨k0, k1, y0, y1, n0, n1, hl⟩ := Vr h;unfold Y0;rw [Zw4, Zw2, Zw1, Zw0, Zjz, Zl8];have e1 := Zar r.kind (by omega) (by omega);have e2 := Zar r.key (by omega) (by omega);have e3 := Zar (r.data.length : Int) (by omega) (by omega);have e4 : ((hi r.ver).toNat : Int) * 256 + ((lo r.ver).toNat : Int) = r.ver := by rw [Zg3, Kn]; omega
 have e5 : (lo (r.data.length : Int)).toNat = r.data.length := by omega
 rw [e1, e2, e4, e5, List.take_left' rfl]
theorem Zs4 (r : Rec) (a : Int) (h : Yd r = 0) : Y9 (Vf (blk r a)) = true := by
 obtain ⟨k0, k1, y0, y1, n0, n1, hl⟩ := Vr h;have e3 := Zar (r.data.length : Int) (by omega) (by omega);have e5 : (lo (r.data.length : Int)).toNat = r.data.length := by omega
 unfold Vf;rw [Zjz, e5, ← List.drop_drop, Zl8, List.drop_left' rfl, List.take_left' (by simp)];unfold Y9;rw [List.all_eq_true];intro c hc;simp [List.eq_of_mem_replicate hc]
theorem Zms (r : Rec) (a : Int) (h : Yd r = 0) (h0 : 0 ≤ a) (h1 : a ≤ 255) : spoilt (blk r a) a = 0 := by
 obtain ⟨k0, k1, y0, y1, n0, n1, hl⟩ := Vr h;have e1 := Zar a h0 h1;have e3 := Zar (r.data.length : Int) (by omega) (by omega);unfold spoilt;rw [if_neg (by rw [Qn r a hl]; simp), if_neg (by unfold blk; rw [Zf2]; simp), if_neg (by rw [Zw3, e1]; simp), if_neg (by rw [Zjz]; omega), if_neg (by rw [Zs4 r a h]; simp)]
theorem Zkz (r : Rec) (a : Int) (h : Yd r = 0) (h0 : 0 ≤ a) (h1 : a ≤ 255) : X4 (blk r a) a = 0 ∧ Y6 (blk r a) a = r := by
 have e : X4 (blk r a) a = 0 := by unfold X4; rw [if_pos (Zms r a h h0 h1), Zpa r a h]; exact h
 refine ⟨e, ?_⟩;unfold Y6;rw [if_pos e, Zpa r a h]
theorem Znc {b : List UInt8} {a : Int} (h : X4 b a = 0) : spoilt b a = 0 ∧ Yd (Y0 b) = 0 ∧ Y6 b a = Y0 b := by
 have hr : Y6 b a = Y0 b := by unfold Y6; rw [if_pos h]
 unfold X4 at h;by_cases hs : spoilt b a = 0
 ·rw [if_pos hs] at h; exact ⟨hs, h, hr⟩
 ·rw [if_neg hs] at h; exact absurd h hs
theorem Zxk (b : List UInt8) (a : Int) (hs : spoilt b a = 0) : b.take 14 = Zay (Y0 b) a := by
 obtain ⟨hl, hsl, hp, h8, hn⟩ := Jz hs;have hlen : ((b.drop 6).take (at' b 5).toNat).length = (at' b 5).toNat := by simp; omega
 have hz : Vf b = List.replicate (8 - (at' b 5).toNat) 0 := by
  refine List.eq_replicate_iff.2 ⟨by unfold Vf; simp; omega, fun c hc => ?_⟩;unfold Y9 at hn;have := (List.all_eq_true.1 hn) c hc;simpa using this
 unfold Zay Y0;simp only [];rw [hlen, Zjn, Zjn, Zxi, Zxh, Zjn, ← hp, Zjn, ← hz];have e : b.take 14 = [at' b 0, at' b 1, at' b 2, at' b 3, at' b 4, at' b 5] ++ (b.drop 6).take 8 := by
  match b, hl with
  | [x0, x1, x2, x3, x4, x5, x6, x7, x8, x9, x10, x11, x12, x13, x14, x15], _ => rfl
 rw [e]
 congr 1
 unfold Vf;rw [← List.drop_drop, ← List.take_add]
 congr 1
 omega
theorem Zhh (b : List UInt8) (a : Int) (h : X4 b a = 0) : Yd (Y6 b a) = 0 ∧ blk (Y6 b a) a = b := by
 obtain ⟨hs, hw, hr⟩ := Znc h;obtain ⟨hl, hsl, -, -, -⟩ := Jz hs;rw [hr];refine ⟨hw, ?_⟩;unfold blk;rw [← Zxk b a hs];have := Zf3 b (by omega);rw [hsl, hl] at this;exact beq_iff_eq.1 this
theorem Zky (r : Rec) (a : Int) (n : Nat) (c : UInt8) (h : Yd r = 0) (hn : n < (blk r a).length) (hne : (blk r a)[n] ≠ c) : X4 ((blk r a).set n c) a = 7 := by
 obtain ⟨k0, k1, y0, y1, n0, n1, hl⟩ := Vr h;have e : spoilt ((blk r a).set n c) a = 7 := by
  have hse : Xj ((blk r a).set n c) = false := Zkk (Zay r a) n c hn hne;unfold spoilt;rw [if_neg (by rw [List.length_set, Qn r a hl]; simp), if_pos hse]
 unfold X4;rw [e]; rfl
end Go.Proofs.YtpdnapbchcdhlacGreat
namespace Go.Proofs.YtpdnapbchcdhlacGreat
set_option maxRecDepth 100000
open Plain
variable {a : Int} {d : Dk} {r : Rec}
theorem Q5 : Yd Rec.free = 0 := by decide
theorem Zc0 (d : Dk) (a : Int) : Yd (Z7 d a) = 0 := by
 unfold Z7;split
 ·next h => exact (Zhh _ _ h).1
 ·exact Q5
theorem Xu (d : Dk) (p : Int) : Yd (d.tell p) = 0 := by
 unfold Dk.tell;split
 ·exact Q5
 ·split
  ·exact Q5
  ·unfold K7; split
   ·exact Zc0 _ _
   ·exact Zc0 _ _
theorem Zfz (h : d.get a = some (blk r a)) (hr : Yd r = 0) (h0 : 0 ≤ a) (h1 : a ≤ 255) : Z7 d a = r ∧ Y8 d a = 0 := by
 have hb : Yp d a = blk r a := by unfold Yp; rw [h]; rfl
 obtain ⟨he, hR⟩ := Zkz r a hr h0 h1;unfold Y8 Z7 Qd;rw [hb, if_pos he, if_pos he]; exact ⟨hR, rfl⟩
theorem Zf0 (h : Qd d a ≠ 0) : Z7 d a = Rec.free ∧ Y8 d a = 1 := by
 unfold Y8 Z7;rw [if_neg h, if_neg h]; exact ⟨rfl, rfl⟩
theorem Qe (h : (Z7 d a).kind = 1) : Yt d a = 0 := by unfold Yt; rw [if_pos h]
theorem Kk (h : (Z7 d a).kind ≠ 1) : Yt d a = 1 := by unfold Yt; rw [if_neg h]
theorem Vs {p : Int} (hn : d.noPair p = false) (h0 : Z7 d (2 * p) = r) (h1 : Z7 d (2 * p + 1) = r) (hr : r.kind ≠ 1) : d.how p = 1 ∧ d.tell p = r := by
 have s0 : Yt d (2 * p) = 1 := Kk (by rw [h0]; exact hr);have s1 : Yt d (2 * p + 1) = 1 := Kk (by rw [h1]; exact hr);have hs : Qw r r = true := by rw [V6]
 unfold Dk.how Dk.tell K7;rw [hn, s0, s1, h0, h1, if_neg hr];simp [hs]
theorem Zg1 {p : Int} (hn : d.noPair p = false) (h0 : (Z7 d (2 * p)).kind = 1) (h1 : (Z7 d (2 * p + 1)).kind = 1) (b0 : Y8 d (2 * p) = 0) (b1 : Y8 d (2 * p + 1) = 0) : d.how p = 0 ∧ d.tell p = Rec.free := by
 have s0 := Qe h0;have s1 := Qe h1;unfold Dk.how Dk.tell;rw [hn, s0, s1, b0, b1];simp
theorem Vz {p : Int} (hn : d.noPair p = false) (hr : r.kind ≠ 1) (h : Z7 d (2 * p) = r ∧ (Z7 d (2 * p + 1)).kind = 1 ∨ Z7 d (2 * p + 1) = r ∧ (Z7 d (2 * p)).kind = 1) : d.how p = 2 ∧ d.tell p = r := by
 rcases h with ⟨h0, h1⟩ | ⟨h0, h1⟩
 ·have s0 : Yt d (2 * p) = 1 := Kk (by rw [h0]; exact hr);have s1 := Qe h1;unfold Dk.how Dk.tell K7;rw [hn, s0, s1, h0, if_neg hr];simp
 ·have s1 : Yt d (2 * p + 1) = 1 := Kk (by rw [h0]; exact hr);have s0 := Qe h1;unfold Dk.how Dk.tell K7;rw [hn, s0, s1, h0, if_pos h1];simp
theorem Zif {p : Int} (h0 : 0 ≤ p) (h1 : 2 * p + 1 < (d.blocks.length : Int)) : (d.pairW p r).get (2 * p) = some (blk r (2 * p)) ∧ (d.pairW p r).get (2 * p + 1) = some (blk r (2 * p + 1)) := by
 have e : d.pairW p r = (d.put (2 * p) (blk r (2 * p))).put (2 * p + 1) (blk r (2 * p + 1)) := by simp [Dk.pairW, Dk.put]
 rw [e];refine ⟨?_, Dk.put_get _ _ _ (by omega) h1⟩;rw [Dk.put_other _ _ _ _ (by omega)];exact Dk.put_get _ _ _ (by omega) (by omega)
theorem Zem {p : Int} (h0 : 0 ≤ p) (h1 : 2 * p + 1 < (d.blocks.length : Int)) : d.noPair p = false := by
 unfold Dk.noPair; exact decide_eq_false (by omega)
theorem Zdj {p : Int} (h0 : 0 ≤ p) (h1 : 2 * p + 1 < (d.blocks.length : Int)) : d.pairE p r = Yd r := by
 unfold Dk.pairE; rw [if_neg (by omega)]
theorem Znv (d : Dk) (p : Int) (h0 : 0 ≤ p) (h1 : 2 * p + 1 < (d.blocks.length : Int)) (hlen : d.blocks.length ≤ 256) :
  (d.mendD p).how p = (if (d.tell p).kind = 1 then 0 else 1) ∧ (d.mendD p).tell p = d.tell p ∧ (d.mendD p).mendD p = d.mendD p := by
 have key : (d.mendD p).how p = (if (d.tell p).kind = 1 then 0 else 1) ∧ (d.mendD p).tell p = d.tell p := by
  have hn := Zem h0 h1;by_cases h2 : 2 ≤ d.how p
  ·have hd : d.mendD p = d.pairW p (d.tell p) := by
    unfold Dk.mendD Dk.pairD;rw [if_pos h2, Zdj h0 h1, Xu, if_pos rfl]
   rw [hd];obtain ⟨g0, g1⟩ := Zif (d := d) (r := d.tell p) h0 h1;obtain ⟨r0, b0⟩ := Zfz g0 (Xu d p) (by omega) (by omega);obtain ⟨r1, b1⟩ := Zfz g1 (Xu d p) (by omega) (by omega);have hn' : (d.pairW p (d.tell p)).noPair p = false := Zem h0 h1;by_cases hk : (d.tell p).kind = 1
   ·have hf : d.tell p = Rec.free := by
     by_cases hs : Yt d (2 * p) + Yt d (2 * p + 1) = 0
     ·unfold Dk.tell; rw [hn, if_neg (by decide), if_pos hs]
     ·exfalso;have ht : d.tell p = K7 d p := by unfold Dk.tell; rw [hn, if_neg (by decide), if_neg hs]
      rw [ht] at hk;unfold K7 at hk;by_cases hk0 : (Z7 d (2 * p)).kind = 1
      ·rw [if_pos hk0] at hk;rw [Qe hk0, Qe hk] at hs; exact hs rfl
      ·rw [if_neg hk0] at hk; exact hk0 hk
    rw [if_pos hk];obtain ⟨a, b⟩ := Zg1 hn' (by rw [r0]; exact hk) (by rw [r1]; exact hk) b0 b1;exact ⟨a, by rw [b, hf]⟩
   ·rw [if_neg hk];exact Vs hn' r0 r1 hk
  ·have hd : d.mendD p = d := by unfold Dk.mendD; rw [if_neg h2]
   rw [hd];refine ⟨?_, rfl⟩;unfold Dk.how at h2 ⊢;unfold Dk.tell;rw [hn] at h2 ⊢;simp only [Bool.false_eq_true, if_false] at h2 ⊢;have e0 := Zbs d (2 * p);have e1 := Zbs d (2 * p + 1);by_cases hs : Yt d (2 * p) + Yt d (2 * p + 1) = 2
   ·rw [if_pos hs] at h2 ⊢;have hk : (Z7 d (2 * p)).kind ≠ 1 := fun h => by have := Qe h; omega
    have hz : ¬ (Yt d (2 * p) + Yt d (2 * p + 1) = 0) := by omega
    rw [if_neg hz];by_cases hsm : Qw (Z7 d (2 * p)) (Z7 d (2 * p + 1)) = true
    ·unfold K7; rw [if_pos hsm, if_neg hk, if_neg hk]
    ·rw [if_neg hsm] at h2; omega
   ·rw [if_neg hs] at h2 ⊢;by_cases hs1 : Yt d (2 * p) + Yt d (2 * p + 1) = 1
    ·rw [if_pos hs1] at h2; omega
    ·rw [if_neg hs1] at h2 ⊢;have hz : Yt d (2 * p) + Yt d (2 * p + 1) = 0 := by omega
     rw [if_pos hz, if_pos (show Rec.free.kind = 1 from rfl)];by_cases hb0 : Y8 d (2 * p) + Y8 d (2 * p + 1) = 0
     ·rw [if_pos hb0]
     ·rw [if_neg hb0] at h2; split at h2 <;> omega
 refine ⟨key.1, key.2, ?_⟩;show (if 2 ≤ (d.mendD p).how p then _ else _) = _;rw [if_neg (by rw [key.1]; split <;> omega)]
theorem Zj0 (r : Rec) (a : Int) (h : Yd r = 0) : (blk r a).length = 16 := Qn r a (Vr h).2.2.2.2.2.2
theorem Zkj {n y : Int} (h : d.get a = some (X1 (blk r a) n y)) (hr : Yd r = 0) (hn0 : 0 ≤ n) (hn1 : n < ((blk r a).length : Int)) (hy : y % 256 ≠ 0) : Z7 d a = Rec.free ∧ Y8 d a = 1 := by
 refine Zf0 ?_;unfold Qd;have hb : Yp d a = X1 (blk r a) n y := by unfold Yp; rw [h]; rfl
 rw [hb];unfold X1;rw [if_pos ⟨hn0, hn1⟩, Qp _ _ _ (by omega)];rw [Zky r a n.toNat _ hr (by omega) ?_]
 ·decide
 ·intro hE;have h1 : lo y = 0 := by
   have h2 : (blk r a)[n.toNat] ^^^ ((blk r a)[n.toNat] ^^^ lo y) = (blk r a)[n.toNat] ^^^ (blk r a)[n.toNat] := by rw [← hE]
   rw [← UInt8.xor_assoc, UInt8.xor_self, UInt8.zero_xor] at h2;exact h2
  have h3 := Kn y;rw [h1] at h3;exact hy h3.symm
theorem Zwj (a : Int) (h0 : 0 ≤ a) (h1 : a < 12) : (Dk.new.blocks).getD a.toNat [] = blk Rec.free a := by
 unfold Dk.new;rw [Qp _ _ _ (by simp; omega), List.getElem_map, List.getElem_range, show ((a.toNat : Nat) : Int) = a from by omega]; rfl
variable {a b e : Ent} {l : List Ent}
def Zby (e : Ent) : List Ent → List Ent
 | [] => [e]
 | x :: l => if Y5 e x = true then e :: x :: l else x :: Zby e l
theorem Zgz (e : Ent) : ∀ (l pre : List Ent), l.foldl (X0 e) (pre, true) = (pre ++ l, true)
 | [], pre => by simp
 | x :: l, pre => by
  rw [List.foldl_cons, show X0 e (pre, true) x = (pre ++ [x], true) from by simp [X0], Zgz e l];simp
theorem Zim (e : Ent) : ∀ (l pre : List Ent), (if (l.foldl (X0 e) (pre, false)).2 = true then (l.foldl (X0 e) (pre, false)).1 else (l.foldl (X0 e) (pre, false)).1 ++ [e]) = pre ++ Zby e l
 | [], pre => by simp [Zby]
 | x :: l, pre => by
  rw [List.foldl_cons];by_cases h : Y5 e x = true
  ·rw [show X0 e (pre, false) x = (pre ++ [e] ++ [x], true) from by simp [X0, h], Zgz];simp [Zby, h]
  ·rw [show X0 e (pre, false) x = (pre ++ [x], false) from by simp [X0, h], Zim e l];simp [Zby, h]
theorem J3 (e : Ent) (l : List Ent) : X5 e l = Zby e l := by
 have := Zim e l [];unfold X5 Q9;simpa using this
theorem Zdq (e x : Ent) : ∀ l : List Ent, x ∈ Zby e l ↔ x = e ∨ x ∈ l
 | [] => by simp [Zby]
 | y :: l => by
  have ih := Zdq e x l;unfold Zby;split
  ·simp
  ·simp [ih];constructor
   ·rintro (h | h | h)
    ·exact .inr (.inl h)
    ·exact .inl h
    ·exact .inr (.inr h)
   ·rintro (h | h | h)
    ·exact .inr (.inl h)
    ·exact .inl h
    ·exact .inr (.inr h)
theorem J4 (e x : Ent) (l : List Ent) : x ∈ X5 e l ↔ x = e ∨ x ∈ l := by rw [J3]; exact Zdq e x l
theorem Jl {c : Ent} (h1 : Y5 a b = true) (h2 : Y5 b c = true) : Y5 a c = true := by
 unfold Y5 at h1 h2 ⊢;split at h1 <;> split at h2 <;> split <;> try split at h1 <;> try split at h2 <;> try split
 all_goals simp only [decide_eq_true_eq] at *
 all_goals first | omega | (split at h2 <;> simp only [decide_eq_true_eq] at * <;> first | omega | (split <;> simp only [decide_eq_true_eq] at * <;> omega)) | (split <;> simp only [decide_eq_true_eq] at * <;> omega)
theorem Zc6 (h : ¬ Y5 a b = true) (hp : a.pair ≠ b.pair) : Y5 b a = true := by
 unfold Y5 at h ⊢;by_cases hk : a.rc.key = b.rc.key
 ·rw [if_pos hk] at h;rw [if_pos hk.symm];by_cases hv : a.rc.ver = b.rc.ver
  ·rw [if_pos hv] at h;rw [if_pos hv.symm];simp only [decide_eq_true_eq] at *; omega
  ·rw [if_neg hv] at h;rw [if_neg (fun e => hv e.symm)];simp only [decide_eq_true_eq] at *; omega
 ·rw [if_neg hk] at h;rw [if_neg (fun e => hk e.symm)];simp only [decide_eq_true_eq] at *; omega
def Good (e : Ent) : Prop := Yd e.rc = 0 ∧ e.rc.kind ≠ 1 ∧ 0 ≤ e.pair ∧ e.pair ≤ 1000
def Ups (a b : Ent) : Prop := Y5 a b = true ∧ a.pair ≠ b.pair
theorem Zwg (pre : List Ent) (e : Ent) : okE pre e = true ↔ Good e ∧ Zbw pre e = true ∧ ∀ x ∈ pre, x.pair ≠ e.pair := by
 unfold okE Good;simp only [Bool.and_eq_true, decide_eq_true_eq, List.all_eq_true];exact ⟨fun ⟨⟨h1, h2⟩, h3⟩ => ⟨h1, h2, h3⟩, fun ⟨h1, h2, h3⟩ => ⟨⟨h1, h2⟩, h3⟩⟩
theorem Zua : ∀ pre : List Ent, pre.Pairwise Ups → Zbw pre e = true → ∀ x ∈ pre, Y5 x e = true := by
 intro pre hp hl x hx;have h : pre ≠ [] := by rintro rfl; cases hx
 obtain ⟨pre', y, rfl⟩ : ∃ pre' y, pre = pre' ++ [y] := ⟨pre.dropLast, pre.getLast h, (List.dropLast_concat_getLast h).symm⟩;have hy : Y5 y e = true := by
  unfold Zbw at hl;rw [List.getLast?_append] at hl;simpa using hl
 rcases List.mem_append.1 hx with h1 | h1
 ·have := (List.pairwise_append.1 hp).2.2 x h1 y (by simp);exact Jl this.1 hy
 ·rw [List.mem_singleton.1 h1]; exact hy
theorem Zac : ∀ (l pre : List Ent), pre.Pairwise Ups → (Zaj pre l = true ↔ (pre ++ l).Pairwise Ups ∧ ∀ x ∈ l, Good x)
 | [], pre, hp => by simp [Zaj, hp]
 | e :: l, pre, hp => by
  unfold Zaj;rw [Bool.and_eq_true, Zwg];constructor
  ·rintro ⟨⟨h1, h2, h3⟩, h4⟩;have hp2 : (pre ++ [e]).Pairwise Ups := List.pairwise_append.2 ⟨hp, by simp, fun x hx y hy => by
    rw [List.mem_singleton.1 hy]; exact ⟨Zua pre hp h2 x hx, h3 x hx⟩⟩
   obtain ⟨h5, h6⟩ := (Zac l (pre ++ [e]) hp2).1 h4;refine ⟨by simpa using h5, fun x hx => ?_⟩;rcases List.mem_cons.1 hx with rfl | hx
   ·exact h1
   ·exact h6 x hx
  ·rintro ⟨h1, h2⟩;have hp2 : (pre ++ [e]).Pairwise Ups := by
    have : (pre ++ [e] ++ l).Pairwise Ups := by simpa using h1
    exact (List.pairwise_append.1 this).1
   have hq := (List.pairwise_append.1 hp2).2.2;refine ⟨⟨h2 e (by simp), ?_, fun x hx => (hq x hx e (by simp)).2⟩, (Zac l (pre ++ [e]) hp2).2 ⟨by simpa using h1, fun x hx => h2 x (by simp [hx])⟩⟩;unfold Zbw;cases hg : pre.getLast? with
   | none => rfl
   | some y => exact (hq y (List.mem_of_getLast? hg) e (by simp)).1
theorem Xv (l : List Ent) : Q1 l = true ↔ l.Pairwise Ups ∧ ∀ x ∈ l, Good x := by
 have := Zac l [] (by simp);simpa [Q1] using this
theorem Zln (e : Ent) : ∀ l : List Ent, l.Pairwise Ups → (∀ x ∈ l, x.pair ≠ e.pair) → (Zby e l).Pairwise Ups
 | [], _, _ => by simp [Zby]
 | x :: l, hp, hne => by
  obtain ⟨h1, h2⟩ := List.pairwise_cons.1 hp;unfold Zby;by_cases h : Y5 e x = true
  ·rw [if_pos h];refine List.pairwise_cons.2 ⟨fun y hy => ?_, hp⟩;rcases List.mem_cons.1 hy with rfl | hy
   ·exact ⟨h, fun e' => hne y (by simp) e'.symm⟩
   ·exact ⟨Jl h (h1 y hy).1, fun e' => hne y (by simp [hy]) e'.symm⟩
  ·rw [if_neg h];refine List.pairwise_cons.2 ⟨fun y hy => ?_, Zln e l h2 fun y hy => hne y (by simp [hy])⟩;rcases (Zdq e y l).1 hy with rfl | hy
   ·exact ⟨Zc6 h fun e' => hne x (by simp) e'.symm, hne x (by simp)⟩
   ·exact h1 y hy
theorem Zad (h : Q1 l = true) (he : Good e) (hne : ∀ x ∈ l, x.pair ≠ e.pair) : Q1 (X5 e l) = true := by
 obtain ⟨h1, h2⟩ := (Xv l).1 h;rw [Xv, J3];refine ⟨Zln e l h1 hne, fun x hx => ?_⟩;rcases (Zdq e x l).1 hx with rfl | hx
 ·exact he
 ·exact h2 x hx
def Zbi (l : List Ent) (key ver : Int) : Option Ent := l.find? fun x => decide (x.rc.key = key ∧ x.rc.ver = ver)
def Q6 (l : List Ent) (p : Int) : List Ent := l.filter fun x => decide (x.pair ≠ p)
def Ju (l : List Ent) (f : Nat) : Prop := (∀ n : Nat, n < f → ∃ x ∈ l, x.pair = (n : Int)) ∧ ∀ x ∈ l, x.pair ≠ (f : Int)
def Zos (l : List Ent) (pairs r : Int) : Prop := ∃ f : Nat, Ju l f ∧ ((f : Int) < pairs ∧ r = (f : Int) ∨ pairs ≤ (f : Int) ∧ r = -1)
theorem Zq7 {f g : Nat} (h1 : Ju l f) (h2 : Ju l g) : f = g := by
 rcases Nat.lt_trichotomy f g with h | h | h
 ·obtain ⟨x, hx, hp⟩ := h2.1 f h;exact absurd hp (h1.2 x hx)
 ·exact h
 ·obtain ⟨x, hx, hp⟩ := h1.1 g h;exact absurd hp (h2.2 x hx)
theorem Zrf {key ver : Int} (h : ∀ x ∈ l, ¬ (x.rc.key = key ∧ x.rc.ver = ver)) : Zbi l key ver = none := by
 unfold Zbi;rw [List.find?_eq_none];exact fun x hx => by simpa using h x hx
theorem Vq (d : Dk) (x : Ent) : ∀ n, x ∈ Z5 d n ↔ ∃ p : Nat, p < n ∧ (d.tell (p : Int)).kind ≠ 1 ∧ x = ⟨d.tell (p : Int), (p : Int)⟩
 | 0 => by simp [Z5]
 | n + 1 => by
  have ih := Vq d x n;unfold Z5;by_cases h : (d.tell (n : Int)).kind = 1
  ·rw [if_pos h, ih];constructor
   ·rintro ⟨p, h1, h2⟩; exact ⟨p, by omega, h2⟩
   ·rintro ⟨p, h1, h2, h3⟩;refine ⟨p, ?_, h2, h3⟩;rcases Nat.lt_succ_iff_lt_or_eq.1 h1 with h4 | rfl
    ·exact h4
    ·exact absurd h h2
  ·rw [if_neg h, J4, ih];constructor
   ·rintro (rfl | ⟨p, h1, h2⟩)
    ·exact ⟨n, by omega, h, rfl⟩
    ·exact ⟨p, by omega, h2⟩
   ·rintro ⟨p, h1, h2, h3⟩;rcases Nat.lt_succ_iff_lt_or_eq.1 h1 with h4 | rfl
    ·exact .inr ⟨p, h4, h2, h3⟩
    ·exact .inl h3
theorem V4 (d : Dk) : ∀ n, n ≤ 1000 → Q1 (Z5 d n) = true
 | 0, _ => rfl
 | n + 1, hn => by
  have ih := V4 d n (by omega);unfold Z5;split
  ·exact ih
  ·rename_i h;refine Zad ih ⟨Xu d _, h, by show (0 : Int) ≤ (n : Int); omega, by show (n : Int) ≤ 1000; omega⟩ fun x hx => ?_;obtain ⟨p, h1, _, rfl⟩ := (Vq d x n).1 hx;show (p : Int) ≠ (n : Int);omega
end Go.Proofs.YtpdnapbchcdhlacGreat
