import Derived.Test.YtpdnapbchcdhlacGreatRMend
set_option maxHeartbeats 8000000
namespace Go.Proofs.YtpdnapbchcdhlacGreat
set_option maxRecDepth 100000
open Go.RowKit
open Plain Reg
def Za4 (pre : List Ent) (e : Ent) : Bool := match pre.getLast? with | none => true | some x => Yw x e
def okE (pre : List Ent) (e : Ent) : Bool := decide (Z3 e.rc = 0 ∧ e.rc.kind ≠ 1 ∧ 0 ≤ e.pair ∧ e.pair ≤ 1000) && Za4 pre e && pre.all (fun x => decide (x.pair ≠ e.pair))
def J1 (pre : List Ent) : List Ent → Bool
 | [] => true
 | e :: l => okE pre e && J1 (pre ++ [e]) l
def Ql (l : List Ent) : Bool := J1 [] l
theorem Zia (c : UInt8) : lo (c.toNat : Int) = c := by
 refine UInt8.toNat_inj.1 ?_;have := Kl (c.toNat : Int);have hc : c.toNat < 256 := UInt8.toNat_lt _;omega
theorem J5 (n : Int) (h0 : 0 ≤ n) (h1 : n ≤ 255) : ((lo n).toNat : Int) = n := by rw [Kl]; omega
theorem Zv3 (x y : UInt8) : hi ((x.toNat : Int) * 256 + (y.toNat : Int)) = x := by
 have hx : x.toNat < 256 := UInt8.toNat_lt _;have hy : y.toNat < 256 := UInt8.toNat_lt _;exact ((Zb9 x y _ (by omega) (by omega)).1 rfl).1
theorem Zv2 (x y : UInt8) : lo ((x.toNat : Int) * 256 + (y.toNat : Int)) = y := by
 have hx : x.toNat < 256 := UInt8.toNat_lt _;have hy : y.toNat < 256 := UInt8.toNat_lt _;exact ((Zb9 x y _ (by omega) (by omega)).1 rfl).2
theorem Zvp (r : Rec) (a : Int) : at' (blk r a) 0 = lo r.kind := rfl
theorem Zvo (r : Rec) (a : Int) : at' (blk r a) 1 = lo a := rfl
theorem Zvn (r : Rec) (a : Int) : at' (blk r a) 2 = lo r.key := rfl
theorem Zvm (r : Rec) (a : Int) : at' (blk r a) 3 = hi r.ver := rfl
theorem Zvl (r : Rec) (a : Int) : at' (blk r a) 4 = lo r.ver := rfl
theorem Zip (r : Rec) (a : Int) : at' (blk r a) 5 = lo (r.data.length : Int) := rfl
theorem Zk3 (r : Rec) (a : Int) : (blk r a).drop 6 = r.data ++ (List.replicate (8 - r.data.length) 0 ++ [hi (Xb (Zaa r a)), lo (Xb (Zaa r a))]) := by
 show (r.data ++ List.replicate (8 - r.data.length) 0) ++ _ = _;rw [List.append_assoc]
theorem Zn3 (r : Rec) (a : Int) (h : Z3 r = 0) : Yr (blk r a) = r := by
 obtain ⟨k0, k1, y0, y1, n0, n1, hl⟩ := Vw h;unfold Yr;rw [Zvp, Zvn, Zvm, Zvl, Zip, Zk3];have e1 := J5 r.kind (by omega) (by omega);have e2 := J5 r.key (by omega) (by omega);have e3 := J5 (r.data.length : Int) (by omega) (by omega);have e4 : ((hi r.ver).toNat : Int) * 256 + ((lo r.ver).toNat : Int) = r.ver := by rw [Zfy, Kl]; omega
 have e5 : (lo (r.data.length : Int)).toNat = r.data.length := by omega
 rw [e1, e2, e4, e5, List.take_left' rfl]
theorem Zr1 (r : Rec) (a : Int) (h : Z3 r = 0) : Y2 (Q0 (blk r a)) = true := by
 obtain ⟨k0, k1, y0, y1, n0, n1, hl⟩ := Vw h;have e3 := J5 (r.data.length : Int) (by omega) (by omega);have e5 : (lo (r.data.length : Int)).toNat = r.data.length := by omega
 unfold Q0;rw [Zip, e5, ← List.drop_drop, Zk3, List.drop_left' rfl, List.take_left' (by simp)];unfold Y2;rw [List.all_eq_true];intro c hc;simp [List.eq_of_mem_replicate hc]
theorem Zll (r : Rec) (a : Int) (h : Z3 r = 0) (h0 : 0 ≤ a) (h1 : a ≤ 255) : spoilt (blk r a) a = 0 := by
 obtain ⟨k0, k1, y0, y1, n0, n1, hl⟩ := Vw h;have e1 := J5 a h0 h1;have e3 := J5 (r.data.length : Int) (by omega) (by omega);unfold spoilt;rw [if_neg (by rw [Vd r a hl]; simp), if_neg (by unfold blk; rw [Ze5]; simp), if_neg (by rw [Zvo, e1]; simp), if_neg (by rw [Zip]; omega), if_neg (by rw [Zr1 r a h]; simp)]
theorem Zjq (r : Rec) (a : Int) (h : Z3 r = 0) (h0 : 0 ≤ a) (h1 : a ≤ 255) : Xn (blk r a) a = 0 ∧ Yx (blk r a) a = r := by
 have e : Xn (blk r a) a = 0 := by unfold Xn; rw [if_pos (Zll r a h h0 h1), Zn3 r a h]; exact h
 refine ⟨e, ?_⟩;unfold Yx;rw [if_pos e, Zn3 r a h]
theorem Zl5 {b : List UInt8} {a : Int} (h : Xn b a = 0) : spoilt b a = 0 ∧ Z3 (Yr b) = 0 ∧ Yx b a = Yr b := by
 have hr : Yx b a = Yr b := by unfold Yx; rw [if_pos h]
 unfold Xn at h;by_cases hs : spoilt b a = 0
 ·rw [if_pos hs] at h; exact ⟨hs, h, hr⟩
 ·rw [if_neg hs] at h; exact absurd h hs
theorem Zv5 (b : List UInt8) (a : Int) (hs : spoilt b a = 0) : b.take 14 = Zaa (Yr b) a := by
 obtain ⟨hl, hsl, hp, h8, hn⟩ := Jc hs;have hlen : ((b.drop 6).take (at' b 5).toNat).length = (at' b 5).toNat := by simp; omega
 have hz : Q0 b = List.replicate (8 - (at' b 5).toNat) 0 := by
  refine List.eq_replicate_iff.2 ⟨by unfold Q0; simp; omega, fun c hc => ?_⟩;unfold Y2 at hn;have := (List.all_eq_true.1 hn) c hc;simpa using this
 unfold Zaa Yr;simp only [];rw [hlen, Zia, Zia, Zv3, Zv2, Zia, ← hp, Zia, ← hz];have e : b.take 14 = [at' b 0, at' b 1, at' b 2, at' b 3, at' b 4, at' b 5] ++ (b.drop 6).take 8 := by
  match b, hl with
  | [x0, x1, x2, x3, x4, x5, x6, x7, x8, x9, x10, x11, x12, x13, x14, x15], _ => rfl
 rw [e]
 congr 1
 unfold Q0;rw [← List.drop_drop, ← List.take_add]
 congr 1
 omega
theorem Zf8 (b : List UInt8) (a : Int) (h : Xn b a = 0) : Z3 (Yx b a) = 0 ∧ blk (Yx b a) a = b := by
 obtain ⟨hs, hw, hr⟩ := Zl5 h;obtain ⟨hl, hsl, -, -, -⟩ := Jc hs;rw [hr];refine ⟨hw, ?_⟩;unfold blk;rw [← Zv5 b a hs];have := Ze6 b (by omega);rw [hsl, hl] at this;exact beq_iff_eq.1 this
theorem Zjp (r : Rec) (a : Int) (n : Nat) (c : UInt8) (h : Z3 r = 0) (hn : n < (blk r a).length) (hne : (blk r a)[n] ≠ c) : Xn ((blk r a).set n c) a = 7 := by
 obtain ⟨k0, k1, y0, y1, n0, n1, hl⟩ := Vw h;have e : spoilt ((blk r a).set n c) a = 7 := by
  have hse : Xd ((blk r a).set n c) = false := Zjc (Zaa r a) n c hn hne;unfold spoilt;rw [if_neg (by rw [List.length_set, Vd r a hl]; simp), if_pos hse]
 unfold Xn;rw [e]; rfl
end Go.Proofs.YtpdnapbchcdhlacGreat
namespace Go.Proofs.YtpdnapbchcdhlacGreat
set_option maxRecDepth 100000
open Plain
variable {a p : Int} {d : Dk} {r : Rec}
theorem Qn : Z3 Rec.free = 0 := by decide
theorem Zca (d : Dk) (a : Int) : Z3 (Z0 d a) = 0 := by
 unfold Z0;split
 ·next h => exact (Zf8 _ _ h).1
 ·exact Qn
theorem Xh (d : Dk) (p : Int) : Z3 (d.tell p) = 0 := by
 unfold Dk.tell;split
 ·exact Qn
 ·split
  ·exact Qn
  ·unfold Km; split
   ·exact Zca _ _
   ·exact Zca _ _
theorem Ze2 (h : d.get a = some (blk r a)) (hr : Z3 r = 0) (h0 : 0 ≤ a) (h1 : a ≤ 255) : Z0 d a = r ∧ Yy d a = 0 := by
 have hb : Yf d a = blk r a := by unfold Yf; rw [h]; rfl
 obtain ⟨he, hR⟩ := Zjq r a hr h0 h1;unfold Yy Z0 Xu;rw [hb, if_pos he, if_pos he]; exact ⟨hR, rfl⟩
theorem Ze3 (h : Xu d a ≠ 0) : Z0 d a = Rec.free ∧ Yy d a = 1 := by
 unfold Yy Z0;rw [if_neg h, if_neg h]; exact ⟨rfl, rfl⟩
theorem Xw (h : (Z0 d a).kind = 1) : Yl d a = 0 := by unfold Yl; rw [if_pos h]
theorem V3 (h : (Z0 d a).kind ≠ 1) : Yl d a = 1 := by unfold Yl; rw [if_neg h]
theorem Vb (hn : d.noPair p = false) (h0 : Z0 d (2 * p) = r) (h1 : Z0 d (2 * p + 1) = r) (hr : r.kind ≠ 1) : d.how p = 1 ∧ d.tell p = r := by
 have s0 : Yl d (2 * p) = 1 := V3 (by rw [h0]; exact hr);have s1 : Yl d (2 * p + 1) = 1 := V3 (by rw [h1]; exact hr);have hs : Xr r r = true := by rw [J0]
 unfold Dk.how Dk.tell Km;rw [hn, s0, s1, h0, h1, if_neg hr];simp [hs]
theorem Zfw (hn : d.noPair p = false) (h0 : (Z0 d (2 * p)).kind = 1) (h1 : (Z0 d (2 * p + 1)).kind = 1) (b0 : Yy d (2 * p) = 0) (b1 : Yy d (2 * p + 1) = 0) : d.how p = 0 ∧ d.tell p = Rec.free := by
 have s0 := Xw h0;have s1 := Xw h1;unfold Dk.how Dk.tell;rw [hn, s0, s1, b0, b1];simp
theorem Vl (hn : d.noPair p = false) (hr : r.kind ≠ 1) (h : Z0 d (2 * p) = r ∧ (Z0 d (2 * p + 1)).kind = 1 ∨ Z0 d (2 * p + 1) = r ∧ (Z0 d (2 * p)).kind = 1) : d.how p = 2 ∧ d.tell p = r := by
 rcases h with ⟨h0, h1⟩ | ⟨h0, h1⟩
 ·have s0 : Yl d (2 * p) = 1 := V3 (by rw [h0]; exact hr);have s1 := Xw h1;unfold Dk.how Dk.tell Km;rw [hn, s0, s1, h0, if_neg hr];simp
 ·have s1 : Yl d (2 * p + 1) = 1 := V3 (by rw [h0]; exact hr);have s0 := Xw h1;unfold Dk.how Dk.tell Km;rw [hn, s0, s1, h0, if_pos h1];simp
theorem Zg7 (h0 : 0 ≤ p) (h1 : 2 * p + 1 < (d.blocks.length : Int)) : (d.pairW p r).get (2 * p) = some (blk r (2 * p)) ∧ (d.pairW p r).get (2 * p + 1) = some (blk r (2 * p + 1)) := by
 have e : d.pairW p r = (d.put (2 * p) (blk r (2 * p))).put (2 * p + 1) (blk r (2 * p + 1)) := by simp [Dk.pairW, Dk.put]
 rw [e];refine ⟨?_, Dk.put_get _ _ _ (by omega) h1⟩;rw [Dk.put_other _ _ _ _ (by omega)];exact Dk.put_get _ _ _ (by omega) (by omega)
theorem Zdt (h0 : 0 ≤ p) (h1 : 2 * p + 1 < (d.blocks.length : Int)) : d.noPair p = false := by
 unfold Dk.noPair; exact decide_eq_false (by omega)
theorem Zct (h0 : 0 ≤ p) (h1 : 2 * p + 1 < (d.blocks.length : Int)) : d.pairE p r = Z3 r := by
 unfold Dk.pairE; rw [if_neg (by omega)]
theorem Zmo (d : Dk) (p : Int) (h0 : 0 ≤ p) (h1 : 2 * p + 1 < (d.blocks.length : Int)) (hlen : d.blocks.length ≤ 256) :
  (d.mendD p).how p = (if (d.tell p).kind = 1 then 0 else 1) ∧ (d.mendD p).tell p = d.tell p ∧ (d.mendD p).mendD p = d.mendD p := by
 have key : (d.mendD p).how p = (if (d.tell p).kind = 1 then 0 else 1) ∧ (d.mendD p).tell p = d.tell p := by
  have hn := Zdt h0 h1;by_cases h2 : 2 ≤ d.how p
  ·have hd : d.mendD p = d.pairW p (d.tell p) := by
    unfold Dk.mendD Dk.pairD;rw [if_pos h2, Zct h0 h1, Xh, if_pos rfl]
   rw [hd];obtain ⟨g0, g1⟩ := Zg7 (d := d) (r := d.tell p) h0 h1;obtain ⟨r0, b0⟩ := Ze2 g0 (Xh d p) (by omega) (by omega);obtain ⟨r1, b1⟩ := Ze2 g1 (Xh d p) (by omega) (by omega);have hn' : (d.pairW p (d.tell p)).noPair p = false := Zdt h0 h1;by_cases hk : (d.tell p).kind = 1
   ·have hf : d.tell p = Rec.free := by
     by_cases hs : Yl d (2 * p) + Yl d (2 * p + 1) = 0
     ·unfold Dk.tell; rw [hn, if_neg (by decide), if_pos hs]
     ·exfalso;have ht : d.tell p = Km d p := by unfold Dk.tell; rw [hn, if_neg (by decide), if_neg hs]
      rw [ht] at hk;unfold Km at hk;by_cases hk0 : (Z0 d (2 * p)).kind = 1
      ·rw [if_pos hk0] at hk;rw [Xw hk0, Xw hk] at hs; exact hs rfl
      ·rw [if_neg hk0] at hk; exact hk0 hk
    rw [if_pos hk];obtain ⟨a, b⟩ := Zfw hn' (by rw [r0]; exact hk) (by rw [r1]; exact hk) b0 b1;exact ⟨a, by rw [b, hf]⟩
   ·rw [if_neg hk];exact Vb hn' r0 r1 hk
  ·have hd : d.mendD p = d := by unfold Dk.mendD; rw [if_neg h2]
   rw [hd];refine ⟨?_, rfl⟩;unfold Dk.how at h2 ⊢;unfold Dk.tell;rw [hn] at h2 ⊢;simp only [Bool.false_eq_true, if_false] at h2 ⊢;have e0 := Zay d (2 * p);have e1 := Zay d (2 * p + 1);by_cases hs : Yl d (2 * p) + Yl d (2 * p + 1) = 2
   ·rw [if_pos hs] at h2 ⊢;have hk : (Z0 d (2 * p)).kind ≠ 1 := fun h => by have := Xw h; omega
    have hz : ¬ (Yl d (2 * p) + Yl d (2 * p + 1) = 0) := by omega
    rw [if_neg hz];by_cases hsm : Xr (Z0 d (2 * p)) (Z0 d (2 * p + 1)) = true
    ·unfold Km; rw [if_pos hsm, if_neg hk, if_neg hk]
    ·rw [if_neg hsm] at h2; omega
   ·rw [if_neg hs] at h2 ⊢;by_cases hs1 : Yl d (2 * p) + Yl d (2 * p + 1) = 1
    ·rw [if_pos hs1] at h2; omega
    ·rw [if_neg hs1] at h2 ⊢;have hz : Yl d (2 * p) + Yl d (2 * p + 1) = 0 := by omega
     rw [if_pos hz, if_pos (show Rec.free.kind = 1 from rfl)];by_cases hb0 : Yy d (2 * p) + Yy d (2 * p + 1) = 0
     ·rw [if_pos hb0]
     ·rw [if_neg hb0] at h2; split at h2 <;> omega
 refine ⟨key.1, key.2, ?_⟩;show (if 2 ≤ (d.mendD p).how p then _ else _) = _;rw [if_neg (by rw [key.1]; split <;> omega)]
theorem Ziq (r : Rec) (a : Int) (h : Z3 r = 0) : (blk r a).length = 16 := Vd r a (Vw h).2.2.2.2.2.2
theorem Zjb {n y : Int} (h : d.get a = some (Qz (blk r a) n y)) (hr : Z3 r = 0) (hn0 : 0 ≤ n) (hn1 : n < ((blk r a).length : Int)) (hy : y % 256 ≠ 0) : Z0 d a = Rec.free ∧ Yy d a = 1 := by
 refine Ze3 ?_;unfold Xu;have hb : Yf d a = Qz (blk r a) n y := by unfold Yf; rw [h]; rfl
 rw [hb];unfold Qz;rw [if_pos ⟨hn0, hn1⟩, Q1 _ _ _ (by omega)];rw [Zjp r a n.toNat _ hr (by omega) ?_]
 ·decide
 ·intro hE;have h1 : lo y = 0 := by
   have h2 : (blk r a)[n.toNat] ^^^ ((blk r a)[n.toNat] ^^^ lo y) = (blk r a)[n.toNat] ^^^ (blk r a)[n.toNat] := by rw [← hE]
   rw [← UInt8.xor_assoc, UInt8.xor_self, UInt8.zero_xor] at h2;exact h2
  have h3 := Kl y;rw [h1] at h3;exact hy h3.symm
theorem Zu3 (a : Int) (h0 : 0 ≤ a) (h1 : a < 12) : (Dk.new.blocks).getD a.toNat [] = blk Rec.free a := by
 unfold Dk.new;rw [Q1 _ _ _ (by simp; omega), List.getElem_map, List.getElem_range, show ((a.toNat : Nat) : Int) = a from by omega]; rfl
variable {a b e : Ent} {l : List Ent}
def Za6 (e : Ent) : List Ent → List Ent
 | [] => [e]
 | x :: l => if Yw e x = true then e :: x :: l else x :: Za6 e l
theorem Zfu (e : Ent) : ∀ (l pre : List Ent), l.foldl (Xl e) (pre, true) = (pre ++ l, true)
 | [], pre => by simp
 | x :: l, pre => by
  rw [List.foldl_cons, show Xl e (pre, true) x = (pre ++ [x], true) from by simp [Xl], Zfu e l];simp
theorem Zhh (e : Ent) : ∀ (l pre : List Ent), (if (l.foldl (Xl e) (pre, false)).2 = true then (l.foldl (Xl e) (pre, false)).1 else (l.foldl (Xl e) (pre, false)).1 ++ [e]) = pre ++ Za6 e l
 | [], pre => by simp [Za6]
 | x :: l, pre => by
  rw [List.foldl_cons];by_cases h : Yw e x = true
  ·rw [show Xl e (pre, false) x = (pre ++ [e] ++ [x], true) from by simp [Xl, h], Zfu];simp [Za6, h]
  ·rw [show Xl e (pre, false) x = (pre ++ [x], false) from by simp [Xl, h], Zhh e l];simp [Za6, h]
theorem Jh (e : Ent) (l : List Ent) : X6 e l = Za6 e l := by
 have := Zhh e l [];unfold X6 Qt;simpa using this
theorem Zc0 (e x : Ent) : ∀ l : List Ent, x ∈ Za6 e l ↔ x = e ∨ x ∈ l
 | [] => by simp [Za6]
 | y :: l => by
  have ih := Zc0 e x l;unfold Za6;split
  ·simp
  ·simp [ih];constructor
   ·rintro (h | h | h)
    ·exact .inr (.inl h)
    ·exact .inl h
    ·exact .inr (.inr h)
   ·rintro (h | h | h)
    ·exact .inr (.inl h)
    ·exact .inl h
    ·exact .inr (.inr h)
theorem Ji (e x : Ent) (l : List Ent) : x ∈ X6 e l ↔ x = e ∨ x ∈ l := by rw [Jh]; exact Zc0 e x l
theorem K3 {c : Ent} (h1 : Yw a b = true) (h2 : Yw b c = true) : Yw a c = true := by
 unfold Yw at h1 h2 ⊢;split at h1 <;> split at h2 <;> split <;> try split at h1 <;> try split at h2 <;> try split
 all_goals simp only [decide_eq_true_eq] at *
 all_goals first | omega | (split at h2 <;> simp only [decide_eq_true_eq] at * <;> first | omega | (split <;> simp only [decide_eq_true_eq] at * <;> omega)) | (split <;> simp only [decide_eq_true_eq] at * <;> omega)
theorem Zcf (h : ¬ Yw a b = true) (hp : a.pair ≠ b.pair) : Yw b a = true := by
 unfold Yw at h ⊢;by_cases hk : a.rc.key = b.rc.key
 ·rw [if_pos hk] at h;rw [if_pos hk.symm];by_cases hv : a.rc.ver = b.rc.ver
  ·rw [if_pos hv] at h;rw [if_pos hv.symm];simp only [decide_eq_true_eq] at *; omega
  ·rw [if_neg hv] at h;rw [if_neg (fun e => hv e.symm)];simp only [decide_eq_true_eq] at *; omega
 ·rw [if_neg hk] at h;rw [if_neg (fun e => hk e.symm)];simp only [decide_eq_true_eq] at *; omega
def Good (e : Ent) : Prop := Z3 e.rc = 0 ∧ e.rc.kind ≠ 1 ∧ 0 ≤ e.pair ∧ e.pair ≤ 1000
def Ups (a b : Ent) : Prop := Yw a b = true ∧ a.pair ≠ b.pair
theorem Zu0 (pre : List Ent) (e : Ent) : okE pre e = true ↔ Good e ∧ Za4 pre e = true ∧ ∀ x ∈ pre, x.pair ≠ e.pair := by
 unfold okE Good;simp only [Bool.and_eq_true, decide_eq_true_eq, List.all_eq_true];exact ⟨fun ⟨⟨h1, h2⟩, h3⟩ => ⟨h1, h2, h3⟩, fun ⟨h1, h2, h3⟩ => ⟨⟨h1, h2⟩, h3⟩⟩
theorem Zs1 : ∀ pre : List Ent, pre.Pairwise Ups → Za4 pre e = true → ∀ x ∈ pre, Yw x e = true := by
 intro pre hp hl x hx;have h : pre ≠ [] := by rintro rfl; cases hx
 obtain ⟨pre', y, rfl⟩ : ∃ pre' y, pre = pre' ++ [y] := ⟨pre.dropLast, pre.getLast h, (List.dropLast_concat_getLast h).symm⟩;have hy : Yw y e = true := by
  unfold Za4 at hl;rw [List.getLast?_append] at hl;simpa using hl
 rcases List.mem_append.1 hx with h1 | h1
 ·have := (List.pairwise_append.1 hp).2.2 x h1 y (by simp);exact K3 this.1 hy
 ·rw [List.mem_singleton.1 h1]; exact hy
theorem Jr : ∀ (l pre : List Ent), pre.Pairwise Ups → (J1 pre l = true ↔ (pre ++ l).Pairwise Ups ∧ ∀ x ∈ l, Good x)
 | [], pre, hp => by simp [J1, hp]
 | e :: l, pre, hp => by
  unfold J1;rw [Bool.and_eq_true, Zu0];constructor
  ·rintro ⟨⟨h1, h2, h3⟩, h4⟩;have hp2 : (pre ++ [e]).Pairwise Ups := List.pairwise_append.2 ⟨hp, by simp, fun x hx y hy => by
    rw [List.mem_singleton.1 hy]; exact ⟨Zs1 pre hp h2 x hx, h3 x hx⟩⟩
   obtain ⟨h5, h6⟩ := (Jr l (pre ++ [e]) hp2).1 h4;refine ⟨by simpa using h5, fun x hx => ?_⟩;rcases List.mem_cons.1 hx with rfl | hx
   ·exact h1
   ·exact h6 x hx
  ·rintro ⟨h1, h2⟩;have hp2 : (pre ++ [e]).Pairwise Ups := by
    have : (pre ++ [e] ++ l).Pairwise Ups := by simpa using h1
    exact (List.pairwise_append.1 this).1
   have hq := (List.pairwise_append.1 hp2).2.2;refine ⟨⟨h2 e (by simp), ?_, fun x hx => (hq x hx e (by simp)).2⟩, (Jr l (pre ++ [e]) hp2).2 ⟨by simpa using h1, fun x hx => h2 x (by simp [hx])⟩⟩;unfold Za4;cases hg : pre.getLast? with
   | none => rfl
   | some y => exact (hq y (List.mem_of_getLast? hg) e (by simp)).1
theorem Xi (l : List Ent) : Ql l = true ↔ l.Pairwise Ups ∧ ∀ x ∈ l, Good x := by
 have := Jr l [] (by simp);simpa [Ql] using this
theorem Zke (e : Ent) : ∀ l : List Ent, l.Pairwise Ups → (∀ x ∈ l, x.pair ≠ e.pair) → (Za6 e l).Pairwise Ups
 | [], _, _ => by simp [Za6]
 | x :: l, hp, hne => by
  obtain ⟨h1, h2⟩ := List.pairwise_cons.1 hp;unfold Za6;by_cases h : Yw e x = true
  ·rw [if_pos h];refine List.pairwise_cons.2 ⟨fun y hy => ?_, hp⟩;rcases List.mem_cons.1 hy with rfl | hy
   ·exact ⟨h, fun e' => hne y (by simp) e'.symm⟩
   ·exact ⟨K3 h (h1 y hy).1, fun e' => hne y (by simp [hy]) e'.symm⟩
  ·rw [if_neg h];refine List.pairwise_cons.2 ⟨fun y hy => ?_, Zke e l h2 fun y hy => hne y (by simp [hy])⟩;rcases (Zc0 e y l).1 hy with rfl | hy
   ·exact ⟨Zcf h fun e' => hne x (by simp) e'.symm, hne x (by simp)⟩
   ·exact h1 y hy
theorem Js (h : Ql l = true) (he : Good e) (hne : ∀ x ∈ l, x.pair ≠ e.pair) : Ql (X6 e l) = true := by
 obtain ⟨h1, h2⟩ := (Xi l).1 h;rw [Xi, Jh];refine ⟨Zke e l h1 hne, fun x hx => ?_⟩;rcases (Zc0 e x l).1 hx with rfl | hx
 ·exact he
 ·exact h2 x hx
def Zam (l : List Ent) (key ver : Int) : Option Ent := l.find? fun x => decide (x.rc.key = key ∧ x.rc.ver = ver)
def Jl (l : List Ent) (p : Int) : List Ent := l.filter fun x => decide (x.pair ≠ p)
def Zac (l : List Ent) (f : Nat) : Prop := (∀ n : Nat, n < f → ∃ x ∈ l, x.pair = (n : Int)) ∧ ∀ x ∈ l, x.pair ≠ (f : Int)
def Zno (l : List Ent) (pairs r : Int) : Prop := ∃ f : Nat, Zac l f ∧ ((f : Int) < pairs ∧ r = (f : Int) ∨ pairs ≤ (f : Int) ∧ r = -1)
theorem Zp1 {f g : Nat} (h1 : Zac l f) (h2 : Zac l g) : f = g := by
 rcases Nat.lt_trichotomy f g with h | h | h
 ·obtain ⟨x, hx, hp⟩ := h2.1 f h;exact absurd hp (h1.2 x hx)
 ·exact h
 ·obtain ⟨x, hx, hp⟩ := h1.1 g h;exact absurd hp (h2.2 x hx)
theorem Zp8 {key ver : Int} (h : ∀ x ∈ l, ¬ (x.rc.key = key ∧ x.rc.ver = ver)) : Zam l key ver = none := by
 unfold Zam;rw [List.find?_eq_none];exact fun x hx => by simpa using h x hx
theorem Va (d : Dk) (x : Ent) : ∀ n, x ∈ Z4 d n ↔ ∃ p : Nat, p < n ∧ (d.tell (p : Int)).kind ≠ 1 ∧ x = ⟨d.tell (p : Int), (p : Int)⟩
 | 0 => by simp [Z4]
 | n + 1 => by
  have ih := Va d x n;unfold Z4;by_cases h : (d.tell (n : Int)).kind = 1
  ·rw [if_pos h, ih];constructor
   ·rintro ⟨p, h1, h2⟩; exact ⟨p, by omega, h2⟩
   ·rintro ⟨p, h1, h2, h3⟩;refine ⟨p, ?_, h2, h3⟩;rcases Nat.lt_succ_iff_lt_or_eq.1 h1 with h4 | rfl
    ·exact h4
    ·exact absurd h h2
  ·rw [if_neg h, Ji, ih];constructor
   ·rintro (rfl | ⟨p, h1, h2⟩)
    ·exact ⟨n, by omega, h, rfl⟩
    ·exact ⟨p, by omega, h2⟩
   ·rintro ⟨p, h1, h2, h3⟩;rcases Nat.lt_succ_iff_lt_or_eq.1 h1 with h4 | rfl
    ·exact .inr ⟨p, h4, h2, h3⟩
    ·exact .inl h3
theorem Vo (d : Dk) : ∀ n, n ≤ 1000 → Ql (Z4 d n) = true
 | 0, _ => rfl
 | n + 1, hn => by
  have ih := Vo d n (by omega);unfold Z4;split
  ·exact ih
  ·rename_i h;refine Js ih ⟨Xh d _, h, by show (0 : Int) ≤ (n : Int); omega, by show (n : Int) ≤ 1000; omega⟩ fun x hx => ?_;obtain ⟨p, h1, _, rfl⟩ := (Va d x n).1 hx;show (p : Int) ≠ (n : Int);omega
end Go.Proofs.YtpdnapbchcdhlacGreat
