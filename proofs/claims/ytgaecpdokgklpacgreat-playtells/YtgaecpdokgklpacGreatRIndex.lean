import Derived.Test.YtgaecpdokgklpacGreatRScan
set_option maxHeartbeats 8000000
namespace Go.Proofs.YtgaecpdokgklpacGreat
set_option maxRecDepth 100000
open Go.RowKit
open Plain Reg
def Za6 (pre : List Ent) (e : Ent) : Bool := match pre.getLast? with | none => true | some x => Y8 x e
def okE (pre : List Ent) (e : Ent) : Bool := decide (Ye e.rc = 0 ∧ e.rc.kind ≠ 1 ∧ 0 ≤ e.pair ∧ e.pair ≤ 1000) && Za6 pre e && pre.all (fun x => decide (x.pair ≠ e.pair))
def Jw (pre : List Ent) : List Ent → Bool
 | [] => true
 | e :: l => okE pre e && Jw (pre ++ [e]) l
def Qy (l : List Ent) : Bool := Jw [] l
theorem Zik (c : UInt8) : lo (c.toNat : Int) = c := by
 refine UInt8.toNat_inj.1 ?_;have := K1 (c.toNat : Int);have hc : c.toNat < 256 := UInt8.toNat_lt _;omega
theorem J2 (n : Int) (h0 : 0 ≤ n) (h1 : n ≤ 255) : ((lo n).toNat : Int) = n := by rw [K1]; omega
theorem Zvj (x y : UInt8) : hi ((x.toNat : Int) * 256 + (y.toNat : Int)) = x := by
 have hx : x.toNat < 256 := UInt8.toNat_lt _;have hy : y.toNat < 256 := UInt8.toNat_lt _;exact ((Zh0 x y _ (by omega) (by omega)).1 rfl).1
theorem Zvi (x y : UInt8) : lo ((x.toNat : Int) * 256 + (y.toNat : Int)) = y := by
 have hx : x.toNat < 256 := UInt8.toNat_lt _;have hy : y.toNat < 256 := UInt8.toNat_lt _;exact ((Zh0 x y _ (by omega) (by omega)).1 rfl).2
theorem Zu3 (r : Rec) (a : Int) : at' (blk r a) 0 = lo r.kind := rfl
theorem Zu2 (r : Rec) (a : Int) : at' (blk r a) 1 = lo a := rfl
theorem Zu1 (r : Rec) (a : Int) : at' (blk r a) 2 = lo r.key := rfl
theorem Zu0 (r : Rec) (a : Int) : at' (blk r a) 3 = hi r.ver := rfl
theorem Zuz (r : Rec) (a : Int) : at' (blk r a) 4 = lo r.ver := rfl
theorem Ziw (r : Rec) (a : Int) : at' (blk r a) 5 = lo (r.data.length : Int) := rfl
theorem Zkw (r : Rec) (a : Int) : (blk r a).drop 6 = r.data ++ (List.replicate (8 - r.data.length) 0 ++ [hi (Xr (Zas r a)), lo (Xr (Zas r a))]) := by
 show (r.data ++ List.replicate (8 - r.data.length) 0) ++ _ = _;rw [List.append_assoc]
theorem Znv (r : Rec) (a : Int) (h : Ye r = 0) : Yy (blk r a) = r := by
 obtain ⟨k0, k1, y0, y1, n0, n1, hl⟩ := Vm h;unfold Yy;rw [Zu3, Zu1, Zu0, Zuz, Ziw, Zkw];have e1 := J2 r.kind (by omega) (by omega);have e2 := J2 r.key (by omega) (by omega);have e3 := J2 (r.data.length : Int) (by omega) (by omega);have e4 : ((hi r.ver).toNat : Int) * 256 + ((lo r.ver).toNat : Int) = r.ver := by rw [Zf2, K1]; omega
 have e5 : (lo (r.data.length : Int)).toNat = r.data.length := by omega
 rw [e1, e2, e4, e5, List.take_left' rfl]
theorem Zrk (r : Rec) (a : Int) (h : Ye r = 0) : Y9 (Q6 (blk r a)) = true := by
 obtain ⟨k0, k1, y0, y1, n0, n1, hl⟩ := Vm h;have e3 := J2 (r.data.length : Int) (by omega) (by omega);have e5 : (lo (r.data.length : Int)).toNat = r.data.length := by omega
 unfold Q6;rw [Ziw, e5, ← List.drop_drop, Zkw, List.drop_left' rfl, List.take_left' (by simp)];unfold Y9;rw [List.all_eq_true];intro c hc;simp [List.eq_of_mem_replicate hc]
theorem Zlf (r : Rec) (a : Int) (h : Ye r = 0) (h0 : 0 ≤ a) (h1 : a ≤ 255) : Y3 (blk r a) a = 0 := by
 obtain ⟨k0, k1, y0, y1, n0, n1, hl⟩ := Vm h;have e1 := J2 a h0 h1;have e3 := J2 (r.data.length : Int) (by omega) (by omega);unfold Y3;rw [if_neg (by rw [Qq r a hl]; simp), if_neg (by unfold blk; rw [Ze2]; simp), if_neg (by rw [Zu2, e1]; simp), if_neg (by rw [Ziw]; omega), if_neg (by rw [Zrk r a h]; simp)]
theorem Zjq (r : Rec) (a : Int) (h : Ye r = 0) (h0 : 0 ≤ a) (h1 : a ≤ 255) : Xz (blk r a) a = 0 ∧ Y6 (blk r a) a = r := by
 have e : Xz (blk r a) a = 0 := by unfold Xz; rw [if_pos (Zlf r a h h0 h1), Znv r a h]; exact h
 refine ⟨e, ?_⟩;unfold Y6;rw [if_pos e, Znv r a h]
theorem Zlz {b : List UInt8} {a : Int} (h : Xz b a = 0) : Y3 b a = 0 ∧ Ye (Yy b) = 0 ∧ Y6 b a = Yy b := by
 have hr : Y6 b a = Yy b := by unfold Y6; rw [if_pos h]
 unfold Xz at h;by_cases hs : Y3 b a = 0
 ·rw [if_pos hs] at h; exact ⟨hs, h, hr⟩
 ·rw [if_neg hs] at h; exact absurd h hs
theorem Zvl (b : List UInt8) (a : Int) (hs : Y3 b a = 0) : b.take 14 = Zas (Yy b) a := by
 obtain ⟨hl, hsl, hp, h8, hn⟩ := Jf hs;have hlen : ((b.drop 6).take (at' b 5).toNat).length = (at' b 5).toNat := by simp; omega
 have hz : Q6 b = List.replicate (8 - (at' b 5).toNat) 0 := by
  refine List.eq_replicate_iff.2 ⟨by unfold Q6; simp; omega, fun c hc => ?_⟩;unfold Y9 at hn;have := (List.all_eq_true.1 hn) c hc;simpa using this
 unfold Zas Yy;simp only [];rw [hlen, Zik, Zik, Zvj, Zvi, Zik, ← hp, Zik, ← hz];have e : b.take 14 = [at' b 0, at' b 1, at' b 2, at' b 3, at' b 4, at' b 5] ++ (b.drop 6).take 8 := by
  match b, hl with
  | [x0, x1, x2, x3, x4, x5, x6, x7, x8, x9, x10, x11, x12, x13, x14, x15], _ => rfl
 rw [e]
 congr 1
 unfold Q6;rw [← List.drop_drop, ← List.take_add]
 congr 1
 omega
theorem Zkv (b : List UInt8) (a : Int) (h : Xz b a = 0) : Ye (Y6 b a) = 0 ∧ blk (Y6 b a) a = b := by
 obtain ⟨hs, hw, hr⟩ := Zlz h;obtain ⟨hl, hsl, -, -, -⟩ := Jf hs;rw [hr];refine ⟨hw, ?_⟩;unfold blk;rw [← Zvl b a hs];have := Ze3 b (by omega);rw [hsl, hl] at this;exact beq_iff_eq.1 this
end Go.Proofs.YtgaecpdokgklpacGreat
namespace Go.Proofs.YtgaecpdokgklpacGreat
set_option maxRecDepth 100000
open Plain
theorem Kv : Ye Rec.free = 0 := by decide
theorem Zb6 (d : Dk) (a : Int) : Ye (Yn d a) = 0 := by
 unfold Yn;split
 ·next h => exact (Zkv _ _ h).1
 ·exact Kv
theorem Vf (d : Dk) (p : Int) : Ye (d.tell p) = 0 := by
 unfold Dk.tell;split
 ·exact Kv
 ·split
  ·exact Kv
  ·unfold Jq; split
   ·exact Zb6 _ _
   ·exact Zb6 _ _
theorem Zjd {d : Dk} {a : Int} {r : Rec} (h : d.get a = some (blk r a)) (hr : Ye r = 0) (h0 : 0 ≤ a) (h1 : a ≤ 255) : Yn d a = r ∧ Xs d a = 0 := by
 have hb : Yv d a = blk r a := by unfold Yv; rw [h]; rfl
 obtain ⟨he, hR⟩ := Zjq r a hr h0 h1;unfold Xs Yn Qz;rw [hb, if_pos he, if_pos he]; exact ⟨hR, rfl⟩
theorem Vs {d : Dk} {a : Int} (h : (Yn d a).kind = 1) : Yu d a = 0 := by unfold Yu; rw [if_pos h]
theorem Zdg {d : Dk} {a : Int} (h : (Yn d a).kind ≠ 1) : Yu d a = 1 := by unfold Yu; rw [if_neg h]
theorem Zf0 {d : Dk} {p : Int} {r : Rec} (hn : d.noPair p = false) (h0 : Yn d (2 * p) = r) (h1 : Yn d (2 * p + 1) = r) (hr : r.kind ≠ 1) : d.how p = 1 ∧ d.tell p = r := by
 have s0 : Yu d (2 * p) = 1 := Zdg (by rw [h0]; exact hr);have s1 : Yu d (2 * p + 1) = 1 := Zdg (by rw [h1]; exact hr);have hs : Qt r r = true := by rw [Ju]
 unfold Dk.how Dk.tell Jq;rw [hn, s0, s1, h0, h1, if_neg hr];simp [hs]
theorem Zfz {d : Dk} {p : Int} (hn : d.noPair p = false) (h0 : (Yn d (2 * p)).kind = 1) (h1 : (Yn d (2 * p + 1)).kind = 1) (b0 : Xs d (2 * p) = 0) (b1 : Xs d (2 * p + 1) = 0) : d.how p = 0 ∧ d.tell p = Rec.free := by
 have s0 := Vs h0;have s1 := Vs h1;unfold Dk.how Dk.tell;rw [hn, s0, s1, b0, b1];simp
theorem Zhc {d : Dk} {p : Int} {r : Rec} (h0 : 0 ≤ p) (h1 : 2 * p + 1 < (d.blocks.length : Int)) : (d.pairW p r).get (2 * p) = some (blk r (2 * p)) ∧ (d.pairW p r).get (2 * p + 1) = some (blk r (2 * p + 1)) := by
 have e : d.pairW p r = (d.put (2 * p) (blk r (2 * p))).put (2 * p + 1) (blk r (2 * p + 1)) := by simp [Dk.pairW, Dk.put]
 rw [e];refine ⟨?_, Dk.put_get _ _ _ (by omega) h1⟩;rw [Dk.put_other _ _ _ _ (by omega)];exact Dk.put_get _ _ _ (by omega) (by omega)
theorem Zds {d : Dk} {p : Int} (h0 : 0 ≤ p) (h1 : 2 * p + 1 < (d.blocks.length : Int)) : d.noPair p = false := by
 unfold Dk.noPair; exact decide_eq_false (by omega)
theorem Zcs {d : Dk} {p : Int} {r : Rec} (h0 : 0 ≤ p) (h1 : 2 * p + 1 < (d.blocks.length : Int)) : d.pairE p r = Ye r := by
 unfold Dk.pairE; rw [if_neg (by omega)]
theorem Zmh (d : Dk) (p : Int) (h0 : 0 ≤ p) (h1 : 2 * p + 1 < (d.blocks.length : Int)) (hlen : d.blocks.length ≤ 256) :
  (d.mendD p).how p = (if (d.tell p).kind = 1 then 0 else 1) ∧ (d.mendD p).tell p = d.tell p ∧ (d.mendD p).mendD p = d.mendD p := by
 have key : (d.mendD p).how p = (if (d.tell p).kind = 1 then 0 else 1) ∧ (d.mendD p).tell p = d.tell p := by
  have hn := Zds h0 h1;by_cases h2 : 2 ≤ d.how p
  ·have hd : d.mendD p = d.pairW p (d.tell p) := by
    unfold Dk.mendD Dk.pairD;rw [if_pos h2, Zcs h0 h1, Vf, if_pos rfl]
   rw [hd];obtain ⟨g0, g1⟩ := Zhc (d := d) (r := d.tell p) h0 h1;obtain ⟨r0, b0⟩ := Zjd g0 (Vf d p) (by omega) (by omega);obtain ⟨r1, b1⟩ := Zjd g1 (Vf d p) (by omega) (by omega);have hn' : (d.pairW p (d.tell p)).noPair p = false := Zds h0 h1;by_cases hk : (d.tell p).kind = 1
   ·have hf : d.tell p = Rec.free := by
     by_cases hs : Yu d (2 * p) + Yu d (2 * p + 1) = 0
     ·unfold Dk.tell; rw [hn, if_neg (by decide), if_pos hs]
     ·exfalso;have ht : d.tell p = Jq d p := by unfold Dk.tell; rw [hn, if_neg (by decide), if_neg hs]
      rw [ht] at hk;unfold Jq at hk;by_cases hk0 : (Yn d (2 * p)).kind = 1
      ·rw [if_pos hk0] at hk;rw [Vs hk0, Vs hk] at hs; exact hs rfl
      ·rw [if_neg hk0] at hk; exact hk0 hk
    rw [if_pos hk];obtain ⟨a, b⟩ := Zfz hn' (by rw [r0]; exact hk) (by rw [r1]; exact hk) b0 b1;exact ⟨a, by rw [b, hf]⟩
   ·rw [if_neg hk];exact Zf0 hn' r0 r1 hk
  ·have hd : d.mendD p = d := by unfold Dk.mendD; rw [if_neg h2]
   rw [hd];refine ⟨?_, rfl⟩;unfold Dk.how at h2 ⊢;unfold Dk.tell;rw [hn] at h2 ⊢;simp only [Bool.false_eq_true, if_false] at h2 ⊢;have e0 := Za2 d (2 * p);have e1 := Za2 d (2 * p + 1);by_cases hs : Yu d (2 * p) + Yu d (2 * p + 1) = 2
   ·rw [if_pos hs] at h2 ⊢;have hk : (Yn d (2 * p)).kind ≠ 1 := fun h => by have := Vs h; omega
    have hz : ¬ (Yu d (2 * p) + Yu d (2 * p + 1) = 0) := by omega
    rw [if_neg hz];by_cases hsm : Qt (Yn d (2 * p)) (Yn d (2 * p + 1)) = true
    ·unfold Jq; rw [if_pos hsm, if_neg hk, if_neg hk]
    ·rw [if_neg hsm] at h2; omega
   ·rw [if_neg hs] at h2 ⊢;by_cases hs1 : Yu d (2 * p) + Yu d (2 * p + 1) = 1
    ·rw [if_pos hs1] at h2; omega
    ·rw [if_neg hs1] at h2 ⊢;have hz : Yu d (2 * p) + Yu d (2 * p + 1) = 0 := by omega
     rw [if_pos hz, if_pos (show Rec.free.kind = 1 from rfl)];by_cases hb0 : Xs d (2 * p) + Xs d (2 * p + 1) = 0
     ·rw [if_pos hb0]
     ·rw [if_neg hb0] at h2; split at h2 <;> omega
 refine ⟨key.1, key.2, ?_⟩;show (if 2 ≤ (d.mendD p).how p then _ else _) = _;rw [if_neg (by rw [key.1]; split <;> omega)]
theorem Zm6 (r : Rec) (a : Int) (h : Ye r = 0) : (blk r a).length = 16 := Qq r a (Vm h).2.2.2.2.2.2
def Zcf (e : Ent) : List Ent → List Ent
 | [] => [e]
 | x :: l => if Y8 e x = true then e :: x :: l else x :: Zcf e l
theorem Zfx (e : Ent) : ∀ (l pre : List Ent), l.foldl (Xv e) (pre, true) = (pre ++ l, true)
 | [], pre => by simp
 | x :: l, pre => by
  rw [List.foldl_cons, show Xv e (pre, true) x = (pre ++ [x], true) from by simp [Xv], Zfx e l];simp
theorem Zhi (e : Ent) : ∀ (l pre : List Ent), (if (l.foldl (Xv e) (pre, false)).2 = true then (l.foldl (Xv e) (pre, false)).1 else (l.foldl (Xv e) (pre, false)).1 ++ [e]) = pre ++ Zcf e l
 | [], pre => by simp [Zcf]
 | x :: l, pre => by
  rw [List.foldl_cons];by_cases h : Y8 e x = true
  ·rw [show Xv e (pre, false) x = (pre ++ [e] ++ [x], true) from by simp [Xv, h], Zfx];simp [Zcf, h]
  ·rw [show Xv e (pre, false) x = (pre ++ [x], false) from by simp [Xv, h], Zhi e l];simp [Zcf, h]
theorem Za8 (e : Ent) (l : List Ent) : Qi e l = Zcf e l := by
 have := Zhi e l [];unfold Qi Q3;simpa using this
theorem Zc0 (e x : Ent) : ∀ l : List Ent, x ∈ Zcf e l ↔ x = e ∨ x ∈ l
 | [] => by simp [Zcf]
 | y :: l => by
  have ih := Zc0 e x l;unfold Zcf;split
  ·simp
  ·simp [ih];constructor
   ·rintro (h | h | h)
    ·exact .inr (.inl h)
    ·exact .inl h
    ·exact .inr (.inr h)
   ·rintro (h | h | h)
    ·exact .inr (.inl h)
    ·exact .inl h
    ·exact .inr (.inr h)
theorem Zec (e x : Ent) (l : List Ent) : x ∈ Qi e l ↔ x = e ∨ x ∈ l := by rw [Za8]; exact Zc0 e x l
theorem K2 {a b c : Ent} (h1 : Y8 a b = true) (h2 : Y8 b c = true) : Y8 a c = true := by
 unfold Y8 at h1 h2 ⊢;split at h1 <;> split at h2 <;> split <;> try split at h1 <;> try split at h2 <;> try split
 all_goals simp only [decide_eq_true_eq] at *
 all_goals first | omega | (split at h2 <;> simp only [decide_eq_true_eq] at * <;> first | omega | (split <;> simp only [decide_eq_true_eq] at * <;> omega)) | (split <;> simp only [decide_eq_true_eq] at * <;> omega)
theorem Zcb {a b : Ent} (h : ¬ Y8 a b = true) (hp : a.pair ≠ b.pair) : Y8 b a = true := by
 unfold Y8 at h ⊢;by_cases hk : a.rc.key = b.rc.key
 ·rw [if_pos hk] at h;rw [if_pos hk.symm];by_cases hv : a.rc.ver = b.rc.ver
  ·rw [if_pos hv] at h;rw [if_pos hv.symm];simp only [decide_eq_true_eq] at *; omega
  ·rw [if_neg hv] at h;rw [if_neg (fun e => hv e.symm)];simp only [decide_eq_true_eq] at *; omega
 ·rw [if_neg hk] at h;rw [if_neg (fun e => hk e.symm)];simp only [decide_eq_true_eq] at *; omega
def Zk3 (e : Ent) : Prop := Ye e.rc = 0 ∧ e.rc.kind ≠ 1 ∧ 0 ≤ e.pair ∧ e.pair ≤ 1000
def Ups (a b : Ent) : Prop := Y8 a b = true ∧ a.pair ≠ b.pair
theorem Zul (pre : List Ent) (e : Ent) : okE pre e = true ↔ Zk3 e ∧ Za6 pre e = true ∧ ∀ x ∈ pre, x.pair ≠ e.pair := by
 unfold okE Zk3;simp only [Bool.and_eq_true, decide_eq_true_eq, List.all_eq_true];exact ⟨fun ⟨⟨h1, h2⟩, h3⟩ => ⟨h1, h2, h3⟩, fun ⟨h1, h2, h3⟩ => ⟨⟨h1, h2⟩, h3⟩⟩
theorem Zsk {e : Ent} : ∀ pre : List Ent, pre.Pairwise Ups → Za6 pre e = true → ∀ x ∈ pre, Y8 x e = true := by
 intro pre hp hl x hx;have h : pre ≠ [] := by rintro rfl; cases hx
 obtain ⟨pre', y, rfl⟩ : ∃ pre' y, pre = pre' ++ [y] := ⟨pre.dropLast, pre.getLast h, (List.dropLast_concat_getLast h).symm⟩;have hy : Y8 y e = true := by
  unfold Za6 at hl;rw [List.getLast?_append] at hl;simpa using hl
 rcases List.mem_append.1 hx with h1 | h1
 ·have := (List.pairwise_append.1 hp).2.2 x h1 y (by simp);exact K2 this.1 hy
 ·rw [List.mem_singleton.1 h1]; exact hy
theorem Jp : ∀ (l pre : List Ent), pre.Pairwise Ups → (Jw pre l = true ↔ (pre ++ l).Pairwise Ups ∧ ∀ x ∈ l, Zk3 x)
 | [], pre, hp => by simp [Jw, hp]
 | e :: l, pre, hp => by
  unfold Jw;rw [Bool.and_eq_true, Zul];constructor
  ·rintro ⟨⟨h1, h2, h3⟩, h4⟩;have hp2 : (pre ++ [e]).Pairwise Ups := List.pairwise_append.2 ⟨hp, by simp, fun x hx y hy => by
    rw [List.mem_singleton.1 hy]; exact ⟨Zsk pre hp h2 x hx, h3 x hx⟩⟩
   obtain ⟨h5, h6⟩ := (Jp l (pre ++ [e]) hp2).1 h4;refine ⟨by simpa using h5, fun x hx => ?_⟩;rcases List.mem_cons.1 hx with rfl | hx
   ·exact h1
   ·exact h6 x hx
  ·rintro ⟨h1, h2⟩;have hp2 : (pre ++ [e]).Pairwise Ups := by
    have : (pre ++ [e] ++ l).Pairwise Ups := by simpa using h1
    exact (List.pairwise_append.1 this).1
   have hq := (List.pairwise_append.1 hp2).2.2;refine ⟨⟨h2 e (by simp), ?_, fun x hx => (hq x hx e (by simp)).2⟩, (Jp l (pre ++ [e]) hp2).2 ⟨by simpa using h1, fun x hx => h2 x (by simp [hx])⟩⟩;unfold Za6;cases hg : pre.getLast? with
   | none => rfl
   | some y => exact (hq y (List.mem_of_getLast? hg) e (by simp)).1
theorem X4 (l : List Ent) : Qy l = true ↔ l.Pairwise Ups ∧ ∀ x ∈ l, Zk3 x := by
 have := Jp l [] (by simp);simpa [Qy] using this
theorem Zke (e : Ent) : ∀ l : List Ent, l.Pairwise Ups → (∀ x ∈ l, x.pair ≠ e.pair) → (Zcf e l).Pairwise Ups
 | [], _, _ => by simp [Zcf]
 | x :: l, hp, hne => by
  obtain ⟨h1, h2⟩ := List.pairwise_cons.1 hp;unfold Zcf;by_cases h : Y8 e x = true
  ·rw [if_pos h];refine List.pairwise_cons.2 ⟨fun y hy => ?_, hp⟩;rcases List.mem_cons.1 hy with rfl | hy
   ·exact ⟨h, fun e' => hne y (by simp) e'.symm⟩
   ·exact ⟨K2 h (h1 y hy).1, fun e' => hne y (by simp [hy]) e'.symm⟩
  ·rw [if_neg h];refine List.pairwise_cons.2 ⟨fun y hy => ?_, Zke e l h2 fun y hy => hne y (by simp [hy])⟩;rcases (Zc0 e y l).1 hy with rfl | hy
   ·exact ⟨Zcb h fun e' => hne x (by simp) e'.symm, hne x (by simp)⟩
   ·exact h1 y hy
theorem Zb1 {e : Ent} {l : List Ent} (h : Qy l = true) (he : Zk3 e) (hne : ∀ x ∈ l, x.pair ≠ e.pair) : Qy (Qi e l) = true := by
 obtain ⟨h1, h2⟩ := (X4 l).1 h;rw [X4, Za8];refine ⟨Zke e l h1 hne, fun x hx => ?_⟩;rcases (Zc0 e x l).1 hx with rfl | hx
 ·exact he
 ·exact h2 x hx
def Zaq (l : List Ent) (key ver : Int) : Option Ent := l.find? fun x => decide (x.rc.key = key ∧ x.rc.ver = ver)
def Vy (l : List Ent) (p : Int) : List Ent := l.filter fun x => decide (x.pair ≠ p)
def Ja (l : List Ent) (f : Nat) : Prop := (∀ n : Nat, n < f → ∃ x ∈ l, x.pair = (n : Int)) ∧ ∀ x ∈ l, x.pair ≠ (f : Int)
def Znd (l : List Ent) (pairs r : Int) : Prop := ∃ f : Nat, Ja l f ∧ ((f : Int) < pairs ∧ r = (f : Int) ∨ pairs ≤ (f : Int) ∧ r = -1)
theorem Zpq {l : List Ent} {f g : Nat} (h1 : Ja l f) (h2 : Ja l g) : f = g := by
 rcases Nat.lt_trichotomy f g with h | h | h
 ·obtain ⟨x, hx, hp⟩ := h2.1 f h;exact absurd hp (h1.2 x hx)
 ·exact h
 ·obtain ⟨x, hx, hp⟩ := h1.1 g h;exact absurd hp (h2.2 x hx)
theorem Zpy {l : List Ent} {key ver : Int} (h : ∀ x ∈ l, ¬ (x.rc.key = key ∧ x.rc.ver = ver)) : Zaq l key ver = none := by
 unfold Zaq;rw [List.find?_eq_none];exact fun x hx => by simpa using h x hx
theorem Za3 (d : Dk) (x : Ent) : ∀ n, x ∈ Yd d n ↔ ∃ p : Nat, p < n ∧ (d.tell (p : Int)).kind ≠ 1 ∧ x = ⟨d.tell (p : Int), (p : Int)⟩
 | 0 => by simp [Yd]
 | n + 1 => by
  have ih := Za3 d x n;unfold Yd;by_cases h : (d.tell (n : Int)).kind = 1
  ·rw [if_pos h, ih];constructor
   ·rintro ⟨p, h1, h2⟩; exact ⟨p, by omega, h2⟩
   ·rintro ⟨p, h1, h2, h3⟩;refine ⟨p, ?_, h2, h3⟩;rcases Nat.lt_succ_iff_lt_or_eq.1 h1 with h4 | rfl
    ·exact h4
    ·exact absurd h h2
  ·rw [if_neg h, Zec, ih];constructor
   ·rintro (rfl | ⟨p, h1, h2⟩)
    ·exact ⟨n, by omega, h, rfl⟩
    ·exact ⟨p, by omega, h2⟩
   ·rintro ⟨p, h1, h2, h3⟩;rcases Nat.lt_succ_iff_lt_or_eq.1 h1 with h4 | rfl
    ·exact .inr ⟨p, h4, h2, h3⟩
    ·exact .inl h3
theorem Zaf (d : Dk) : ∀ n, n ≤ 1000 → Qy (Yd d n) = true
 | 0, _ => rfl
 | n + 1, hn => by
  have ih := Zaf d n (by omega);unfold Yd;split
  ·exact ih
  ·rename_i h;refine Zb1 ih ⟨Vf d _, h, by show (0 : Int) ≤ (n : Int); omega, by show (n : Int) ≤ 1000; omega⟩ fun x hx => ?_;obtain ⟨p, h1, _, rfl⟩ := (Za3 d x n).1 hx;show (p : Int) ≠ (n : Int);omega
end Go.Proofs.YtgaecpdokgklpacGreat
