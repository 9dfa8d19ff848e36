import Derived.Test.YtpdnapbchcdhlacGreatInv
import Derived.Deep.DeepCutAuto
set_option maxHeartbeats 8000000
namespace Go.Proofs.YtpdnapbchcdhlacGreat
set_option maxRecDepth 100000
open Plain
variable {d : Dd}
theorem Zlv (e : Ent) : ∀ l : List Ent, (Zb3 e l).length = l.length + 1
 | [] => rfl
 | x :: l => by
  unfold Zb3;split
  ·rfl
  ·simp [Zlv e l]
theorem Zp0 : ∀ (l : List Ent) (i : Nat) (h : i < l.length), l.Pairwise Ups → Q4 l l[i].pair = l.take i ++ l.drop (i + 1)
 | a :: l, 0, _, hp => by
  obtain ⟨h1, _⟩ := List.pairwise_cons.1 hp;unfold Q4;simp only [List.getElem_cons_zero, List.take_zero, List.nil_append, List.drop_succ_cons, List.drop_zero];rw [List.filter_cons_of_neg (by simp), List.filter_eq_self];intro x hx;exact decide_eq_true (fun e => (h1 x hx).2 e.symm)
 | a :: l, i + 1, h, hp => by
  obtain ⟨h1, h2⟩ := List.pairwise_cons.1 hp;have hi : i < l.length := by simpa using h
  have ih := Zp0 l i hi h2;unfold Q4 at ih ⊢;simp only [List.getElem_cons_succ, List.take_succ_cons, List.drop_succ_cons, List.cons_append];rw [List.filter_cons_of_pos (by exact decide_eq_true (h1 _ (List.getElem_mem hi)).2), ih]
theorem Zft {s : St} (h : s.Inv) (x : Ent) : x ∈ s.idx ↔ ∃ p : Nat, p < 6 ∧ (s.dk.tell (p : Int)).kind ≠ 1 ∧ x = ⟨s.dk.tell (p : Int), (p : Int)⟩ := by rw [h.idx]; exact Vq s.dk x 6
theorem Zth {s : St} (h : s.Inv) (r : Rec) : r ∈ s.recs ↔ ∃ p : Nat, p < 6 ∧ (s.dk.tell (p : Int)).kind ≠ 1 ∧ r = s.dk.tell (p : Int) := by
 unfold St.recs;rw [List.mem_map];constructor
 ·rintro ⟨x, hx, rfl⟩;obtain ⟨p, hp, hk, rfl⟩ := (Zft h x).1 hx;exact ⟨p, hp, hk, rfl⟩
 ·rintro ⟨p, hp, hk, rfl⟩;exact ⟨_, (Zft h _).2 ⟨p, hp, hk, rfl⟩, rfl⟩
theorem Zw1 {s : St} (h : s.Inv) : s.idx.Pairwise Ups := by rw [h.idx]; exact Zgc s.dk
theorem Zr6 {s : St} (h : s.Inv) (hw : Yr d = 0) (hk : d.kind ≠ 3) (he : (doR s.recs d).e = 0) :
  ∃ p : Nat, p < 6 ∧ Xy s.idx = p ∧ doR s.recs d = ⟨s.recs ++ [Y3 d (X1 s.recs)], X1 s.recs, 0⟩ ∧ Yd (Y3 d (X1 s.recs)) = 0 ∧ (Y3 d (X1 s.recs)).kind ≠ 1 ∧ (s.dk.tell (p : Int)).kind = 1 ∧ ∀ q : Nat, q < 6 → (s.dk.tell (q : Int)).kind ≠ 1 → (s.dk.tell (q : Int)).ver ≠ (Y3 d (X1 s.recs)).ver := by
 obtain ⟨h5, hn, h6⟩ := Zd3 hk he;have hl5 : s.idx.length ≤ 5 := by simpa [St.recs] using h5
 obtain ⟨hL, hL5⟩ := Zbf (l := s.idx) (by omega);have hm := Zc9 (n := X1 s.recs) hw hk Zfs.1 h6;refine ⟨Xy s.idx, by omega, rfl, ?_, hm.1, hm.2, ?_, fun q hq hkq => ?_⟩
 ·unfold doR;rw [if_neg hk, if_neg (by omega), if_neg (by omega)]
 ·by_cases e : (s.dk.tell ((Xy s.idx : Nat) : Int)).kind = 1
  ·exact e
  ·exact absurd rfl (hL.2 _ ((Zft h _).2 ⟨_, by omega, e, rfl⟩))
 ·have := Zfs.2 _ ((Zth h _).2 ⟨q, hq, hkq, rfl⟩);show _ ≠ X1 s.recs;omega
theorem Zmg {s : St} (h : s.Inv) (hk : d.kind = 3) (he : (doR s.recs d).e = 0) :
  ∃ p : Nat, p < 6 ∧ Kf d s.idx = (p : Int) ∧ (doR s.recs d).l = (Q4 s.idx (p : Int)).map Ent.rc ∧ (doR s.recs d).n = d.num ∧ (s.dk.tell (p : Int)).kind ≠ 1 := by
 unfold doR at he ⊢;rw [if_pos hk] at he ⊢;cases hf : s.recs.findIdx? (Vc d) with
 | none => rw [hf] at he; cases he
 | some i =>
  simp only;obtain ⟨hi, hfi, hlt⟩ := List.findIdx?_eq_some_iff_getElem.1 hf;have hil : i < s.idx.length := by simpa [St.recs] using hi
  have hget : s.recs[i] = s.idx[i].rc := by simp [St.recs]
  have hfind : s.idx.find? (Zbj d) = some s.idx[i] := by
   rw [List.find?_eq_some_iff_getElem];refine ⟨?_, i, hil, rfl, fun j hj => ?_⟩
   ·have : Vc d s.recs[i] = true := hfi;rw [hget] at this; exact this
   ·have hjl : j < s.recs.length := by omega
    have h1 := hlt j hj;have : s.recs[j] = s.idx[j].rc := by simp [St.recs]
    rw [this] at h1;have h2 : ¬ Vc d s.idx[j].rc = true := h1;show (!Vc d s.idx[j].rc) = true;simpa using h2
  obtain ⟨p, hp, hkp, hx⟩ := (Zft h _).1 (List.getElem_mem hil);have hpair : s.idx[i].pair = (p : Int) := by rw [hx]
  refine ⟨p, hp, ?_, ?_, trivial, hkp⟩
  ·unfold Kf;rw [if_pos hk, hfind];exact hpair
  ·rw [← hpair, Zp0 s.idx i hil (Zw1 h)];simp [St.recs]
structure Zzx (s : St) (d : Dd) (p : Nat) (r : Rec) : Prop where
 p6 : p < 6
 right : Yd r = 0
 disk : (s.begin d).st.dk = s.dk.pairD (p : Int) r
 next : (s.begin d).st.next = s.next
 n : (s.begin d).n = (doR s.recs d).n
 good : ∀ x y, (s.dk.half p r x y).Good
 same : ∀ x y, (∀ q : Nat, q < 6 → (s.dk.half p r x y).tell (q : Int) = s.dk.tell (q : Int)) ∨ (Z5 (s.dk.half p r x y) 6 = (s.begin d).st.idx)
 whole : Z5 (s.dk.half p r true true) 6 = (s.begin d).st.idx
 recs : Zeg (s.begin d).st.recs (doR s.recs d).l = true
theorem Zdf {s : St} (h : s.Inv) (he : (s.begin d).e = 0) : ∃ p r, Zzx s d p r := by
 have hg := h.good;unfold St.begin at he;by_cases hw : Yr d = 0
 ·rw [if_neg (by simpa using hw)] at he;by_cases hr : (doR s.recs d).e = 0
  ·have hb : s.begin d = if d.kind = 3 then ⟨⟨s.dk.pairD (Kf d s.idx) Rec.free, Q4 s.idx (Kf d s.idx), s.next⟩, (doR s.recs d).n, 0⟩ else ⟨⟨s.dk.pairD (Xy s.idx) (Y3 d (doR s.recs d).n), X0 ⟨Y3 d (doR s.recs d).n, (Xy s.idx : Nat)⟩ s.idx, s.next⟩, (doR s.recs d).n, 0⟩ := by
    unfold St.begin;rw [if_neg (by simpa using hw), if_neg (by simpa using hr)]
   by_cases hk : d.kind = 3
   ·rw [if_pos hk] at hb;obtain ⟨p, hp, hat, hl, hn, hkp⟩ := Zmg h hk hr;rw [hat] at hb;have hoth : ∀ x y q, q < 6 → q ≠ p → (s.dk.half p Rec.free x y).tell ((q : Nat) : Int) = s.dk.tell (q : Int) := fun x y q hq hne => (Qz hg.fine hp hq hne Q6 x y).2
    have hdrop : ∀ x y, (s.dk.half p Rec.free x y).tell (p : Int) = Rec.free → Z5 (s.dk.half p Rec.free x y) 6 = Q4 s.idx (p : Int) := fun x y ht => by
     rw [h.idx]; exact Zqk (by rw [ht]; rfl) (hoth x y)
    refine ⟨p, Rec.free, hp, Q6, by rw [hb], by rw [hb], by rw [hb], fun x y => hg.free hp x y, fun x y => ?_, ?_, ?_⟩
    ·rcases (Zco hg.fine hp (hg.three p hp) x y).2.1 with e | e
     ·left; intro q hq;by_cases eq : q = p
      ·subst eq; exact e
      ·exact hoth x y q hq eq
     ·right; rw [hb]; exact hdrop x y e
    ·rw [hb]; exact hdrop true true ((Zco hg.fine hp (hg.three p hp) true true).2.2 rfl rfl).1
    ·rw [hb, hl]; exact Zkt _
   ·rw [if_neg hk] at hb;obtain ⟨p, hp, hlf, hdo, hwm, hkm, ht, hv⟩ := Zr6 h hw hk hr;have hn : (doR s.recs d).n = X1 s.recs := by rw [hdo]
    rw [hlf, hn] at hb;have hoth : ∀ x y q, q < 6 → q ≠ p → (s.dk.half p (Y3 d (X1 s.recs)) x y).tell ((q : Nat) : Int) = s.dk.tell (q : Int) := fun x y q hq hne => (Qz hg.fine hp hq hne hwm x y).2
    have hput : ∀ x y, (x || y) = true → Z5 (s.dk.half p (Y3 d (X1 s.recs)) x y) 6 = X0 ⟨Y3 d (X1 s.recs), (p : Int)⟩ s.idx := fun x y hxy => by
     rw [h.idx];refine Zs9 hp hkm ht ?_ (hoth x y) hwm;rw [(Zlw hg.fine hp hwm hkm (hg.three p hp) ht x y).2, if_pos hxy]
    refine ⟨p, Y3 d (X1 s.recs), hp, hwm, by rw [hb], by rw [hb], by rw [hb, hn], fun x y => hg.put hp hwm hkm ht hv x y, fun x y => ?_, ?_, ?_⟩
    ·by_cases hxy : (x || y) = true
     ·right; rw [hb]; exact hput x y hxy
     ·left;obtain ⟨rfl, rfl⟩ : x = false ∧ y = false := by simpa using hxy
      rw [Zey s.dk hg.fine]; intro _ _; rfl
    ·rw [hb]; exact hput true true rfl
    ·rw [hb, hdo];unfold Zeg;rw [Bool.and_eq_true, List.all_eq_true];refine ⟨fun r hr => ?_, decide_eq_true ?_⟩
     ·unfold Zmi;rw [List.any_eq_true];refine ⟨r, ?_, (V7 _ _).2 rfl⟩;obtain ⟨x, hx, rfl⟩ := List.mem_map.1 hr;rcases (Ka _ _ _).1 hx with rfl | hx
      ·exact List.mem_append_right _ (by simp)
      ·exact List.mem_append_left _ (List.mem_map_of_mem hx)
     ·show ((X0 _ s.idx).map Ent.rc).length = (s.recs ++ [_]).length;rw [List.length_map, J6, Zlv];simp [St.recs]
  ·rw [if_pos (by simpa using hr)] at he; exact absurd he hr
 ·rw [if_pos (by simpa using hw)] at he; exact absurd he hw
theorem Ze1 {s : St} (he : (s.begin d).e ≠ 0) : (s.begin d).st = s ∧ (s.begin d).n = 0 ∧ (Yr d = 0 → (s.begin d).e = (doR s.recs d).e ∧ (doR s.recs d).l = s.recs ∧ (doR s.recs d).n = 0) ∧ (Yr d ≠ 0 → (s.begin d).e = Yr d) := by
 unfold St.begin at he ⊢;by_cases hw : Yr d = 0
 ·rw [if_neg (by simpa using hw)] at he ⊢;by_cases hr : (doR s.recs d).e = 0
  ·rw [if_neg (by simpa using hr)] at he;exfalso;split at he <;> exact he rfl
  ·rw [if_pos (by simpa using hr)];refine ⟨rfl, rfl, fun _ => ⟨rfl, ?_⟩, fun h => absurd hw h⟩;unfold doR at hr ⊢;split
   ·split
    ·rename_i h3 _ i hf; rw [if_pos h3, hf] at hr; exact absurd rfl hr
    ·exact ⟨rfl, rfl⟩
   ·rename_i h3;split
    ·exact ⟨rfl, rfl⟩
    ·split
     ·exact ⟨rfl, rfl⟩
     ·rename_i h5 h6; rw [if_neg h3, if_neg h5, if_neg h6] at hr; exact absurd rfl hr
 ·rw [if_pos (by simpa using hw)];exact ⟨rfl, rfl, fun h => absurd h hw, fun _ => rfl⟩
theorem Zhr {s : St} (he : (s.begin d).e = 0) : Yr d = 0 ∧ (doR s.recs d).e = 0 := by
 unfold St.begin at he;by_cases hw : Yr d = 0
 ·refine ⟨hw, ?_⟩;rw [if_neg (by simpa using hw)] at he;by_cases hr : (doR s.recs d).e = 0
  ·exact hr
  ·rw [if_pos (by simpa using hr)] at he; exact absurd he hr
 ·rw [if_pos (by simpa using hw)] at he; exact absurd he hw
theorem Zux {s : St} (h : s.Inv) (d : Dd) : (s.doS d).st.Inv := by
 have hat : (s.doS d).st.At := ⟨Zxp h.at'.ok, by rw [Zfu]; exact h.at'.low, by rw [Zfu]; exact h.at'.high⟩;by_cases he : (s.begin d).e = 0
 ·obtain ⟨p, r, H⟩ := Zdf h he;have hst : (s.doS d).st = ⟨s.dk.half p r true true, (s.begin d).st.idx, (s.begin d).st.next⟩ := by
   unfold St.doS;rw [if_pos he, H.disk, Jg h.good.fine H.p6 H.right]
  have hg := H.good true true;rw [hst] at hat ⊢;exact ⟨hat, hg.three, H.whole.symm, hg.once⟩
 ·have hst : (s.doS d).st = s := by unfold St.doS; rw [if_neg he]; exact (Ze1 he).1
  rw [hst]; exact h
theorem Zof {s : St} (h : s.Inv) (he : (s.begin d).e = 0) (bits : Int) : ((s.begin d).st.dk.keep bits).Good ∧ ((Xw ((s.begin d).st.dk.keep bits)).recs = s.recs ∨ Zeg (Xw ((s.begin d).st.dk.keep bits)).recs (doR s.recs d).l = true) := by
 obtain ⟨p, r, H⟩ := Zdf h he;have hk : (s.begin d).st.dk.keep bits = s.dk.half p r (Qe bits 0) (Qe bits 1) := by rw [H.disk, Zim h.good.fine H.p6 H.right]
 rw [hk];have hg := H.good (Qe bits 0) (Qe bits 1);refine ⟨hg, ?_⟩;unfold St.recs;rw [hg.mounted];rcases H.same (Qe bits 0) (Qe bits 1) with e | e
 ·left;show (Z5 _ 6).map Ent.rc = _;rw [Zak 6 e, h.idx]
 ·right;show Zeg ((Z5 _ 6).map Ent.rc) _ = true;rw [e]; exact H.recs
theorem Zua : Dk.new.Good := by
 have hside : ∀ a : Nat, a < 12 → Z9 Dk.new (a : Int) = Rec.free ∧ Y9 Dk.new (a : Int) = 0 := fun a ha => by
  refine Zf7 ?_ Q6 (by omega) (by omega);have h1 := Zws (a : Int) (by omega) (by omega);unfold Dk.get;rw [if_neg (by show ¬ ((a : Int) < 0 ∨ ((Dk.new.blocks.length : Nat) : Int) ≤ (a : Int)); rw [Zas.len]; omega)];show some ((Qy [] _).getD _) = _;simp only [Qy];rw [← h1]; rfl
 have hfree : ∀ p, p < 6 → Ke Dk.new p ∧ (Dk.new.tell ((p : Nat) : Int)).kind = 1 := fun p hp => by
  have h0 := hside (2 * p) (by omega);have h1 := hside (2 * p + 1) (by omega);rw [show ((2 * p : Nat) : Int) = 2 * (p : Int) by omega] at h0;rw [show ((2 * p + 1 : Nat) : Int) = 2 * (p : Int) + 1 by omega] at h1;have k0 : (Z9 Dk.new (2 * (p : Int))).kind = 1 := by rw [h0.1]; rfl
  have k1 : (Z9 Dk.new (2 * (p : Int) + 1)).kind = 1 := by rw [h1.1]; rfl
  exact ⟨.inr (.inr ⟨k0, k1, by rw [h0.2, h1.2]; omega⟩), by rw [(Vy (Xe Zas.len hp) k0 k1).1]; rfl⟩
 exact ⟨Zas, fun p hp => (hfree p hp).1, fun p q hp _ hk => absurd (hfree p hp).2 hk⟩
theorem Zpu : Y0.Inv := Zua.mount
theorem Zdl {s : St} (h : s.Inv) {x : Sp} (hx : Q8 s x = true) : (s.step x).st.Inv := by
 have hg := h.good;have hat := Za8 (x := x) h.at';unfold St.step at hat ⊢;split at hat
 ·rw [if_pos (by assumption)]; exact Zux h x.deed
 ·rename_i k1;rw [if_neg k1];split at hat
  ·rename_i k2;rw [if_pos k2];by_cases he : (s.begin x.deed).e = 0
   ·rw [if_neg (by simpa using he)];exact (Zof h he x.n).1.mount
   ·rw [if_pos he]; exact h
  ·rename_i k2;rw [if_neg k2];split at hat
   ·rename_i k3;rw [if_pos k3];by_cases hr : x.n < 0 ∨ 192 ≤ x.n
    ·rw [if_pos hr]; exact h
    ·rw [if_neg hr] at hat ⊢;have hlow : s.dk.how (x.n / 32) < 2 := by
      unfold Q8 at hx;rw [if_neg (by omega)] at hx;exact of_decide_eq_true hx
     have c1 : (((x.n / 32).toNat : Nat) : Int) = x.n / 32 := by omega
     have c2 : (((x.n / 16).toNat : Nat) : Int) = x.n / 16 := by omega
     obtain ⟨h1, h2⟩ := hg.spoilt (p := (x.n / 32).toNat) (a := (x.n / 16).toNat) (by omega) (by omega) (by rw [c1]; exact hlow) (x.n % 16) x.m (by omega) (by omega);rw [c2] at h1 h2;exact ⟨hat, h1.three, by show s.idx = Z5 _ 6; rw [Zak 6 h2, h.idx], h1.once⟩
   ·rename_i k3;rw [if_neg k3];split at hat
    ·rename_i k4;rw [if_pos k4];have c1 : ((s.next.toNat : Nat) : Int) = s.next := by have := h.at'.low; omega
     obtain ⟨h1, h2⟩ := hg.mend (p := s.next.toNat) (by have := h.at'.high; omega);rw [c1] at h1 h2;exact ⟨hat, h1.three, rfl, h1.once⟩
    ·rename_i k4;rw [if_neg k4];split at hat
     ·rename_i k5;rw [if_pos k5]; exact hg.cleaned.1.mount
     ·rename_i k5;rw [if_neg k5];split at hat
      ·rename_i k6;rw [if_pos k6]; exact hg.mount
      ·rename_i k6;rw [if_neg k6]; exact h
end Go.Proofs.YtpdnapbchcdhlacGreat
namespace Go.Proofs.YtpdnapbchcdhlacGreat
set_option maxRecDepth 100000
open Go.RowKit
open Plain Reg
variable {S : Nat → Prop} {ad : Option Addr} {c : Nat} {v : Value} {w : World} {x : Sp}
theorem Zwe {s : St} (h : Vw S s x v ad c w) (k1 : x.kind = 1) : Qc 21 S s x v ad c w := by
 obtain ⟨ab, cb, al, cl, ai, ci, rfl, hb, hl, hi, hnz, g0, hs1, hd1, hz1, HWs⟩ := h.pre;obtain ⟨hS, hs, hd, hA, hdl⟩ := h;unfold Qc;have hns : ¬ Zw S (w.heap.size + 3) w.heap.size := Yn hS (by omega);obtain ⟨R, hR⟩ : ∃ R, R = s.step x := ⟨_, rfl⟩;rw [← hR];have HR : Hid (R = s.step x) := hR;have HAT : Hid (s.At) := hA;clear hR hA;go_enter Tryz.func21, Tryz.ntmps21;obtain ⟨d0, d1, d2, d3, d4⟩ := X9 hd1 rfl rfl rfl rfl rfl;have d5 := Zd hd1 5 _ rfl;have d6 := Zd hd1 6 _ rfl;obtain ⟨s0, s1, s2, s3⟩ := Z4 hs1 rfl rfl rfl rfl;have q1 : (x.kind == 1) = true := by simp [k1]
 obtain rfl : R = s.doS x.deed := by rw [HR.out]; unfold St.step; rw [if_pos k1]
 clear HR k1;go_wp2_with fail;obtain ⟨W, hW⟩ : ∃ W, W = ((w.alloc (.cells #[.slice ab s.dk.blocks.length cb, .slice al s.dk.late.length cl, .slice ai s.idx.length ci, .int .i64 s.next] 29)).alloc (.cells #[.int .i64 x.kind, .int .i64 x.n, .int .i64 x.m, .int .i64 x.deed.kind, .int .i64 x.deed.key, .int .i64 x.deed.num, .slice ad x.deed.data.length c] 49)).alloc Y6 := ⟨_, rfl⟩;have hWs : W.heap.size = w.heap.size + 3 := by rw [hW]; simp
 rw [← hW] at g0 hs1 hd1 hz1 d0 d1 d2 d3 d4 d5 d6 s0 s1 s2 s3 ⊢;clear hW;refine (Ztl S 0 s x.deed _ ad c W (fun b h => by have := hS b h; omega) (hs.grow g0) (hd.grow g0) HAT.out.ok (by omega) hdl).mono ?_;rw [hWs];obtain ⟨B, hB⟩ : ∃ B, B = s.doS x.deed := ⟨_, rfl⟩;rw [← hB];have HB : Hid _ := hB;clear hB;rintro r w1 ⟨v1, rfl, hS8, g1⟩;have hz9 := (g1.block _ (Za hz1)).trans hz1;have gw9 := g0.trans g1;obtain ⟨b9, e9, l9, m9, i9, j9, hv9, -, -, -⟩ := hS8.form;subst hv9;obtain ⟨s9, hs9⟩ : ∃ s9, s9 = B.st := ⟨_, rfl⟩;rw [← hs9] at hS8 ⊢;have HS9 : Hid _ := hs9;have hS9 := hS8;clear hS8 hs1 hd1 hz1 d0 d1 d2 d3 d4 d5 d6 s0 s1 s2 s3 g0 g1 hs9 hs hb hl hi q1;obtain ⟨hq1, hq2⟩ := Ye hz9 (.slice b9 s9.dk.blocks.length e9) (.slice l9 s9.dk.late.length m9) (.slice i9 s9.idx.length j9) (.int .i64 s9.next);obtain ⟨z0, z1, z2, z3⟩ := Z4 hz9 rfl rfl rfl rfl;obtain ⟨o0, o1, o2, o3⟩ := Yq hz9;obtain ⟨x0, x1, x2, x3⟩ := Z4 hq1 rfl rfl rfl rfl;have cs := Zt;have gE := hq2.grow gw9 (by omega);have hE := (hS9.but hq2 hnz).mono (Zz (B := w.heap.size) (by omega));clear hq1 hq2 hz9 gw9 hS9;go_wp2_with fail;exact bodyPost_ret (v := .tuple #[.agg #[.slice b9 s9.dk.blocks.length e9, .slice l9 s9.dk.late.length m9, .slice i9 s9.idx.length j9, .int .i64 s9.next], .int .i64 B.n, .int .i64 B.e]) (by simp [results, Tryz.results21, go_sem, x0, x1, x2, x3]) rfl ⟨_, by rw [← HB.out], by rw [← HB.out, ← HS9.out]; exact hE, gE⟩
theorem Zwd {s : St} (h : Vw S s x v ad c w) (k1 : ¬ x.kind = 1) (k2 : x.kind = 2) : Qc 21 S s x v ad c w := by
 obtain ⟨ab, cb, al, cl, ai, ci, rfl, hb, hl, hi, hnz, g0, hs1, hd1, hz1, HWs⟩ := h.pre;obtain ⟨hS, hs, hd, hA, hdl⟩ := h;unfold Qc;have hns : ¬ Zw S (w.heap.size + 3) w.heap.size := Yn hS (by omega);obtain ⟨R, hR⟩ : ∃ R, R = s.step x := ⟨_, rfl⟩;rw [← hR];have HR : Hid (R = s.step x) := hR;have HAT : Hid (s.At) := hA;clear hR hA;go_enter Tryz.func21, Tryz.ntmps21;obtain ⟨d0, d1, d2, d3, d4⟩ := X9 hd1 rfl rfl rfl rfl rfl;have d5 := Zd hd1 5 _ rfl;have d6 := Zd hd1 6 _ rfl;obtain ⟨s0, s1, s2, s3⟩ := Z4 hs1 rfl rfl rfl rfl;have q1 : (x.kind == 1) = false := by simp [k1]
 have q2 : (x.kind == 2) = true := by simp [k2]
 obtain ⟨B, hB⟩ : ∃ B, B = s.begin x.deed := ⟨_, rfl⟩;have HRB : Hid (R = if B.e ≠ 0 then ⟨s, 0, B.e⟩ else ⟨Xw (B.st.dk.keep x.n), B.n, 0⟩) := by show R = _; rw [HR.out, hB]; unfold St.step; rw [if_neg k1, if_pos k2]
 have HOB : Hid (B.st.Ok 2) := by rw [hB]; exact Za2 HAT.out.ok
 have HB : Hid _ := hB;clear HR k1 k2 hB;go_wp2_with fail;generalize World.alloc (World.alloc (World.alloc w _) _) _ = W at *;have hWs := HWs.out;clear HWs;refine (Zgj S 0 s x.deed _ ad c W (fun b h => by have := hS b h; omega) (hs.grow g0) (hd.grow g0) HAT.out.ok (by omega) hdl).mono ?_;rw [hWs, ← HB.out];rintro r w1 ⟨v1, rfl, hS1, g1⟩;obtain ⟨b1, e1, l1, m1, i1, j1, hv1, u1, u2, -⟩ := hS1.form;subst hv1;have g2 := Zc w1 (.cells #[.slice b1 B.st.dk.blocks.length e1, .slice l1 B.st.dk.late.length m1, .slice i1 B.st.idx.length j1, .int .i64 B.st.next] 29);have hY := Zj w1 #[.slice b1 B.st.dk.blocks.length e1, .slice l1 B.st.dk.late.length m1, .slice i1 B.st.idx.length j1, .int .i64 B.st.next] 29;have gg := g1.trans g2;have hs2 := (gg.block _ (Za hs1)).trans hs1;have hd2 := (gg.block _ (Za hd1)).trans hd1;have hz2 := (gg.block _ (Za hz1)).trans hz1;have gw2 := g0.trans gg;have p1 := u1.capd.grow g2;have p2 := u2.capd.grow g2;have HW1 : Hid (w.heap.size + 3 ≤ w1.heap.size) := by rw [← hWs]; exact g1.size
 clear d0 d1 d2 d3 d4 d5 d6 s0 s1 s2 s3 hs1 hd1 hz1 g0 g1 g2 gg hS1 u1 u2;obtain ⟨y0, y1⟩ := Xa hY rfl rfl;have d1 := Zd hd2 1 _ rfl;obtain ⟨s0, s1, s2, s3⟩ := Z4 hs2 rfl rfl rfl rfl;by_cases he : B.e = 0
 ·have qe : (B.e != 0) = false := by simp [he]
  obtain ⟨KD, hKD⟩ : ∃ KD, KD = B.st.dk.keep x.n := ⟨_, rfl⟩;obtain rfl : R = ⟨Xw KD, B.n, 0⟩ := by rw [HRB.out, if_neg (by simpa using he), hKD]
  have HKD : Hid _ := hKD;clear HRB he hKD;go_wp2_with fail;obtain ⟨N1, hN1⟩ : ∃ N1, N1 = w1.heap.size := ⟨_, rfl⟩;rw [← hN1] at p1 p2 HW1;obtain ⟨W2, hW2⟩ : ∃ W2, W2 = w1.alloc (.cells #[.slice b1 B.st.dk.blocks.length e1, .slice l1 B.st.dk.late.length m1, .slice i1 B.st.idx.length j1, .int .i64 B.st.next] 29) := ⟨_, rfl⟩;have hs2z : W2.heap.size = N1 + 1 := by rw [hW2, hN1]; simp
  rw [← hW2] at hY hs2 hd2 hz2 gw2 p1 p2 y0 y1 d1 s0 s1 s2 s3 ⊢;clear hW2 hN1;refine (Zjj (fun b => Zw S (w.heap.size + 3) b ∧ b < N1) 2 B.st.dk x.n _ W2 (fun b h => by have := h.2; omega) ⟨_, _, rfl, p1, p2⟩ HOB.out.disk (by omega)).mono ?_;rw [← HKD.out, hs2z];rintro r w3 ⟨v3, rfl, h3, g3⟩;obtain ⟨b3, e3, l3, m3, rfl, h3b, h3l⟩ := h3.form;have hz3 := (g3.block _ (Za hz2)).trans hz2;have gw3 := gw2.trans g3;clear y0 y1 d1 s0 s1 s2 s3 hY hs2 hd2 hz2 gw2 p1 p2 h3 g3 hs2z;go_wp2_with fail;have hmx : ∀ b, Zw (fun b => Zw S (w.heap.size + 3) b ∧ b < N1) (N1 + 1) b → Zw S (w.heap.size + 3) b := fun b h => h.elim (fun x => x.1) (fun x => .inr (by have := HW1.out; omega))
  refine (Za9 (fun b => Zw S (w.heap.size + 3) b ∧ b < w3.heap.size) 0 KD _ w3 (fun b h => h.2) ⟨_, _, rfl, (h3b.mono hmx).capd, (h3l.mono hmx).capd⟩ (by rw [HKD.out]; exact HOB.out.disk.kept x.n) (by omega)).mono ?_;have HW3 : Hid (w.heap.size + 3 ≤ w3.heap.size) := Za hz3;rintro r w4 ⟨v4, rfl, h4, g4⟩;have hS8 : Z7 (Zw S (w.heap.size + 3)) (Xw KD) v4 w4 := h4.mono fun b h => h.elim (fun x => x.1) (fun x => .inr (Nat.le_trans HW3.out x))
  have hz9 := (g4.block _ (Za hz3)).trans hz3;have gw9 := gw3.trans g4;obtain ⟨b9, e9, l9, m9, i9, j9, hv9, -, -, -⟩ := hS8.form;subst hv9;obtain ⟨s9, hs9⟩ : ∃ s9, s9 = Xw KD := ⟨_, rfl⟩;rw [← hs9] at hS8 ⊢;have HS9 : Hid _ := hs9;have hS9 := hS8;clear hS8 h4 hz3 gw3 g4 h3b h3l hmx hs9;obtain ⟨hq1, hq2⟩ := Ye hz9 (.slice b9 s9.dk.blocks.length e9) (.slice l9 s9.dk.late.length m9) (.slice i9 s9.idx.length j9) (.int .i64 s9.next);obtain ⟨z0, z1, z2, z3⟩ := Z4 hz9 rfl rfl rfl rfl;obtain ⟨o0, o1, o2, o3⟩ := Yq hz9;obtain ⟨x0, x1, x2, x3⟩ := Z4 hq1 rfl rfl rfl rfl;have cs := Zt;have gE := hq2.grow gw9 (by omega);have hE := (hS9.but hq2 hnz).mono (Zz (B := w.heap.size) (by omega));clear hq1 hq2 hz9 gw9 hS9;go_wp2_with fail;exact bodyPost_ret (v := .tuple #[.agg #[.slice b9 s9.dk.blocks.length e9, .slice l9 s9.dk.late.length m9, .slice i9 s9.idx.length j9, .int .i64 s9.next], .int .i64 B.n, .int .i64 0]) (by simp [results, Tryz.results21, go_sem, x0, x1, x2, x3]) rfl ⟨_, rfl, by rw [← HS9.out]; exact hE, gE⟩
 ·have qe : (B.e != 0) = true := by simp [he]
  obtain rfl : R = ⟨s, 0, B.e⟩ := by rw [HRB.out, if_pos he]
  have hzX := hz2;have gwX := gw2;clear HRB he hY hd2 gw2 p1 p2 y0 y1 d1 hz2;obtain ⟨z0, z1, z2, z3⟩ := Z4 hzX rfl rfl rfl rfl;obtain ⟨f0, f1, f2, f3⟩ := Yq hzX;have cs := Zt;obtain ⟨hq1, hq2⟩ := Ye hzX (.slice ab s.dk.blocks.length cb) (.slice al s.dk.late.length cl) (.slice ai s.idx.length ci) (.int .i64 s.next);obtain ⟨x0, x1, x2, x3⟩ := Z4 hq1 rfl rfl rfl rfl;have gE := hq2.grow gwX (by omega);have hE := (hs.grow gE).mono (S' := Zw S w.heap.size) V3;clear hq1 hq2 hzX gwX;go_wp2_with fail;exact bodyPost_ret (v := .tuple #[.agg #[.slice ab s.dk.blocks.length cb, .slice al s.dk.late.length cl, .slice ai s.idx.length ci, .int .i64 s.next], .int .i64 0, .int .i64 B.e]) (by simp [results, Tryz.results21, go_sem, x0, x1, x2, x3]) rfl ⟨_, rfl, hE, gE⟩
variable {S : Nat → Prop} {ad : Option Addr} {c : Nat} {v : Value} {w : World} {x : Sp}
theorem Zwc {s : St} (h : Vw S s x v ad c w) (k1 : ¬ x.kind = 1) (k2 : ¬ x.kind = 2) (k3 : x.kind = 3) : Qc 21 S s x v ad c w := by
 obtain ⟨ab, cb, al, cl, ai, ci, rfl, hb, hl, hi, hnz, g0, hs1, hd1, hz1, HWs⟩ := h.pre;obtain ⟨hS, hs, hd, hA, hdl⟩ := h;unfold Qc;have hns : ¬ Zw S (w.heap.size + 3) w.heap.size := Yn hS (by omega);obtain ⟨R, hR⟩ : ∃ R, R = s.step x := ⟨_, rfl⟩;rw [← hR];have HR : Hid (R = s.step x) := hR;have HAT : Hid (s.At) := hA;clear hR hA;go_enter Tryz.func21, Tryz.ntmps21;obtain ⟨d0, d1, d2, d3, d4⟩ := X9 hd1 rfl rfl rfl rfl rfl;have d5 := Zd hd1 5 _ rfl;have d6 := Zd hd1 6 _ rfl;obtain ⟨s0, s1, s2, s3⟩ := Z4 hs1 rfl rfl rfl rfl;have q1 : (x.kind == 1) = false := by simp [k1]
 have q2 : (x.kind == 2) = false := by simp [k2]
 have q3 : (x.kind == 3) = true := by simp [k3]
 have HRB : Hid (R = if x.n < 0 ∨ 192 ≤ x.n then ⟨s, 0, 3⟩ else ⟨⟨s.dk.spoil (x.n / 16) (x.n % 16) x.m, s.idx, s.next⟩, 0, 0⟩) := by show R = _; rw [HR.out]; unfold St.step; rw [if_neg k1, if_neg k2, if_pos k3]
 clear HR k1 k2 k3;by_cases h0 : x.n < 0
 ·obtain rfl : R = ⟨s, 0, 3⟩ := by rw [HRB.out, if_pos (.inl h0)]
  clear HRB;go_upto_region 1 with fail
  generalize World.alloc (World.alloc (World.alloc w _) _) _ = W at *;have hWs := HWs.out;clear HWs;have hzX := hz1;have gwX := g0;obtain ⟨z0, z1, z2, z3⟩ := Z4 hzX rfl rfl rfl rfl;obtain ⟨f0, f1, f2, f3⟩ := Yq hzX;have cs := Zt;obtain ⟨hq1, hq2⟩ := Ye hzX (.slice ab s.dk.blocks.length cb) (.slice al s.dk.late.length cl) (.slice ai s.idx.length ci) (.int .i64 s.next);obtain ⟨x0, x1, x2, x3⟩ := Z4 hq1 rfl rfl rfl rfl;have gE := hq2.grow gwX (by omega);have hE := (hs.grow gE).mono (S' := Zw S w.heap.size) V3;clear hq1 hq2 hzX gwX;go_wp2_with fail;exact bodyPost_ret (v := .tuple #[.agg #[.slice ab s.dk.blocks.length cb, .slice al s.dk.late.length cl, .slice ai s.idx.length ci, .int .i64 s.next], .int .i64 0, .int .i64 3]) (by simp [results, Tryz.results21, go_sem, x0, x1, x2, x3]) rfl ⟨_, rfl, hE, gE⟩
 ·by_cases h1 : 192 ≤ x.n
  ·obtain rfl : R = ⟨s, 0, 3⟩ := by rw [HRB.out, if_pos (.inr h1)]
   clear HRB;go_upto_region 1 with fail
   generalize World.alloc (World.alloc (World.alloc w _) _) _ = W at *;have hWs := HWs.out;clear HWs;have hzX := hz1;have gwX := g0;obtain ⟨z0, z1, z2, z3⟩ := Z4 hzX rfl rfl rfl rfl;obtain ⟨f0, f1, f2, f3⟩ := Yq hzX;have cs := Zt;obtain ⟨hq1, hq2⟩ := Ye hzX (.slice ab s.dk.blocks.length cb) (.slice al s.dk.late.length cl) (.slice ai s.idx.length ci) (.int .i64 s.next);obtain ⟨x0, x1, x2, x3⟩ := Z4 hq1 rfl rfl rfl rfl;have gE := hq2.grow gwX (by omega);have hE := (hs.grow gE).mono (S' := Zw S w.heap.size) V3;clear hq1 hq2 hzX gwX;go_wp2_with fail;exact bodyPost_ret (v := .tuple #[.agg #[.slice ab s.dk.blocks.length cb, .slice al s.dk.late.length cl, .slice ai s.idx.length ci, .int .i64 s.next], .int .i64 0, .int .i64 3]) (by simp [results, Tryz.results21, go_sem, x0, x1, x2, x3]) rfl ⟨_, rfl, hE, gE⟩
  ·obtain ⟨SD, hSD⟩ : ∃ SD, SD = s.dk.spoil (x.n / 16) (x.n % 16) x.m := ⟨_, rfl⟩;obtain rfl : R = ⟨⟨SD, s.idx, s.next⟩, 0, 0⟩ := by rw [HRB.out, if_neg (by omega), hSD]
   have HSD : Hid _ := hSD;have e16 : x.n.tdiv 16 = x.n / 16 := Int.tdiv_eq_ediv_of_nonneg (by omega);have m16 : x.n.tmod 16 = x.n % 16 := Int.tmod_eq_emod_of_nonneg (by omega);clear HRB hSD;go_wp2_with fail;generalize World.alloc (World.alloc (World.alloc w _) _) _ = W at *;have hWs := HWs.out;clear HWs;refine (Ztd S 0 s.dk (x.n / 16) (x.n % 16) x.m _ W (fun b h => by have := hS b h; omega) ⟨_, _, rfl, hb.grow g0, hl.grow g0⟩ HAT.out.ok.disk).mono ?_;rw [hWs, ← HSD.out];rintro r w1 ⟨v1, rfl, h1', g1⟩;obtain ⟨b9, e9, l9, m9, rfl, p1, p2⟩ := h1'.form;have hs8 := (g1.block _ (Za hs1)).trans hs1;have hz8 := (g1.block _ (Za hz1)).trans hz1;have gw8 := g0.trans g1;have hI8 := (hi.grow gw8).mono (S' := Zw S (w.heap.size + 3)) V3;clear d0 d1 d2 d3 d4 d5 d6 s0 s1 s2 s3 hs1 hd1 hz1 g0 g1 h1' hs hb hl hi;obtain ⟨ht1, ht2⟩ := Za0 hs8 (.slice b9 SD.blocks.length e9) (.slice l9 SD.late.length m9);obtain ⟨y0, y1, y2, y3⟩ := Z4 hs8 rfl rfl rfl rfl;have f0 := Zl hs8 0;have f1 := Zl hs8 1;obtain ⟨t0, t1, t2, t3⟩ := Z4 ht1 rfl rfl rfl rfl;have hz9 := (ht2.block _ (Za hz8) (by omega)).trans hz8;have gw9 := ht2.grow gw8 (Nat.le_refl _);obtain ⟨i9, j9, hij⟩ : ∃ i9 j9, i9 = ai ∧ j9 = ci := ⟨_, _, rfl, rfl⟩;obtain ⟨rfl, rfl⟩ := hij;obtain ⟨s9, hs9⟩ : ∃ s9 : St, s9 = ⟨SD, s.idx, s.next⟩ := ⟨_, rfl⟩
   have hS9 : Z7 (Zw S (w.heap.size + 3)) ⟨SD, s.idx, s.next⟩ (.agg #[.slice b9 SD.blocks.length e9, .slice l9 SD.late.length m9, .slice i9 s.idx.length j9, .int .i64 s.next]) _ := ⟨_, _, _, rfl, p1.but ht2 hns, p2.but ht2 hns, hI8.but ht2 hns⟩;clear ht1 ht2 hs8 hz8 gw8 p1 p2 hI8 hs9;clear s9;obtain ⟨hq1, hq2⟩ := Ye hz9 (.slice b9 SD.blocks.length e9) (.slice l9 SD.late.length m9) (.slice i9 s.idx.length j9) (.int .i64 s.next);obtain ⟨z0, z1, z2, z3⟩ := Z4 hz9 rfl rfl rfl rfl;obtain ⟨o0, o1, o2, o3⟩ := Yq hz9;obtain ⟨x0, x1, x2, x3⟩ := Z4 hq1 rfl rfl rfl rfl;have cs := Zt;have gE := hq2.grow gw9 (by omega);have hE := (hS9.but hq2 hnz).mono (Zz (B := w.heap.size) (by omega));clear hq1 hq2 hz9 gw9 hS9;go_wp2_with fail;exact bodyPost_ret (v := .tuple #[.agg #[.slice b9 SD.blocks.length e9, .slice l9 SD.late.length m9, .slice i9 s.idx.length j9, .int .i64 s.next], .int .i64 0, .int .i64 0]) (by simp [results, Tryz.results21, go_sem, x0, x1, x2, x3]) rfl ⟨_, rfl, hE, gE⟩
theorem Zwb {s : St} (h : Vw S s x v ad c w) (k1 : ¬ x.kind = 1) (k2 : ¬ x.kind = 2) (k3 : ¬ x.kind = 3) (k4 : x.kind = 4) : Qc 21 S s x v ad c w := by
 obtain ⟨ab, cb, al, cl, ai, ci, rfl, hb, hl, hi, hnz, g0, hs1, hd1, hz1, HWs⟩ := h.pre;obtain ⟨hS, hs, hd, hA, hdl⟩ := h;unfold Qc;have hns : ¬ Zw S (w.heap.size + 3) w.heap.size := Yn hS (by omega);obtain ⟨R, hR⟩ : ∃ R, R = s.step x := ⟨_, rfl⟩;rw [← hR];have HR : Hid (R = s.step x) := hR;have HAT : Hid (s.At) := hA;clear hR hA;go_enter Tryz.func21, Tryz.ntmps21;obtain ⟨d0, d1, d2, d3, d4⟩ := X9 hd1 rfl rfl rfl rfl rfl;have d5 := Zd hd1 5 _ rfl;have d6 := Zd hd1 6 _ rfl;obtain ⟨s0, s1, s2, s3⟩ := Z4 hs1 rfl rfl rfl rfl;have q1 : (x.kind == 1) = false := by simp [k1]
 have q2 : (x.kind == 2) = false := by simp [k2]
 have q3 : (x.kind == 3) = false := by simp [k3]
 have q4 : (x.kind == 4) = true := by simp [k4]
 obtain ⟨s9, hs9⟩ : ∃ s9, s9 = s.scrub := ⟨_, rfl⟩;obtain rfl : R = ⟨s9, 0, 0⟩ := by rw [HR.out, hs9]; unfold St.step; rw [if_neg k1, if_neg k2, if_neg k3, if_pos k4]
 have HS9 : Hid _ := hs9;clear HR k1 k2 k3 k4 hs9;go_wp2_with fail;generalize World.alloc (World.alloc (World.alloc w _) _) _ = W at *;have hWs := HWs.out;clear HWs;refine (Zne S 0 s _ W (fun b h => by have := hS b h; omega) (hs.grow g0) HAT.out.ok.disk (by omega) HAT.out.low (by have := HAT.out.high; omega)).mono ?_;rw [hWs, ← HS9.out];rintro r w1 ⟨v1, rfl, hS8, g1⟩;have hs8 := (g1.block _ (Za hs1)).trans hs1;have hz8 := (g1.block _ (Za hz1)).trans hz1;have gw8 := g0.trans g1;obtain ⟨b9, e9, l9, m9, i9, j9, hv9, -, -, -⟩ := hS8.form;subst hv9;clear d0 d1 d2 d3 d4 d5 d6 s0 s1 s2 s3 hs1 hd1 hz1 g0 g1 hs hb hl hi;obtain ⟨ht1, ht2⟩ := Ye hs8 (.slice b9 s9.dk.blocks.length e9) (.slice l9 s9.dk.late.length m9) (.slice i9 s9.idx.length j9) (.int .i64 s9.next);obtain ⟨y0, y1, y2, y3⟩ := Z4 hs8 rfl rfl rfl rfl;obtain ⟨f0, f1, f2, f3⟩ := Yq hs8;obtain ⟨t0, t1, t2, t3⟩ := Z4 ht1 rfl rfl rfl rfl;have hz9 := (ht2.block _ (Za hz8) (by omega)).trans hz8;have gw9 := ht2.grow gw8 (Nat.le_refl _);have hS9 := hS8.but ht2 hns;clear ht1 ht2 hs8 hz8 gw8 hS8;obtain ⟨hq1, hq2⟩ := Ye hz9 (.slice b9 s9.dk.blocks.length e9) (.slice l9 s9.dk.late.length m9) (.slice i9 s9.idx.length j9) (.int .i64 s9.next);obtain ⟨z0, z1, z2, z3⟩ := Z4 hz9 rfl rfl rfl rfl;obtain ⟨o0, o1, o2, o3⟩ := Yq hz9;obtain ⟨x0, x1, x2, x3⟩ := Z4 hq1 rfl rfl rfl rfl;have cs := Zt;have gE := hq2.grow gw9 (by omega);have hE := (hS9.but hq2 hnz).mono (Zz (B := w.heap.size) (by omega));clear hq1 hq2 hz9 gw9 hS9;go_wp2_with fail
 exact bodyPost_ret (v := .tuple #[.agg #[.slice b9 s9.dk.blocks.length e9, .slice l9 s9.dk.late.length m9, .slice i9 s9.idx.length j9, .int .i64 s9.next], .int .i64 0, .int .i64 0]) (by simp [results, Tryz.results21, go_sem, x0, x1, x2, x3]) rfl ⟨_, rfl, hE, gE⟩
end Go.Proofs.YtpdnapbchcdhlacGreat
