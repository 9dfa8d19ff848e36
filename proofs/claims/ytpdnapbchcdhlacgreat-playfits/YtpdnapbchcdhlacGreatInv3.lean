import Derived.Test.YtpdnapbchcdhlacGreatInv
import Derived.Deep.DeepCutAuto
set_option maxHeartbeats 8000000
namespace Go.Proofs.YtpdnapbchcdhlacGreat
set_option maxRecDepth 100000
open Plain
variable {d : Dd}
theorem Zlo (e : Ent) : ∀ l : List Ent, (Zby e l).length = l.length + 1
 | [] => rfl
 | x :: l => by
  unfold Zby;split
  ·rfl
  ·simp [Zlo e l]
theorem Zpp : ∀ (l : List Ent) (i : Nat) (h : i < l.length), l.Pairwise Ups → Q6 l l[i].pair = l.take i ++ l.drop (i + 1)
 | a :: l, 0, _, hp => by
  obtain ⟨h1, _⟩ := List.pairwise_cons.1 hp;unfold Q6;simp only [List.getElem_cons_zero, List.take_zero, List.nil_append, List.drop_succ_cons, List.drop_zero];rw [List.filter_cons_of_neg (by simp), List.filter_eq_self];intro x hx;exact decide_eq_true (fun e => (h1 x hx).2 e.symm)
 | a :: l, i + 1, h, hp => by
  obtain ⟨h1, h2⟩ := List.pairwise_cons.1 hp;have hi : i < l.length := by simpa using h
  have ih := Zpp l i hi h2;unfold Q6 at ih ⊢;simp only [List.getElem_cons_succ, List.take_succ_cons, List.drop_succ_cons, List.cons_append];rw [List.filter_cons_of_pos (by exact decide_eq_true (h1 _ (List.getElem_mem hi)).2), ih]
theorem Zfk {s : St} (h : s.Inv) (x : Ent) : x ∈ s.idx ↔ ∃ p : Nat, p < 6 ∧ (s.dk.tell (p : Int)).kind ≠ 1 ∧ x = ⟨s.dk.tell (p : Int), (p : Int)⟩ := by rw [h.idx]; exact Vq s.dk x 6
theorem Zs6 {s : St} (h : s.Inv) (r : Rec) : r ∈ s.recs ↔ ∃ p : Nat, p < 6 ∧ (s.dk.tell (p : Int)).kind ≠ 1 ∧ r = s.dk.tell (p : Int) := by
 unfold St.recs;rw [List.mem_map];constructor
 ·rintro ⟨x, hx, rfl⟩;obtain ⟨p, hp, hk, rfl⟩ := (Zfk h x).1 hx;exact ⟨p, hp, hk, rfl⟩
 ·rintro ⟨p, hp, hk, rfl⟩;exact ⟨_, (Zfk h _).2 ⟨p, hp, hk, rfl⟩, rfl⟩
theorem Zws {s : St} (h : s.Inv) : s.idx.Pairwise Ups := by rw [h.idx]; exact Zf4 s.dk
theorem Zru {s : St} (h : s.Inv) (hw : Ys d = 0) (hk : d.kind ≠ 3) (he : (doR s.recs d).e = 0) :
  ∃ p : Nat, p < 6 ∧ X8 s.idx = p ∧ doR s.recs d = ⟨s.recs ++ [Xx d (Xy s.recs)], Xy s.recs, 0⟩ ∧ Yd (Xx d (Xy s.recs)) = 0 ∧ (Xx d (Xy s.recs)).kind ≠ 1 ∧ (s.dk.tell (p : Int)).kind = 1 ∧ ∀ q : Nat, q < 6 → (s.dk.tell (q : Int)).kind ≠ 1 → (s.dk.tell (q : Int)).ver ≠ (Xx d (Xy s.recs)).ver := by
 obtain ⟨h5, hn, h6⟩ := Zdu hk he;have hl5 : s.idx.length ≤ 5 := by simpa [St.recs] using h5
 obtain ⟨hL, hL5⟩ := Zbc (l := s.idx) (by omega);have hm := Zc5 (n := Xy s.recs) hw hk Zfj.1 h6;refine ⟨X8 s.idx, by omega, rfl, ?_, hm.1, hm.2, ?_, fun q hq hkq => ?_⟩
 ·unfold doR;rw [if_neg hk, if_neg (by omega), if_neg (by omega)]
 ·by_cases e : (s.dk.tell ((X8 s.idx : Nat) : Int)).kind = 1
  ·exact e
  ·exact absurd rfl (hL.2 _ ((Zfk h _).2 ⟨_, by omega, e, rfl⟩))
 ·have := Zfj.2 _ ((Zs6 h _).2 ⟨q, hq, hkq, rfl⟩);show _ ≠ Xy s.recs;omega
theorem Zl9 {s : St} (h : s.Inv) (hk : d.kind = 3) (he : (doR s.recs d).e = 0) :
  ∃ p : Nat, p < 6 ∧ Kh d s.idx = (p : Int) ∧ (doR s.recs d).l = (Q6 s.idx (p : Int)).map Ent.rc ∧ (doR s.recs d).n = d.num ∧ (s.dk.tell (p : Int)).kind ≠ 1 := by
 unfold doR at he ⊢;rw [if_pos hk] at he ⊢;cases hf : s.recs.findIdx? (Vb d) with
 | none => rw [hf] at he; cases he
 | some i =>
  simp only;obtain ⟨hi, hfi, hlt⟩ := List.findIdx?_eq_some_iff_getElem.1 hf;have hil : i < s.idx.length := by simpa [St.recs] using hi
  have hget : s.recs[i] = s.idx[i].rc := by simp [St.recs]
  have hfind : s.idx.find? (Zbg d) = some s.idx[i] := by
   rw [List.find?_eq_some_iff_getElem];refine ⟨?_, i, hil, rfl, fun j hj => ?_⟩
   ·have : Vb d s.recs[i] = true := hfi;rw [hget] at this; exact this
   ·have hjl : j < s.recs.length := by omega
    have h1 := hlt j hj;have : s.recs[j] = s.idx[j].rc := by simp [St.recs]
    rw [this] at h1;have h2 : ¬ Vb d s.idx[j].rc = true := h1;show (!Vb d s.idx[j].rc) = true;simpa using h2
  obtain ⟨p, hp, hkp, hx⟩ := (Zfk h _).1 (List.getElem_mem hil);have hpair : s.idx[i].pair = (p : Int) := by rw [hx]
  refine ⟨p, hp, ?_, ?_, trivial, hkp⟩
  ·unfold Kh;rw [if_pos hk, hfind];exact hpair
  ·rw [← hpair, Zpp s.idx i hil (Zws h)];simp [St.recs]
structure Zzl (s : St) (d : Dd) (p : Nat) (r : Rec) : Prop where
 p6 : p < 6
 right : Yd r = 0
 disk : (s.begin d).st.dk = s.dk.pairD (p : Int) r
 next : (s.begin d).st.next = s.next
 n : (s.begin d).n = (doR s.recs d).n
 good : ∀ x y, (s.dk.half p r x y).Good
 same : ∀ x y, (∀ q : Nat, q < 6 → (s.dk.half p r x y).tell (q : Int) = s.dk.tell (q : Int)) ∨ (Z5 (s.dk.half p r x y) 6 = (s.begin d).st.idx)
 whole : Z5 (s.dk.half p r true true) 6 = (s.begin d).st.idx
 recs : Zd8 (s.begin d).st.recs (doR s.recs d).l = true
theorem Zhj {s : St} (h : s.Inv) (he : (s.begin d).e = 0) : ∃ p r, Zzl s d p r := by
 have hg := h.good;unfold St.begin at he;by_cases hw : Ys d = 0
 ·rw [if_neg (by simpa using hw)] at he;by_cases hr : (doR s.recs d).e = 0
  ·have hb : s.begin d = if d.kind = 3 then ⟨⟨s.dk.pairD (Kh d s.idx) Rec.free, Q6 s.idx (Kh d s.idx), s.next⟩, (doR s.recs d).n, 0⟩ else ⟨⟨s.dk.pairD (X8 s.idx) (Xx d (doR s.recs d).n), X5 ⟨Xx d (doR s.recs d).n, (X8 s.idx : Nat)⟩ s.idx, s.next⟩, (doR s.recs d).n, 0⟩ := by
    unfold St.begin;rw [if_neg (by simpa using hw), if_neg (by simpa using hr)]
   by_cases hk : d.kind = 3
   ·rw [if_pos hk] at hb;obtain ⟨p, hp, hat, hl, hn, hkp⟩ := Zl9 h hk hr;rw [hat] at hb;have hoth : ∀ x y q, q < 6 → q ≠ p → (s.dk.half p Rec.free x y).tell ((q : Nat) : Int) = s.dk.tell (q : Int) := fun x y q hq hne => (Qy hg.fine hp hq hne Q5 x y).2
    have hdrop : ∀ x y, (s.dk.half p Rec.free x y).tell (p : Int) = Rec.free → Z5 (s.dk.half p Rec.free x y) 6 = Q6 s.idx (p : Int) := fun x y ht => by
     rw [h.idx]; exact Zp8 (by rw [ht]; rfl) (hoth x y)
    refine ⟨p, Rec.free, hp, Q5, by rw [hb], by rw [hb], by rw [hb], fun x y => hg.free hp x y, fun x y => ?_, ?_, ?_⟩
    ·rcases (Zck hg.fine hp (hg.three p hp) x y).2.1 with e | e
     ·left; intro q hq;by_cases eq : q = p
      ·subst eq; exact e
      ·exact hoth x y q hq eq
     ·right; rw [hb]; exact hdrop x y e
    ·rw [hb]; exact hdrop true true ((Zck hg.fine hp (hg.three p hp) true true).2.2 rfl rfl).1
    ·rw [hb, hl]; exact Zkm _
   ·rw [if_neg hk] at hb;obtain ⟨p, hp, hlf, hdo, hwm, hkm, ht, hv⟩ := Zru h hw hk hr;have hn : (doR s.recs d).n = Xy s.recs := by rw [hdo]
    rw [hlf, hn] at hb;have hoth : ∀ x y q, q < 6 → q ≠ p → (s.dk.half p (Xx d (Xy s.recs)) x y).tell ((q : Nat) : Int) = s.dk.tell (q : Int) := fun x y q hq hne => (Qy hg.fine hp hq hne hwm x y).2
    have hput : ∀ x y, (x || y) = true → Z5 (s.dk.half p (Xx d (Xy s.recs)) x y) 6 = X5 ⟨Xx d (Xy s.recs), (p : Int)⟩ s.idx := fun x y hxy => by
     rw [h.idx];refine Zsy hp hkm ht ?_ (hoth x y) hwm;rw [(Zlp hg.fine hp hwm hkm (hg.three p hp) ht x y).2, if_pos hxy]
    refine ⟨p, Xx d (Xy s.recs), hp, hwm, by rw [hb], by rw [hb], by rw [hb, hn], fun x y => hg.put hp hwm hkm ht hv x y, fun x y => ?_, ?_, ?_⟩
    ·by_cases hxy : (x || y) = true
     ·right; rw [hb]; exact hput x y hxy
     ·left;obtain ⟨rfl, rfl⟩ : x = false ∧ y = false := by simpa using hxy
      rw [Zeq s.dk hg.fine]; intro _ _; rfl
    ·rw [hb]; exact hput true true rfl
    ·rw [hb, hdo];unfold Zd8;rw [Bool.and_eq_true, List.all_eq_true];refine ⟨fun r hr => ?_, decide_eq_true ?_⟩
     ·unfold Zma;rw [List.any_eq_true];refine ⟨r, ?_, (V6 _ _).2 rfl⟩;obtain ⟨x, hx, rfl⟩ := List.mem_map.1 hr;rcases (J4 _ _ _).1 hx with rfl | hx
      ·exact List.mem_append_right _ (by simp)
      ·exact List.mem_append_left _ (List.mem_map_of_mem hx)
     ·show ((X5 _ s.idx).map Ent.rc).length = (s.recs ++ [_]).length;rw [List.length_map, J3, Zlo];simp [St.recs]
  ·rw [if_pos (by simpa using hr)] at he; exact absurd he hr
 ·rw [if_pos (by simpa using hw)] at he; exact absurd he hw
theorem Zrw {s : St} (he : (s.begin d).e ≠ 0) : (s.begin d).st = s ∧ (s.begin d).n = 0 ∧ (Ys d = 0 → (s.begin d).e = (doR s.recs d).e ∧ (doR s.recs d).l = s.recs ∧ (doR s.recs d).n = 0) ∧ (Ys d ≠ 0 → (s.begin d).e = Ys d) := by
 unfold St.begin at he ⊢;by_cases hw : Ys d = 0
 ·rw [if_neg (by simpa using hw)] at he ⊢;by_cases hr : (doR s.recs d).e = 0
  ·rw [if_neg (by simpa using hr)] at he;exfalso;split at he <;> exact he rfl
  ·rw [if_pos (by simpa using hr)];refine ⟨rfl, rfl, fun _ => ⟨rfl, ?_⟩, fun h => absurd hw h⟩;unfold doR at hr ⊢;split
   ·split
    ·rename_i h3 _ i hf; rw [if_pos h3, hf] at hr; exact absurd rfl hr
    ·exact ⟨rfl, rfl⟩
   ·rename_i h3;split
    ·exact ⟨rfl, rfl⟩
    ·split
     ·exact ⟨rfl, rfl⟩
     ·rename_i h5 h6; rw [if_neg h3, if_neg h5, if_neg h6] at hr; exact absurd rfl hr
 ·rw [if_pos (by simpa using hw)];exact ⟨rfl, rfl, fun h => absurd h hw, fun _ => rfl⟩
theorem Zyg {s : St} (h : s.Inv) (d : Dd) : (s.doS d).st.Inv := by
 have hat : (s.doS d).st.At := ⟨Zxd h.at'.ok, by rw [Zfl]; exact h.at'.low, by rw [Zfl]; exact h.at'.high⟩;by_cases he : (s.begin d).e = 0
 ·obtain ⟨p, r, H⟩ := Zhj h he;have hst : (s.doS d).st = ⟨s.dk.half p r true true, (s.begin d).st.idx, (s.begin d).st.next⟩ := by
   unfold St.doS;rw [if_pos he, H.disk, Jd h.good.fine H.p6 H.right]
  have hg := H.good true true;rw [hst] at hat ⊢;exact ⟨hat, hg.three, H.whole.symm, hg.once⟩
 ·have hst : (s.doS d).st = s := by unfold St.doS; rw [if_neg he]; exact (Zrw he).1
  rw [hst]; exact h
theorem Zn6 {s : St} (h : s.Inv) (he : (s.begin d).e = 0) (bits : Int) : ((s.begin d).st.dk.keep bits).Good ∧ ((X2 ((s.begin d).st.dk.keep bits)).recs = s.recs ∨ Zd8 (X2 ((s.begin d).st.dk.keep bits)).recs (doR s.recs d).l = true) := by
 obtain ⟨p, r, H⟩ := Zhj h he;have hk : (s.begin d).st.dk.keep bits = s.dk.half p r (Qz bits 0) (Qz bits 1) := by rw [H.disk, Zqp h.good.fine H.p6 H.right]
 rw [hk];have hg := H.good (Qz bits 0) (Qz bits 1);refine ⟨hg, ?_⟩;unfold St.recs;rw [hg.mounted];rcases H.same (Qz bits 0) (Qz bits 1) with e | e
 ·left;show (Z5 _ 6).map Ent.rc = _;rw [Zd7 6 e, h.idx]
 ·right;show Zd8 ((Z5 _ 6).map Ent.rc) _ = true;rw [e]; exact H.recs
theorem Zty : Dk.new.Good := by
 have hside : ∀ a : Nat, a < 12 → Z7 Dk.new (a : Int) = Rec.free ∧ Y8 Dk.new (a : Int) = 0 := fun a ha => by
  refine Zfz ?_ Q5 (by omega) (by omega);have h1 := Zwj (a : Int) (by omega) (by omega);unfold Dk.get;rw [if_neg (by show ¬ ((a : Int) < 0 ∨ ((Dk.new.blocks.length : Nat) : Int) ≤ (a : Int)); rw [Zap.len]; omega)];show some ((Qx [] _).getD _) = _;simp only [Qx];rw [← h1]; rfl
 have hfree : ∀ p, p < 6 → Kc Dk.new p ∧ (Dk.new.tell ((p : Nat) : Int)).kind = 1 := fun p hp => by
  have h0 := hside (2 * p) (by omega);have h1 := hside (2 * p + 1) (by omega);rw [show ((2 * p : Nat) : Int) = 2 * (p : Int) by omega] at h0;rw [show ((2 * p + 1 : Nat) : Int) = 2 * (p : Int) + 1 by omega] at h1;have k0 : (Z7 Dk.new (2 * (p : Int))).kind = 1 := by rw [h0.1]; rfl
  have k1 : (Z7 Dk.new (2 * (p : Int) + 1)).kind = 1 := by rw [h1.1]; rfl
  exact ⟨.inr (.inr ⟨k0, k1, by rw [h0.2, h1.2]; omega⟩), by rw [(Vx (Xd Zap.len hp) k0 k1).1]; rfl⟩
 exact ⟨Zap, fun p hp => (hfree p hp).1, fun p q hp _ hk => absurd (hfree p hp).2 hk⟩
theorem Zwi : Y1.Inv := Zty.mount
theorem Zkf {s : St} (h : s.Inv) {x : Sp} (hx : V0 s x = true) : (s.step x).st.Inv := by
 have hg := h.good;have hat := Za5 (x := x) h.at';unfold St.step at hat ⊢;split at hat
 ·rw [if_pos (by assumption)]; exact Zyg h x.deed
 ·rename_i k1;rw [if_neg k1];split at hat
  ·rename_i k2;rw [if_pos k2];by_cases he : (s.begin x.deed).e = 0
   ·rw [if_neg (by simpa using he)];exact (Zn6 h he x.n).1.mount
   ·rw [if_pos he]; exact h
  ·rename_i k2;rw [if_neg k2];split at hat
   ·rename_i k3;rw [if_pos k3];by_cases hr : x.n < 0 ∨ 192 ≤ x.n
    ·rw [if_pos hr]; exact h
    ·rw [if_neg hr] at hat ⊢;have hlow : s.dk.how (x.n / 32) < 2 := by
      unfold V0 at hx;rw [if_neg (by omega)] at hx;exact of_decide_eq_true hx
     have c1 : (((x.n / 32).toNat : Nat) : Int) = x.n / 32 := by omega
     have c2 : (((x.n / 16).toNat : Nat) : Int) = x.n / 16 := by omega
     obtain ⟨h1, h2⟩ := hg.spoilt (p := (x.n / 32).toNat) (a := (x.n / 16).toNat) (by omega) (by omega) (by rw [c1]; exact hlow) (x.n % 16) x.m (by omega) (by omega);rw [c2] at h1 h2;exact ⟨hat, h1.three, by show s.idx = Z5 _ 6; rw [Zd7 6 h2, h.idx], h1.once⟩
   ·rename_i k3;rw [if_neg k3];split at hat
    ·rename_i k4;rw [if_pos k4];have c1 : ((s.next.toNat : Nat) : Int) = s.next := by have := h.at'.low; omega
     obtain ⟨h1, h2⟩ := hg.mend (p := s.next.toNat) (by have := h.at'.high; omega);rw [c1] at h1 h2;exact ⟨hat, h1.three, rfl, h1.once⟩
    ·rename_i k4;rw [if_neg k4];split at hat
     ·rename_i k5;rw [if_pos k5]; exact hg.cleaned.1.mount
     ·rename_i k5;rw [if_neg k5];split at hat
      ·rename_i k6;rw [if_pos k6]; exact hg.mount
      ·rename_i k6;rw [if_neg k6]; exact h
end Go.Proofs.YtpdnapbchcdhlacGreat
namespace Go.Proofs.YtpdnapbchcdhlacGreat
set_option maxRecDepth 100000
open Go.RowKit
open Plain Reg
variable {S : Nat → Prop} {ad : Option Addr} {c : Nat} {v : Value} {w : World} {x : Sp}
theorem Zv2 {s : St} (h : Vj S s x v ad c w) (k1 : x.kind = 1) : Qc 21 S s x v ad c w := by
 obtain ⟨ab, cb, al, cl, ai, ci, rfl, hb, hl, hi, hnz, g0, hs1, hd1, hz1, HWs⟩ := h.pre;obtain ⟨hS, hs, hd, hA, hdl⟩ := h;unfold Qc;have hns : ¬ Zw S (w.heap.size + 3) w.heap.size := Yn hS (by omega);obtain ⟨R, hR⟩ : ∃ R, R = s.step x := ⟨_, rfl⟩;rw [← hR];have HR : Hid (R = s.step x) := hR;have HAT : Hid (s.At) := hA;clear hR hA;go_enter Tryz.func21, Tryz.ntmps21;obtain ⟨d0, d1, d2, d3, d4⟩ := Qb hd1 rfl rfl rfl rfl rfl;have d5 := Zd hd1 5 _ rfl;have d6 := Zd hd1 6 _ rfl;obtain ⟨s0, s1, s2, s3⟩ := Z4 hs1 rfl rfl rfl rfl;have q1 : (x.kind == 1) = true := by simp [k1]
 obtain rfl : R = s.doS x.deed := by rw [HR.out]; unfold St.step; rw [if_pos k1]
 clear HR k1;go_wp2_with fail;obtain ⟨W, hW⟩ : ∃ W, W = ((w.alloc (.cells #[.slice ab s.dk.blocks.length cb, .slice al s.dk.late.length cl, .slice ai s.idx.length ci, .int .i64 s.next] 29)).alloc (.cells #[.int .i64 x.kind, .int .i64 x.n, .int .i64 x.m, .int .i64 x.deed.kind, .int .i64 x.deed.key, .int .i64 x.deed.num, .slice ad x.deed.data.length c] 49)).alloc Y4 := ⟨_, rfl⟩;have hWs : W.heap.size = w.heap.size + 3 := by rw [hW]; simp
 rw [← hW] at g0 hs1 hd1 hz1 d0 d1 d2 d3 d4 d5 d6 s0 s1 s2 s3 ⊢;clear hW;refine (Zta S 0 s x.deed _ ad c W (fun b h => by have := hS b h; omega) (hs.grow g0) (hd.grow g0) HAT.out.ok (by omega) hdl).mono ?_;rw [hWs];obtain ⟨B, hB⟩ : ∃ B, B = s.doS x.deed := ⟨_, rfl⟩;rw [← hB];have HB : Hid _ := hB;clear hB;rintro r w1 ⟨v1, rfl, hS8, g1⟩;have hz9 := (g1.block _ (Za hz1)).trans hz1;have gw9 := g0.trans g1;obtain ⟨b9, e9, l9, m9, i9, j9, hv9, -, -, -⟩ := hS8.form;subst hv9;obtain ⟨s9, hs9⟩ : ∃ s9, s9 = B.st := ⟨_, rfl⟩;rw [← hs9] at hS8 ⊢;have HS9 : Hid _ := hs9;have hS9 := hS8;clear hS8 hs1 hd1 hz1 d0 d1 d2 d3 d4 d5 d6 s0 s1 s2 s3 g0 g1 hs9 hs hb hl hi q1;obtain ⟨hq1, hq2⟩ := Ye hz9 (.slice b9 s9.dk.blocks.length e9) (.slice l9 s9.dk.late.length m9) (.slice i9 s9.idx.length j9) (.int .i64 s9.next);obtain ⟨z0, z1, z2, z3⟩ := Z4 hz9 rfl rfl rfl rfl;obtain ⟨o0, o1, o2, o3⟩ := Yq hz9;obtain ⟨x0, x1, x2, x3⟩ := Z4 hq1 rfl rfl rfl rfl;have cs := Zt;have gE := hq2.grow gw9 (by omega);have hE := (hS9.but hq2 hnz).mono (Zz (B := w.heap.size) (by omega));clear hq1 hq2 hz9 gw9 hS9;go_wp2_with fail;exact bodyPost_ret (v := .tuple #[.agg #[.slice b9 s9.dk.blocks.length e9, .slice l9 s9.dk.late.length m9, .slice i9 s9.idx.length j9, .int .i64 s9.next], .int .i64 B.n, .int .i64 B.e]) (by simp [results, Tryz.results21, go_sem, x0, x1, x2, x3]) rfl ⟨_, by rw [← HB.out], by rw [← HB.out, ← HS9.out]; exact hE, gE⟩
theorem Zv1 {s : St} (h : Vj S s x v ad c w) (k1 : ¬ x.kind = 1) (k2 : x.kind = 2) : Qc 21 S s x v ad c w := by
 obtain ⟨ab, cb, al, cl, ai, ci, rfl, hb, hl, hi, hnz, g0, hs1, hd1, hz1, HWs⟩ := h.pre;obtain ⟨hS, hs, hd, hA, hdl⟩ := h;unfold Qc;have hns : ¬ Zw S (w.heap.size + 3) w.heap.size := Yn hS (by omega);obtain ⟨R, hR⟩ : ∃ R, R = s.step x := ⟨_, rfl⟩;rw [← hR];have HR : Hid (R = s.step x) := hR;have HAT : Hid (s.At) := hA;clear hR hA;go_enter Tryz.func21, Tryz.ntmps21;obtain ⟨d0, d1, d2, d3, d4⟩ := Qb hd1 rfl rfl rfl rfl rfl;have d5 := Zd hd1 5 _ rfl;have d6 := Zd hd1 6 _ rfl;obtain ⟨s0, s1, s2, s3⟩ := Z4 hs1 rfl rfl rfl rfl;have q1 : (x.kind == 1) = false := by simp [k1]
 have q2 : (x.kind == 2) = true := by simp [k2]
 obtain ⟨B, hB⟩ : ∃ B, B = s.begin x.deed := ⟨_, rfl⟩;have HRB : Hid (R = if B.e ≠ 0 then ⟨s, 0, B.e⟩ else ⟨X2 (B.st.dk.keep x.n), B.n, 0⟩) := by show R = _; rw [HR.out, hB]; unfold St.step; rw [if_neg k1, if_pos k2]
 have HOB : Hid (B.st.Ok 2) := by rw [hB]; exact Zaz HAT.out.ok
 have HB : Hid _ := hB;clear HR k1 k2 hB;go_wp2_with fail;generalize World.alloc (World.alloc (World.alloc w _) _) _ = W at *;have hWs := HWs.out;clear HWs;refine (Zgb S 0 s x.deed _ ad c W (fun b h => by have := hS b h; omega) (hs.grow g0) (hd.grow g0) HAT.out.ok (by omega) hdl).mono ?_;rw [hWs, ← HB.out];rintro r w1 ⟨v1, rfl, hS1, g1⟩;obtain ⟨b1, e1, l1, m1, i1, j1, hv1, u1, u2, -⟩ := hS1.form;subst hv1;have g2 := Zc w1 (.cells #[.slice b1 B.st.dk.blocks.length e1, .slice l1 B.st.dk.late.length m1, .slice i1 B.st.idx.length j1, .int .i64 B.st.next] 29);have hY := Zj w1 #[.slice b1 B.st.dk.blocks.length e1, .slice l1 B.st.dk.late.length m1, .slice i1 B.st.idx.length j1, .int .i64 B.st.next] 29;have gg := g1.trans g2;have hs2 := (gg.block _ (Za hs1)).trans hs1;have hd2 := (gg.block _ (Za hd1)).trans hd1;have hz2 := (gg.block _ (Za hz1)).trans hz1;have gw2 := g0.trans gg;have p1 := u1.capd.grow g2;have p2 := u2.capd.grow g2;have HW1 : Hid (w.heap.size + 3 ≤ w1.heap.size) := by rw [← hWs]; exact g1.size
 clear d0 d1 d2 d3 d4 d5 d6 s0 s1 s2 s3 hs1 hd1 hz1 g0 g1 g2 gg hS1 u1 u2;obtain ⟨y0, y1⟩ := Xb hY rfl rfl;have d1 := Zd hd2 1 _ rfl;obtain ⟨s0, s1, s2, s3⟩ := Z4 hs2 rfl rfl rfl rfl;by_cases he : B.e = 0
 ·have qe : (B.e != 0) = false := by simp [he]
  obtain ⟨KD, hKD⟩ : ∃ KD, KD = B.st.dk.keep x.n := ⟨_, rfl⟩;obtain rfl : R = ⟨X2 KD, B.n, 0⟩ := by rw [HRB.out, if_neg (by simpa using he), hKD]
  have HKD : Hid _ := hKD;clear HRB he hKD;go_wp2_with fail;obtain ⟨N1, hN1⟩ : ∃ N1, N1 = w1.heap.size := ⟨_, rfl⟩;rw [← hN1] at p1 p2 HW1;obtain ⟨W2, hW2⟩ : ∃ W2, W2 = w1.alloc (.cells #[.slice b1 B.st.dk.blocks.length e1, .slice l1 B.st.dk.late.length m1, .slice i1 B.st.idx.length j1, .int .i64 B.st.next] 29) := ⟨_, rfl⟩;have hs2z : W2.heap.size = N1 + 1 := by rw [hW2, hN1]; simp
  rw [← hW2] at hY hs2 hd2 hz2 gw2 p1 p2 y0 y1 d1 s0 s1 s2 s3 ⊢;clear hW2 hN1;refine (Zjc (fun b => Zw S (w.heap.size + 3) b ∧ b < N1) 2 B.st.dk x.n _ W2 (fun b h => by have := h.2; omega) ⟨_, _, rfl, p1, p2⟩ HOB.out.disk (by omega)).mono ?_;rw [← HKD.out, hs2z];rintro r w3 ⟨v3, rfl, h3, g3⟩;obtain ⟨b3, e3, l3, m3, rfl, h3b, h3l⟩ := h3.form;have hz3 := (g3.block _ (Za hz2)).trans hz2;have gw3 := gw2.trans g3;clear y0 y1 d1 s0 s1 s2 s3 hY hs2 hd2 hz2 gw2 p1 p2 h3 g3 hs2z;go_wp2_with fail;have hmx : ∀ b, Zw (fun b => Zw S (w.heap.size + 3) b ∧ b < N1) (N1 + 1) b → Zw S (w.heap.size + 3) b := fun b h => h.elim (fun x => x.1) (fun x => .inr (by have := HW1.out; omega))
  refine (Za6 (fun b => Zw S (w.heap.size + 3) b ∧ b < w3.heap.size) 0 KD _ w3 (fun b h => h.2) ⟨_, _, rfl, (h3b.mono hmx).capd, (h3l.mono hmx).capd⟩ (by rw [HKD.out]; exact HOB.out.disk.kept x.n) (by omega)).mono ?_;have HW3 : Hid (w.heap.size + 3 ≤ w3.heap.size) := Za hz3;rintro r w4 ⟨v4, rfl, h4, g4⟩;have hS8 : Yb (Zw S (w.heap.size + 3)) (X2 KD) v4 w4 := h4.mono fun b h => h.elim (fun x => x.1) (fun x => .inr (Nat.le_trans HW3.out x))
  have hz9 := (g4.block _ (Za hz3)).trans hz3;have gw9 := gw3.trans g4;obtain ⟨b9, e9, l9, m9, i9, j9, hv9, -, -, -⟩ := hS8.form;subst hv9;obtain ⟨s9, hs9⟩ : ∃ s9, s9 = X2 KD := ⟨_, rfl⟩;rw [← hs9] at hS8 ⊢;have HS9 : Hid _ := hs9;have hS9 := hS8;clear hS8 h4 hz3 gw3 g4 h3b h3l hmx hs9;obtain ⟨hq1, hq2⟩ := Ye hz9 (.slice b9 s9.dk.blocks.length e9) (.slice l9 s9.dk.late.length m9) (.slice i9 s9.idx.length j9) (.int .i64 s9.next);obtain ⟨z0, z1, z2, z3⟩ := Z4 hz9 rfl rfl rfl rfl;obtain ⟨o0, o1, o2, o3⟩ := Yq hz9;obtain ⟨x0, x1, x2, x3⟩ := Z4 hq1 rfl rfl rfl rfl;have cs := Zt;have gE := hq2.grow gw9 (by omega);have hE := (hS9.but hq2 hnz).mono (Zz (B := w.heap.size) (by omega));clear hq1 hq2 hz9 gw9 hS9;go_wp2_with fail;exact bodyPost_ret (v := .tuple #[.agg #[.slice b9 s9.dk.blocks.length e9, .slice l9 s9.dk.late.length m9, .slice i9 s9.idx.length j9, .int .i64 s9.next], .int .i64 B.n, .int .i64 0]) (by simp [results, Tryz.results21, go_sem, x0, x1, x2, x3]) rfl ⟨_, rfl, by rw [← HS9.out]; exact hE, gE⟩
 ·have qe : (B.e != 0) = true := by simp [he]
  obtain rfl : R = ⟨s, 0, B.e⟩ := by rw [HRB.out, if_pos he]
  have hzX := hz2;have gwX := gw2;clear HRB he hY hd2 gw2 p1 p2 y0 y1 d1 hz2;obtain ⟨z0, z1, z2, z3⟩ := Z4 hzX rfl rfl rfl rfl;obtain ⟨f0, f1, f2, f3⟩ := Yq hzX;have cs := Zt;obtain ⟨hq1, hq2⟩ := Ye hzX (.slice ab s.dk.blocks.length cb) (.slice al s.dk.late.length cl) (.slice ai s.idx.length ci) (.int .i64 s.next);obtain ⟨x0, x1, x2, x3⟩ := Z4 hq1 rfl rfl rfl rfl;have gE := hq2.grow gwX (by omega);have hE := (hs.grow gE).mono (S' := Zw S w.heap.size) V3;clear hq1 hq2 hzX gwX;go_wp2_with fail;exact bodyPost_ret (v := .tuple #[.agg #[.slice ab s.dk.blocks.length cb, .slice al s.dk.late.length cl, .slice ai s.idx.length ci, .int .i64 s.next], .int .i64 0, .int .i64 B.e]) (by simp [results, Tryz.results21, go_sem, x0, x1, x2, x3]) rfl ⟨_, rfl, hE, gE⟩
variable {S : Nat → Prop} {ad : Option Addr} {c : Nat} {v : Value} {w : World} {x : Sp}
theorem Zv0 {s : St} (h : Vj S s x v ad c w) (k1 : ¬ x.kind = 1) (k2 : ¬ x.kind = 2) (k3 : x.kind = 3) : Qc 21 S s x v ad c w := by
 obtain ⟨ab, cb, al, cl, ai, ci, rfl, hb, hl, hi, hnz, g0, hs1, hd1, hz1, HWs⟩ := h.pre;obtain ⟨hS, hs, hd, hA, hdl⟩ := h;unfold Qc;have hns : ¬ Zw S (w.heap.size + 3) w.heap.size := Yn hS (by omega);obtain ⟨R, hR⟩ : ∃ R, R = s.step x := ⟨_, rfl⟩;rw [← hR];have HR : Hid (R = s.step x) := hR;have HAT : Hid (s.At) := hA;clear hR hA;go_enter Tryz.func21, Tryz.ntmps21;obtain ⟨d0, d1, d2, d3, d4⟩ := Qb hd1 rfl rfl rfl rfl rfl;have d5 := Zd hd1 5 _ rfl;have d6 := Zd hd1 6 _ rfl;obtain ⟨s0, s1, s2, s3⟩ := Z4 hs1 rfl rfl rfl rfl;have q1 : (x.kind == 1) = false := by simp [k1]
 have q2 : (x.kind == 2) = false := by simp [k2]
 have q3 : (x.kind == 3) = true := by simp [k3]
 have HRB : Hid (R = if x.n < 0 ∨ 192 ≤ x.n then ⟨s, 0, 3⟩ else ⟨⟨s.dk.spoil (x.n / 16) (x.n % 16) x.m, s.idx, s.next⟩, 0, 0⟩) := by show R = _; rw [HR.out]; unfold St.step; rw [if_neg k1, if_neg k2, if_pos k3]
 clear HR k1 k2 k3;by_cases h0 : x.n < 0
 ·obtain rfl : R = ⟨s, 0, 3⟩ := by rw [HRB.out, if_pos (.inl h0)]
  clear HRB;go_upto_region 1 with fail
  generalize World.alloc (World.alloc (World.alloc w _) _) _ = W at *;have hWs := HWs.out;clear HWs;have hzX := hz1;have gwX := g0;obtain ⟨z0, z1, z2, z3⟩ := Z4 hzX rfl rfl rfl rfl;obtain ⟨f0, f1, f2, f3⟩ := Yq hzX;have cs := Zt;obtain ⟨hq1, hq2⟩ := Ye hzX (.slice ab s.dk.blocks.length cb) (.slice al s.dk.late.length cl) (.slice ai s.idx.length ci) (.int .i64 s.next);obtain ⟨x0, x1, x2, x3⟩ := Z4 hq1 rfl rfl rfl rfl;have gE := hq2.grow gwX (by omega);have hE := (hs.grow gE).mono (S' := Zw S w.heap.size) V3;clear hq1 hq2 hzX gwX;go_wp2_with fail;exact bodyPost_ret (v := .tuple #[.agg #[.slice ab s.dk.blocks.length cb, .slice al s.dk.late.length cl, .slice ai s.idx.length ci, .int .i64 s.next], .int .i64 0, .int .i64 3]) (by simp [results, Tryz.results21, go_sem, x0, x1, x2, x3]) rfl ⟨_, rfl, hE, gE⟩
 ·by_cases h1 : 192 ≤ x.n
  ·obtain rfl : R = ⟨s, 0, 3⟩ := by rw [HRB.out, if_pos (.inr h1)]
   clear HRB;go_upto_region 1 with fail
   generalize World.alloc (World.alloc (World.alloc w _) _) _ = W at *;have hWs := HWs.out;clear HWs;have hzX := hz1;have gwX := g0;obtain ⟨z0, z1, z2, z3⟩ := Z4 hzX rfl rfl rfl rfl;obtain ⟨f0, f1, f2, f3⟩ := Yq hzX;have cs := Zt;obtain ⟨hq1, hq2⟩ := Ye hzX (.slice ab s.dk.blocks.length cb) (.slice al s.dk.late.length cl) (.slice ai s.idx.length ci) (.int .i64 s.next);obtain ⟨x0, x1, x2, x3⟩ := Z4 hq1 rfl rfl rfl rfl;have gE := hq2.grow gwX (by omega);have hE := (hs.grow gE).mono (S' := Zw S w.heap.size) V3;clear hq1 hq2 hzX gwX;go_wp2_with fail;exact bodyPost_ret (v := .tuple #[.agg #[.slice ab s.dk.blocks.length cb, .slice al s.dk.late.length cl, .slice ai s.idx.length ci, .int .i64 s.next], .int .i64 0, .int .i64 3]) (by simp [results, Tryz.results21, go_sem, x0, x1, x2, x3]) rfl ⟨_, rfl, hE, gE⟩
  ·obtain ⟨SD, hSD⟩ : ∃ SD, SD = s.dk.spoil (x.n / 16) (x.n % 16) x.m := ⟨_, rfl⟩;obtain rfl : R = ⟨⟨SD, s.idx, s.next⟩, 0, 0⟩ := by rw [HRB.out, if_neg (by omega), hSD]
   have HSD : Hid _ := hSD;have e16 : x.n.tdiv 16 = x.n / 16 := Int.tdiv_eq_ediv_of_nonneg (by omega);have m16 : x.n.tmod 16 = x.n % 16 := Int.tmod_eq_emod_of_nonneg (by omega);clear HRB hSD;go_wp2_with fail;generalize World.alloc (World.alloc (World.alloc w _) _) _ = W at *;have hWs := HWs.out;clear HWs;refine (Zs2 S 0 s.dk (x.n / 16) (x.n % 16) x.m _ W (fun b h => by have := hS b h; omega) ⟨_, _, rfl, hb.grow g0, hl.grow g0⟩ HAT.out.ok.disk).mono ?_;rw [hWs, ← HSD.out];rintro r w1 ⟨v1, rfl, h1', g1⟩;obtain ⟨b9, e9, l9, m9, rfl, p1, p2⟩ := h1'.form;have hs8 := (g1.block _ (Za hs1)).trans hs1;have hz8 := (g1.block _ (Za hz1)).trans hz1;have gw8 := g0.trans g1;have hI8 := (hi.grow gw8).mono (S' := Zw S (w.heap.size + 3)) V3;clear d0 d1 d2 d3 d4 d5 d6 s0 s1 s2 s3 hs1 hd1 hz1 g0 g1 h1' hs hb hl hi;obtain ⟨ht1, ht2⟩ := Zax hs8 (.slice b9 SD.blocks.length e9) (.slice l9 SD.late.length m9);obtain ⟨y0, y1, y2, y3⟩ := Z4 hs8 rfl rfl rfl rfl;have f0 := Zl hs8 0;have f1 := Zl hs8 1;obtain ⟨t0, t1, t2, t3⟩ := Z4 ht1 rfl rfl rfl rfl;have hz9 := (ht2.block _ (Za hz8) (by omega)).trans hz8;have gw9 := ht2.grow gw8 (Nat.le_refl _);obtain ⟨i9, j9, hij⟩ : ∃ i9 j9, i9 = ai ∧ j9 = ci := ⟨_, _, rfl, rfl⟩;obtain ⟨rfl, rfl⟩ := hij;obtain ⟨s9, hs9⟩ : ∃ s9 : St, s9 = ⟨SD, s.idx, s.next⟩ := ⟨_, rfl⟩
   have hS9 : Yb (Zw S (w.heap.size + 3)) ⟨SD, s.idx, s.next⟩ (.agg #[.slice b9 SD.blocks.length e9, .slice l9 SD.late.length m9, .slice i9 s.idx.length j9, .int .i64 s.next]) _ := ⟨_, _, _, rfl, p1.but ht2 hns, p2.but ht2 hns, hI8.but ht2 hns⟩;clear ht1 ht2 hs8 hz8 gw8 p1 p2 hI8 hs9;clear s9;obtain ⟨hq1, hq2⟩ := Ye hz9 (.slice b9 SD.blocks.length e9) (.slice l9 SD.late.length m9) (.slice i9 s.idx.length j9) (.int .i64 s.next);obtain ⟨z0, z1, z2, z3⟩ := Z4 hz9 rfl rfl rfl rfl;obtain ⟨o0, o1, o2, o3⟩ := Yq hz9;obtain ⟨x0, x1, x2, x3⟩ := Z4 hq1 rfl rfl rfl rfl;have cs := Zt;have gE := hq2.grow gw9 (by omega);have hE := (hS9.but hq2 hnz).mono (Zz (B := w.heap.size) (by omega));clear hq1 hq2 hz9 gw9 hS9;go_wp2_with fail;exact bodyPost_ret (v := .tuple #[.agg #[.slice b9 SD.blocks.length e9, .slice l9 SD.late.length m9, .slice i9 s.idx.length j9, .int .i64 s.next], .int .i64 0, .int .i64 0]) (by simp [results, Tryz.results21, go_sem, x0, x1, x2, x3]) rfl ⟨_, rfl, hE, gE⟩
theorem Zvz {s : St} (h : Vj S s x v ad c w) (k1 : ¬ x.kind = 1) (k2 : ¬ x.kind = 2) (k3 : ¬ x.kind = 3) (k4 : x.kind = 4) : Qc 21 S s x v ad c w := by
 obtain ⟨ab, cb, al, cl, ai, ci, rfl, hb, hl, hi, hnz, g0, hs1, hd1, hz1, HWs⟩ := h.pre;obtain ⟨hS, hs, hd, hA, hdl⟩ := h;unfold Qc;have hns : ¬ Zw S (w.heap.size + 3) w.heap.size := Yn hS (by omega);obtain ⟨R, hR⟩ : ∃ R, R = s.step x := ⟨_, rfl⟩;rw [← hR];have HR : Hid (R = s.step x) := hR;have HAT : Hid (s.At) := hA;clear hR hA;go_enter Tryz.func21, Tryz.ntmps21;obtain ⟨d0, d1, d2, d3, d4⟩ := Qb hd1 rfl rfl rfl rfl rfl;have d5 := Zd hd1 5 _ rfl;have d6 := Zd hd1 6 _ rfl;obtain ⟨s0, s1, s2, s3⟩ := Z4 hs1 rfl rfl rfl rfl;have q1 : (x.kind == 1) = false := by simp [k1]
 have q2 : (x.kind == 2) = false := by simp [k2]
 have q3 : (x.kind == 3) = false := by simp [k3]
 have q4 : (x.kind == 4) = true := by simp [k4]
 obtain ⟨s9, hs9⟩ : ∃ s9, s9 = s.scrub := ⟨_, rfl⟩;obtain rfl : R = ⟨s9, 0, 0⟩ := by rw [HR.out, hs9]; unfold St.step; rw [if_neg k1, if_neg k2, if_neg k3, if_pos k4]
 have HS9 : Hid _ := hs9;clear HR k1 k2 k3 k4 hs9;go_wp2_with fail;generalize World.alloc (World.alloc (World.alloc w _) _) _ = W at *;have hWs := HWs.out;clear HWs;refine (Zm4 S 0 s _ W (fun b h => by have := hS b h; omega) (hs.grow g0) HAT.out.ok.disk (by omega) HAT.out.low (by have := HAT.out.high; omega)).mono ?_;rw [hWs, ← HS9.out];rintro r w1 ⟨v1, rfl, hS8, g1⟩;have hs8 := (g1.block _ (Za hs1)).trans hs1;have hz8 := (g1.block _ (Za hz1)).trans hz1;have gw8 := g0.trans g1;obtain ⟨b9, e9, l9, m9, i9, j9, hv9, -, -, -⟩ := hS8.form;subst hv9;clear d0 d1 d2 d3 d4 d5 d6 s0 s1 s2 s3 hs1 hd1 hz1 g0 g1 hs hb hl hi;obtain ⟨ht1, ht2⟩ := Ye hs8 (.slice b9 s9.dk.blocks.length e9) (.slice l9 s9.dk.late.length m9) (.slice i9 s9.idx.length j9) (.int .i64 s9.next);obtain ⟨y0, y1, y2, y3⟩ := Z4 hs8 rfl rfl rfl rfl;obtain ⟨f0, f1, f2, f3⟩ := Yq hs8;obtain ⟨t0, t1, t2, t3⟩ := Z4 ht1 rfl rfl rfl rfl;have hz9 := (ht2.block _ (Za hz8) (by omega)).trans hz8;have gw9 := ht2.grow gw8 (Nat.le_refl _);have hS9 := hS8.but ht2 hns;clear ht1 ht2 hs8 hz8 gw8 hS8;obtain ⟨hq1, hq2⟩ := Ye hz9 (.slice b9 s9.dk.blocks.length e9) (.slice l9 s9.dk.late.length m9) (.slice i9 s9.idx.length j9) (.int .i64 s9.next);obtain ⟨z0, z1, z2, z3⟩ := Z4 hz9 rfl rfl rfl rfl;obtain ⟨o0, o1, o2, o3⟩ := Yq hz9;obtain ⟨x0, x1, x2, x3⟩ := Z4 hq1 rfl rfl rfl rfl;have cs := Zt;have gE := hq2.grow gw9 (by omega);have hE := (hS9.but hq2 hnz).mono (Zz (B := w.heap.size) (by omega));clear hq1 hq2 hz9 gw9 hS9;go_wp2_with fail
 exact bodyPost_ret (v := .tuple #[.agg #[.slice b9 s9.dk.blocks.length e9, .slice l9 s9.dk.late.length m9, .slice i9 s9.idx.length j9, .int .i64 s9.next], .int .i64 0, .int .i64 0]) (by simp [results, Tryz.results21, go_sem, x0, x1, x2, x3]) rfl ⟨_, rfl, hE, gE⟩
variable {S : Nat → Prop} {ad : Option Addr} {c : Nat} {v : Value} {w : World} {x : Sp}
theorem Zvy {s : St} (h : Vj S s x v ad c w) (k1 : ¬ x.kind = 1) (k2 : ¬ x.kind = 2) (k3 : ¬ x.kind = 3) (k4 : ¬ x.kind = 4) (k5 : x.kind = 5) : Qc 21 S s x v ad c w := by
 obtain ⟨ab, cb, al, cl, ai, ci, rfl, hb, hl, hi, hnz, g0, hs1, hd1, hz1, HWs⟩ := h.pre;obtain ⟨hS, hs, hd, hA, hdl⟩ := h;unfold Qc;have hns : ¬ Zw S (w.heap.size + 3) w.heap.size := Yn hS (by omega);obtain ⟨R, hR⟩ : ∃ R, R = s.step x := ⟨_, rfl⟩;rw [← hR];have HR : Hid (R = s.step x) := hR;have HAT : Hid (s.At) := hA;clear hR hA;go_enter Tryz.func21, Tryz.ntmps21;obtain ⟨d0, d1, d2, d3, d4⟩ := Qb hd1 rfl rfl rfl rfl rfl;have d5 := Zd hd1 5 _ rfl;have d6 := Zd hd1 6 _ rfl;obtain ⟨s0, s1, s2, s3⟩ := Z4 hs1 rfl rfl rfl rfl;have q1 : (x.kind == 1) = false := by simp [k1]
 have q2 : (x.kind == 2) = false := by simp [k2]
 have q3 : (x.kind == 3) = false := by simp [k3]
 have q4 : (x.kind == 4) = false := by simp [k4]
 have q5 : (x.kind == 5) = true := by simp [k5]
 obtain ⟨CD, hCD⟩ : ∃ CD, CD = s.dk.clean := ⟨_, rfl⟩;obtain ⟨s9, hs9⟩ : ∃ s9, s9 = X2 CD := ⟨_, rfl⟩;obtain rfl : R = ⟨s9, 0, 0⟩ := by rw [HR.out, hs9, hCD]; unfold St.step; rw [if_neg k1, if_neg k2, if_neg k3, if_neg k4, if_pos k5]
 have HS9 : Hid _ := hs9;have HCD : Hid _ := hCD;have HCF : Hid (CD.Fine 0) := by rw [hCD]; exact Zd3 HAT.out.ok.disk
 clear HR k1 k2 k3 k4 k5 hs9 hCD;go_wp2_with fail;generalize World.alloc (World.alloc (World.alloc w _) _) _ = W at *;have hWs := HWs.out;clear HWs;refine (Znd S 0 s.dk _ W (fun b h => by have := hS b h; omega) ⟨_, _, rfl, hb.grow g0, hl.grow g0⟩ HAT.out.ok.disk (by omega)).mono ?_;rw [hWs, ← HCD.out];generalize cnt (s.dk.keep 0) 6 = CN at *;generalize Ym (s.dk.keep 0) 6 = tw at *;rintro r w1 ⟨v1, vt, rfl, h1, hvt, g1⟩;obtain ⟨b1, e1, l1, m1, rfl, h1b, h1l⟩ := h1.form;obtain ⟨at1, ct1, rfl⟩ := hvt.form;have g2 := Zr w1 (.cells #[.slice b1 CD.blocks.length e1, .slice l1 CD.late.length m1] 26) (.cells (Vg CN) 39);have hV0 := Zj w1 #[.slice b1 CD.blocks.length e1, .slice l1 CD.late.length m1] 26;have hV := ((Zc (w1.alloc (.cells #[.slice b1 CD.blocks.length e1, .slice l1 CD.late.length m1] 26)) (.cells (Vg CN) 39)).block _ (Za hV0)).trans hV0;have gg := g1.trans g2;have hs2 := (gg.block _ (Za hs1)).trans hs1;have hz2 := (gg.block _ (Za hz1)).trans hz1;have gw2 := g0.trans gg;have p1 := h1b.grow g2;have p2 := h1l.grow g2;clear d0 d1 d2 d3 d4 d5 d6 s0 s1 s2 s3 hs1 hd1 hz1 g0 g1 g2 gg hs hb hl hi hV0 h1 h1b h1l hvt;obtain ⟨v0, v1⟩ := Xb hV rfl rfl;go_wp2_with fail;clear v0 v1 hV;generalize World.alloc (World.alloc w1 _) _ = W2 at *;refine (Za6 (fun b => Zw S (w.heap.size + 3) b ∧ b < W2.heap.size) 0 CD _ W2 (fun b h => h.2) ⟨_, _, rfl, p1.capd, p2.capd⟩ HCF.out (by omega)).mono ?_;have HW2 : Hid (w.heap.size + 3 ≤ W2.heap.size) := Za hz2;rw [← HS9.out];rintro r w3 ⟨v3, rfl, h3, g3⟩
 have hS8 : Yb (Zw S (w.heap.size + 3)) s9 v3 w3 := h3.mono fun b h => h.elim (fun x => x.1) (fun x => .inr (Nat.le_trans HW2.out x))
 have hs8 := (g3.block _ (Za hs2)).trans hs2;have hz8 := (g3.block _ (Za hz2)).trans hz2;have gw8 := gw2.trans g3;obtain ⟨b9, e9, l9, m9, i9, j9, hv9, -, -, -⟩ := hS8.form;subst hv9;clear hs2 hz2 gw2 p1 p2 h3 g3;obtain ⟨ht1, ht2⟩ := Ye hs8 (.slice b9 s9.dk.blocks.length e9) (.slice l9 s9.dk.late.length m9) (.slice i9 s9.idx.length j9) (.int .i64 s9.next);obtain ⟨y0, y1, y2, y3⟩ := Z4 hs8 rfl rfl rfl rfl;obtain ⟨f0, f1, f2, f3⟩ := Yq hs8;obtain ⟨t0, t1, t2, t3⟩ := Z4 ht1 rfl rfl rfl rfl;have hz9 := (ht2.block _ (Za hz8) (by omega)).trans hz8;have gw9 := ht2.grow gw8 (Nat.le_refl _);have hS9 := hS8.but ht2 hns;clear ht1 ht2 hs8 hz8 gw8 hS8;obtain ⟨hq1, hq2⟩ := Ye hz9 (.slice b9 s9.dk.blocks.length e9) (.slice l9 s9.dk.late.length m9) (.slice i9 s9.idx.length j9) (.int .i64 s9.next);obtain ⟨z0, z1, z2, z3⟩ := Z4 hz9 rfl rfl rfl rfl;obtain ⟨o0, o1, o2, o3⟩ := Yq hz9;obtain ⟨x0, x1, x2, x3⟩ := Z4 hq1 rfl rfl rfl rfl;have cs := Zt;have gE := hq2.grow gw9 (by omega);have hE := (hS9.but hq2 hnz).mono (Zz (B := w.heap.size) (by omega));clear hq1 hq2 hz9 gw9 hS9;go_wp2_with fail;exact bodyPost_ret (v := .tuple #[.agg #[.slice b9 s9.dk.blocks.length e9, .slice l9 s9.dk.late.length m9, .slice i9 s9.idx.length j9, .int .i64 s9.next], .int .i64 0, .int .i64 0]) (by simp [results, Tryz.results21, go_sem, x0, x1, x2, x3]) rfl ⟨_, rfl, hE, gE⟩
theorem Zvx {s : St} (h : Vj S s x v ad c w) (k1 : ¬ x.kind = 1) (k2 : ¬ x.kind = 2) (k3 : ¬ x.kind = 3) (k4 : ¬ x.kind = 4) (k5 : ¬ x.kind = 5) (k6 : x.kind = 6) : Qc 21 S s x v ad c w := by
 obtain ⟨ab, cb, al, cl, ai, ci, rfl, hb, hl, hi, hnz, g0, hs1, hd1, hz1, HWs⟩ := h.pre;obtain ⟨hS, hs, hd, hA, hdl⟩ := h;unfold Qc;have hns : ¬ Zw S (w.heap.size + 3) w.heap.size := Yn hS (by omega);obtain ⟨R, hR⟩ : ∃ R, R = s.step x := ⟨_, rfl⟩;rw [← hR];have HR : Hid (R = s.step x) := hR;have HAT : Hid (s.At) := hA;clear hR hA;go_enter Tryz.func21, Tryz.ntmps21;obtain ⟨d0, d1, d2, d3, d4⟩ := Qb hd1 rfl rfl rfl rfl rfl;have d5 := Zd hd1 5 _ rfl;have d6 := Zd hd1 6 _ rfl;obtain ⟨s0, s1, s2, s3⟩ := Z4 hs1 rfl rfl rfl rfl;have q1 : (x.kind == 1) = false := by simp [k1]
 have q2 : (x.kind == 2) = false := by simp [k2]
 have q3 : (x.kind == 3) = false := by simp [k3]
 have q4 : (x.kind == 4) = false := by simp [k4]
 have q5 : (x.kind == 5) = false := by simp [k5]
 have q6 : (x.kind == 6) = true := by simp [k6]
 obtain ⟨s9, hs9⟩ : ∃ s9, s9 = X2 s.dk := ⟨_, rfl⟩;obtain rfl : R = ⟨s9, 0, 0⟩ := by rw [HR.out, hs9]; unfold St.step; rw [if_neg k1, if_neg k2, if_neg k3, if_neg k4, if_neg k5, if_pos k6]
 have HS9 : Hid _ := hs9;clear HR k1 k2 k3 k4 k5 k6 hs9;go_wp2_with fail;generalize World.alloc (World.alloc (World.alloc w _) _) _ = W at *;have hWs := HWs.out;clear HWs;refine (Za6 S 0 s.dk _ W (fun b h => by have := hS b h; omega) ⟨_, _, rfl, hb.grow g0, hl.grow g0⟩ HAT.out.ok.disk (by omega)).mono ?_;rw [hWs, ← HS9.out];rintro r w1 ⟨v1, rfl, hS8, g1⟩;have hs8 := (g1.block _ (Za hs1)).trans hs1;have hz8 := (g1.block _ (Za hz1)).trans hz1;have gw8 := g0.trans g1;obtain ⟨b9, e9, l9, m9, i9, j9, hv9, -, -, -⟩ := hS8.form;subst hv9;clear d0 d1 d2 d3 d4 d5 d6 s0 s1 s2 s3 hs1 hd1 hz1 g0 g1 hs hb hl hi;obtain ⟨ht1, ht2⟩ := Ye hs8 (.slice b9 s9.dk.blocks.length e9) (.slice l9 s9.dk.late.length m9) (.slice i9 s9.idx.length j9) (.int .i64 s9.next);obtain ⟨y0, y1, y2, y3⟩ := Z4 hs8 rfl rfl rfl rfl;obtain ⟨f0, f1, f2, f3⟩ := Yq hs8;obtain ⟨t0, t1, t2, t3⟩ := Z4 ht1 rfl rfl rfl rfl;have hz9 := (ht2.block _ (Za hz8) (by omega)).trans hz8;have gw9 := ht2.grow gw8 (Nat.le_refl _);have hS9 := hS8.but ht2 hns;clear ht1 ht2 hs8 hz8 gw8 hS8;obtain ⟨hq1, hq2⟩ := Ye hz9 (.slice b9 s9.dk.blocks.length e9) (.slice l9 s9.dk.late.length m9) (.slice i9 s9.idx.length j9) (.int .i64 s9.next);obtain ⟨z0, z1, z2, z3⟩ := Z4 hz9 rfl rfl rfl rfl;obtain ⟨o0, o1, o2, o3⟩ := Yq hz9;obtain ⟨x0, x1, x2, x3⟩ := Z4 hq1 rfl rfl rfl rfl;have cs := Zt;have gE := hq2.grow gw9 (by omega);have hE := (hS9.but hq2 hnz).mono (Zz (B := w.heap.size) (by omega));clear hq1 hq2 hz9 gw9 hS9;go_wp2_with fail
 exact bodyPost_ret (v := .tuple #[.agg #[.slice b9 s9.dk.blocks.length e9, .slice l9 s9.dk.late.length m9, .slice i9 s9.idx.length j9, .int .i64 s9.next], .int .i64 0, .int .i64 0]) (by simp [results, Tryz.results21, go_sem, x0, x1, x2, x3]) rfl ⟨_, rfl, hE, gE⟩
theorem Zs1 {s : St} (h : Vj S s x v ad c w) (k1 : ¬ x.kind = 1) (k2 : ¬ x.kind = 2) (k3 : ¬ x.kind = 3) (k4 : ¬ x.kind = 4) (k5 : ¬ x.kind = 5) (k6 : ¬ x.kind = 6) : Qc 21 S s x v ad c w := by
 obtain ⟨ab, cb, al, cl, ai, ci, rfl, hb, hl, hi, hnz, g0, hs1, hd1, hz1, HWs⟩ := h.pre;obtain ⟨hS, hs, hd, hA, hdl⟩ := h;unfold Qc;have hns : ¬ Zw S (w.heap.size + 3) w.heap.size := Yn hS (by omega);obtain ⟨R, hR⟩ : ∃ R, R = s.step x := ⟨_, rfl⟩;rw [← hR];have HR : Hid (R = s.step x) := hR;have HAT : Hid (s.At) := hA;clear hR hA;go_enter Tryz.func21, Tryz.ntmps21;obtain ⟨d0, d1, d2, d3, d4⟩ := Qb hd1 rfl rfl rfl rfl rfl;have d5 := Zd hd1 5 _ rfl;have d6 := Zd hd1 6 _ rfl;obtain ⟨s0, s1, s2, s3⟩ := Z4 hs1 rfl rfl rfl rfl;have q1 : (x.kind == 1) = false := by simp [k1]
 have q2 : (x.kind == 2) = false := by simp [k2]
 have q3 : (x.kind == 3) = false := by simp [k3]
 have q4 : (x.kind == 4) = false := by simp [k4]
 have q5 : (x.kind == 5) = false := by simp [k5]
 have q6 : (x.kind == 6) = false := by simp [k6]
 obtain rfl : R = ⟨s, 0, 1⟩ := by rw [HR.out]; unfold St.step; rw [if_neg k1, if_neg k2, if_neg k3, if_neg k4, if_neg k5, if_neg k6]
 clear HR k1 k2 k3 k4 k5 k6;go_upto_region 1 with fail
 generalize World.alloc (World.alloc (World.alloc w _) _) _ = W at *;have hWs := HWs.out;clear HWs;have hzX := hz1;have gwX := g0;obtain ⟨z0, z1, z2, z3⟩ := Z4 hzX rfl rfl rfl rfl;obtain ⟨f0, f1, f2, f3⟩ := Yq hzX;have cs := Zt;obtain ⟨hq1, hq2⟩ := Ye hzX (.slice ab s.dk.blocks.length cb) (.slice al s.dk.late.length cl) (.slice ai s.idx.length ci) (.int .i64 s.next);obtain ⟨x0, x1, x2, x3⟩ := Z4 hq1 rfl rfl rfl rfl;have gE := hq2.grow gwX (by omega);have hE := (hs.grow gE).mono (S' := Zw S w.heap.size) V3;clear hq1 hq2 hzX gwX;go_wp2_with fail;exact bodyPost_ret (v := .tuple #[.agg #[.slice ab s.dk.blocks.length cb, .slice al s.dk.late.length cl, .slice ai s.idx.length ci, .int .i64 s.next], .int .i64 0, .int .i64 1]) (by simp [results, Tryz.results21, go_sem, x0, x1, x2, x3]) rfl ⟨_, rfl, hE, gE⟩
theorem Zd9 (S : Nat → Prop) (s : St) (x : Sp) (v : Value) (ad : Option Addr) (c : Nat) (w : World) (hS : ∀ b, S b → b < w.heap.size) (hs : Yb S s v w) (hd : Z3 S w (.slice ad x.deed.data.length c) x.deed.data) (hA : s.At) (hdl : x.deed.data.length ≤ 140737488355328) :
  Calls Tryz.prog 21 #[v, .agg #[.int .i64 x.kind, .int .i64 x.n, .int .i64 x.m, .int .i64 x.deed.kind, .int .i64 x.deed.key, .int .i64 x.deed.num, .slice ad x.deed.data.length c]] w fun r w' => ∃ v', r = .returned (.tuple #[v', .int .i64 (s.step x).n, .int .i64 (s.step x).e]) ∧ Yb (Zw S w.heap.size) (s.step x).st v' w' ∧ Zp w w' := by
 have h : Vj S s x v ad c w := ⟨hS, hs, hd, hA, hdl⟩;by_cases k1 : x.kind = 1
 ·exact Zv2 h k1
 ·by_cases k2 : x.kind = 2
  ·exact Zv1 h k1 k2
  ·by_cases k3 : x.kind = 3
   ·exact Zv0 h k1 k2 k3
   ·by_cases k4 : x.kind = 4
    ·exact Zvz h k1 k2 k3 k4
    ·by_cases k5 : x.kind = 5
     ·exact Zvy h k1 k2 k3 k4 k5
     ·by_cases k6 : x.kind = 6
      ·exact Zvx h k1 k2 k3 k4 k5 k6
      ·exact Zs1 h k1 k2 k3 k4 k5 k6
def Zo7 : Qr Sp where
 T := 49
 size := 7
 enc S w x cs := ∃ u, cs = [.int .i64 x.kind, .int .i64 x.n, .int .i64 x.m, .int .i64 x.deed.kind, .int .i64 x.deed.key, .int .i64 x.deed.num, u] ∧ Z3 S w u x.deed.data
 len := by rintro S w x cs ⟨u, rfl, _⟩; rfl
 keep := by rintro S w w' x cs ⟨u, rfl, h⟩ hk; exact ⟨u, rfl, h.keeps hk⟩
 mono := by rintro S S' w x cs ⟨u, rfl, h⟩ hS; exact ⟨u, rfl, h.mono hS⟩
 cap := by rintro S w x cs ⟨u, rfl, h⟩; exact ⟨u, rfl, h.caps⟩
 one := by
  rintro S w x cs ⟨u, rfl, h⟩ c hc;simp only [List.mem_cons, List.not_mem_nil, or_false] at hc;rcases hc with rfl | rfl | rfl | rfl | rfl | rfl | rfl
  ·rfl
  ·rfl
  ·rfl
  ·rfl
  ·rfl
  ·rfl
  ·exact h.one
abbrev Jp (S : Nat → Prop) (w : World) (v : Value) (l : List Sp) : Prop := Z9 Zo7 S w v l
theorem Zfu {S : Nat → Prop} {w : World} {ao : Option Addr} {n cap : Nat} {l : List Sp} (h : Jp S w (.slice ao n cap) l) (i : Nat) (hi : i < l.length) :
  ∃ b off a c, ao = some ⟨b, off, none⟩ ∧ w.cell? ⟨b, off + i * 7, none⟩ = some (.int .i64 l[i].kind) ∧ w.cell? ⟨b, off + i * 7 + 1, none⟩ = some (.int .i64 l[i].n) ∧ w.cell? ⟨b, off + i * 7 + 2, none⟩ = some (.int .i64 l[i].m) ∧ w.cell? ⟨b, off + i * 7 + 3, none⟩ = some (.int .i64 l[i].deed.kind) ∧ w.cell? ⟨b, off + i * 7 + 4, none⟩ = some (.int .i64 l[i].deed.key) ∧ w.cell? ⟨b, off + i * 7 + 5, none⟩ = some (.int .i64 l[i].deed.num) ∧
   w.cell? ⟨b, off + i * 7 + 6, none⟩ = some (.slice a l[i].deed.data.length c) ∧ Z3 S w (.slice a l[i].deed.data.length c) l[i].deed.data := by
 obtain ⟨b, off, rfl, _, cs, ⟨u, rfl, hu⟩, hc⟩ := h.at i hi;obtain ⟨a, c, rfl⟩ := hu.form;exact ⟨b, off, a, c, rfl, hc 0 _ rfl, hc 1 _ rfl, hc 2 _ rfl, hc 3 _ rfl, hc 4 _ rfl, hc 5 _ rfl, hc 6 _ rfl, hu⟩
def K6 : Nat → St → List Sp → St
 | 0, s, _ => s
 | _ + 1, s, [] => s
 | n + 1, s, x :: l => if V0 s x = true then K6 n (s.step x).st l else s
theorem Zn8 (n : Nat) (s : St) : K6 n s [] = s := by cases n <;> rfl
theorem Zdo : Y1.At := Zbt Zap
theorem Zkw (S : Nat → Prop) (l : List Sp) (v : Value) (w : World) (hS : ∀ b, S b → b < w.heap.size) (hl : Jp S w v l) (hm : l.length ≤ 140737488355328) (hdl : ∀ x ∈ l, x.deed.data.length ≤ 140737488355328) :
  Calls Tryz.prog 23 #[v] w fun r w' => ∃ v', r = .returned v' ∧ Yb (Zw S w.heap.size) (K6 100 Y1 l) v' w' ∧ Zp w w' := by
 obtain ⟨ao, cp, rfl⟩ := hl.form;have g0 := Zc w Y4;have hz0 := Zj w #[.slice none 0 0, .slice none 0 0, .slice none 0 0, .int .i64 0] 29;obtain ⟨R, hR⟩ : ∃ R, R = K6 100 Y1 l := ⟨_, rfl⟩;rw [← hR];have HR : Hid _ := hR;clear hR;go_enter Tryz.func23, Tryz.ntmps23;go_wp2_with fail;refine (Zia S (w.alloc Y4) (fun b h => by have := hS b h; simp; omega)).mono ?_;rintro r w1 ⟨v1, rfl, hS1, g1⟩;obtain ⟨b1, e1, l1, m1, i1, j1, hv1, -, -, -⟩ := hS1.form;subst hv1;rw [World.size_alloc] at hS1;obtain ⟨G, hG⟩ : ∃ G, G = w1.heap.size := ⟨_, rfl⟩;have hz1 := (g1.block _ (Za hz0)).trans hz0;have hGz : w.heap.size < G := by rw [hG]; exact Za hz1
 have g2 := Zc w1 (.cells #[.slice b1 Y1.dk.blocks.length e1, .slice l1 Y1.dk.late.length m1, .slice i1 Y1.idx.length j1, .int .i64 Y1.next] 29);have hY := Zj w1 #[.slice b1 Y1.dk.blocks.length e1, .slice l1 Y1.dk.late.length m1, .slice i1 Y1.idx.length j1, .int .i64 Y1.next] 29;have hz2 := (g2.block _ (Za hz1)).trans hz1;have gw2 := g0.trans (g1.trans g2);rw [← hG] at hY;obtain ⟨U, hU⟩ : ∃ U : Nat → Prop, U = fun b => S b ∨ (w.heap.size < b ∧ b ≠ G) := ⟨_, rfl⟩
 have hUz : ¬ U w.heap.size := by rw [hU]; rintro (h | h); exact absurd (hS _ h) (Nat.lt_irrefl _); omega
 have hUg : ¬ U G := by rw [hU]; rintro (h | h); have := hS _ h; omega; exact h.2 rfl
 have hUp : ∀ b, U b → Zw S w.heap.size b := by rw [hU]; rintro b (h | h); exact .inl h; exact .inr (by omega)
 have hUs : ∀ b, S b → U b := by rw [hU]; exact fun b h => .inl h
 have hUn : ∀ b, G < b → U b := by rw [hU]; exact fun b h => .inr (by omega)
 have hS2 : Yb U Y1 (.agg #[.slice b1 Y1.dk.blocks.length e1, .slice l1 Y1.dk.late.length m1, .slice i1 Y1.idx.length j1, .int .i64 Y1.next]) (w1.alloc (.cells #[.slice b1 Y1.dk.blocks.length e1, .slice l1 Y1.dk.late.length m1, .slice i1 Y1.idx.length j1, .int .i64 Y1.next] 29)) := (hS1.capd.grow g2).mono (by
  rw [hU, ← hG];rintro b ⟨h | h, hb⟩
  ·exact .inl h
  ·exact .inr ⟨by omega, by omega⟩)
 have HG : Hid _ := hG;have HU : Hid _ := hU;have HST : Hid (Y1.At) := Zdo;clear g0 g1 g2 hz0 hz1 hS1 hG hU;go_wp2_with fail;rw [← HG.out];have HGE : Hid (K6 (100 - 0) Y1 (l.drop 0) = R) := HR.out.symm;generalize Y1 = s0 at *;go_loopw [9] (fun i wr => ∃ (k : Nat) (s : St) (b1 : Option Addr) (e1 : Nat) (l1 : Option Addr) (m1 : Nat) (i1 : Option Addr) (j1 : Nat), k ≤ 100 ∧ k ≤ l.length ∧ i = .int .i64 (k : Int) ∧ Hid (K6 (100 - k) s (l.drop k) = R) ∧ Hid s.At ∧ wr.heap[w.heap.size]? = some (.cells #[.slice none 0 0, .slice none 0 0, .slice none 0 0, .int .i64 0] 29 (0, 0)) ∧ wr.heap[G]? = some (.cells #[.slice b1 s.dk.blocks.length e1, .slice l1 s.dk.late.length m1, .slice i1 s.idx.length j1, .int .i64 s.next] 29 (0, 0)) ∧ Yb U s (.agg #[.slice b1 s.dk.blocks.length e1, .slice l1 s.dk.late.length m1, .slice i1 s.idx.length j1, .int .i64 s.next]) wr ∧ Zp w wr) (fun i _ => l.length - (intOf i).toNat)
 case atStart => exact ⟨0, s0, b1, e1, l1, m1, i1, j1, by omega, by omega, rfl, HGE, HST, hz2, hY, hS2, gw2⟩
 case round =>
  clear hz2 hY hS2 gw2 HGE HST HR;obtain ⟨k, s, b1, e1, l1, m1, i1, j1, hk1, hkl, rfl, HGE, HST, hz9, hY, hS9, gw9⟩ := hrel;obtain ⟨y0, y1, y2, y3⟩ := Z4 hY rfl rfl rfl rfl;by_cases hlt : k < l.length
  ·obtain ⟨b, off, ad, c, hao, q0, q1, q2, q3, q4, q5, q6, hbd⟩ := Zfu (hl.grow gw9) k hlt;cases hao;have HDR : Hid (l.drop k = l[k] :: l.drop (k + 1)) := List.drop_eq_getElem_cons hlt;have HDL : Hid (l[k].deed.data.length ≤ 140737488355328) := hdl _ (List.getElem_mem hlt);generalize l[k] = x at *;have g3 := Zc wr (.cells #[.int .i64 x.kind, .int .i64 x.n, .int .i64 x.m, .int .i64 x.deed.kind, .int .i64 x.deed.key, .int .i64 x.deed.num, .slice ad x.deed.data.length c] 49);have hX := Zj wr #[.int .i64 x.kind, .int .i64 x.n, .int .i64 x.m, .int .i64 x.deed.kind, .int .i64 x.deed.key, .int .i64 x.deed.num, .slice ad x.deed.data.length c] 49;have hz3 := (g3.block _ (Za hz9)).trans hz9;have hY3 := (g3.block _ (Za hY)).trans hY;have hS3 := hS9.grow g3;have hb3 := hbd.grow g3;have gw3 := gw9.trans g3;have hGr : G < wr.heap.size := Za hY;clear y0 y1 y2 y3 hz9 hS9 gw9 hY hbd;by_cases h100 : k = 100
   ·have d1 : ((k : Int) == 100) = true := by simp [h100]
    obtain rfl : s = R := by rw [← HGE.out, h100]; rfl
    have hz9 := hz3;have hS9 := hS3;have gw9 := gw3;obtain ⟨y0, y1, y2, y3⟩ := Z4 hY3 rfl rfl rfl rfl;clear HGE HST hX hz3 hS3 gw3 hY3 hb3 g3 h100;obtain ⟨z0, z1, z2, z3⟩ := Z4 hz9 rfl rfl rfl rfl;obtain ⟨o0, o1, o2, o3⟩ := Yq hz9;obtain ⟨hq1, hq2⟩ := Ye hz9 (.slice b1 s.dk.blocks.length e1) (.slice l1 s.dk.late.length m1) (.slice i1 s.idx.length j1) (.int .i64 s.next);obtain ⟨x0, x1, x2, x3⟩ := Z4 hq1 rfl rfl rfl rfl;have cs := Zt;have gE := hq2.grow gw9 (Nat.le_refl _);have hE := (hS9.but hq2 hUz).mono hUp;clear hq1 hq2 hz9 gw9 hS9;go_wp2_with fail;exact bodyPost_ret (v := .agg #[.slice b1 s.dk.blocks.length e1, .slice l1 s.dk.late.length m1, .slice i1 s.idx.length j1, .int .i64 s.next]) (by simp [results, Tryz.results23, go_sem, x0, x1, x2, x3]) rfl ⟨_, rfl, hE, gE⟩
   ·have d1 : ((k : Int) == 100) = false := by simp; omega
    obtain ⟨y0, y1, y2, y3⟩ := Z4 hY3 rfl rfl rfl rfl;obtain ⟨p0, p1, p2, p3, p4⟩ := Qb hX rfl rfl rfl rfl rfl;have p5 := Zd hX 5 _ rfl;have p6 := Zd hX 6 _ rfl;have HG1 : Hid (R = if V0 s x = true then K6 (100 - (k + 1)) (s.step x).st (l.drop (k + 1)) else s) := by
     show R = _;rw [← HGE.out, HDR.out, show 100 - k = (100 - (k + 1)) + 1 by omega];rfl
    have HK1 : Hid (k + 1 ≤ 100) := by show _ ≤ _; omega
    clear HGE g3 h100;go_wp2_with fail;refine (Ze1 U 0 s x _ ad c _ hS3 HST.out.ok.disk (by omega)).mono ?_;cases hgt : V0 s x with
    | false =>
     obtain rfl : s = R := by rw [HG1.out, hgt]; rfl
     rintro r w4 ⟨rfl, g4⟩;have hz9 := (g4.block _ (Za hz3)).trans hz3;have hY4 := (g4.block _ (Za hY3)).trans hY3;have hS9 := hS3.grow g4;have gw9 := gw3.trans g4;clear y0 y1 y2 y3 p0 p1 p2 p3 p4 p5 p6 HG1 HST hX hz3 hS3 gw3 hY3 hb3 g4 hgt q0 q1 q2 q3 q4 q5 q6;obtain ⟨y0, y1, y2, y3⟩ := Z4 hY4 rfl rfl rfl rfl;clear hY4;obtain ⟨z0, z1, z2, z3⟩ := Z4 hz9 rfl rfl rfl rfl;obtain ⟨o0, o1, o2, o3⟩ := Yq hz9;obtain ⟨hq1, hq2⟩ := Ye hz9 (.slice b1 s.dk.blocks.length e1) (.slice l1 s.dk.late.length m1) (.slice i1 s.idx.length j1) (.int .i64 s.next);obtain ⟨x0, x1, x2, x3⟩ := Z4 hq1 rfl rfl rfl rfl;have cs := Zt;have gE := hq2.grow gw9 (Nat.le_refl _);have hE := (hS9.but hq2 hUz).mono hUp;clear hq1 hq2 hz9 gw9 hS9;go_wp2_with fail;exact bodyPost_ret (v := .agg #[.slice b1 s.dk.blocks.length e1, .slice l1 s.dk.late.length m1, .slice i1 s.idx.length j1, .int .i64 s.next]) (by simp [results, Tryz.results23, go_sem, x0, x1, x2, x3]) rfl ⟨_, rfl, hE, gE⟩
    | true =>
     have HG2 : Hid (K6 (100 - (k + 1)) (s.step x).st (l.drop (k + 1)) = R) := by show _ = _; rw [HG1.out, hgt, if_pos rfl]
     rintro r w4 ⟨rfl, g4⟩;have hz4 := (g4.block _ (Za hz3)).trans hz3;have hY4 := (g4.block _ (Za hY3)).trans hY3;have hX4 := (g4.block _ (Za hX)).trans hX;have hS4 := (hS3.grow g4).capd;have hb4 := ((hb3.mono hUs).grow g4).caps;have gw4 := gw3.trans g4;have hG4 : G < w4.heap.size := Za hY4;clear y0 y1 y2 y3 p0 p1 p2 p3 p4 p5 p6 HG1 hX hz3 hS3 gw3 hY3 hb3 g4 hgt q0 q1 q2 q3 q4 q5 q6;obtain ⟨y0, y1, y2, y3⟩ := Z4 hY4 rfl rfl rfl rfl;obtain ⟨p0, p1, p2, p3, p4⟩ := Qb hX4 rfl rfl rfl rfl rfl;have p5 := Zd hX4 5 _ rfl;have p6 := Zd hX4 6 _ rfl;go_wp2_with fail;refine (Zd9 (fun b => U b ∧ b < w4.heap.size) s x _ ad c w4 (fun b h => h.2) hS4 hb4 HST.out HDL.out).mono ?_;have HAT : Hid ((s.step x).st.At) := Za5 HST.out;generalize s.step x = B at *;rintro r w5 ⟨v5, rfl, hS5, g5⟩;obtain ⟨b5, e5, l5, m5, i5, j5, hv5, -, -, -⟩ := hS5.form;subst hv5;have hz5 := (g5.block _ (Za hz4)).trans hz4;have hY5 := (g5.block _ (Za hY4)).trans hY4;have gw5 := gw4.trans g5;have hS6 : Yb U B.st (.agg #[.slice b5 B.st.dk.blocks.length e5, .slice l5 B.st.dk.late.length m5, .slice i5 B.st.idx.length j5, .int .i64 B.st.next]) w5 := hS5.mono fun b h => h.elim (fun x => x.1) (fun x => hUn b (by omega))
     clear y0 y1 y2 y3 p0 p1 p2 p3 p4 p5 p6 hX4 hz4 hY4 hS4 hb4 gw4 hS5 g5 HST;obtain ⟨hp1, hp2⟩ := Ye hY5 (.slice b5 B.st.dk.blocks.length e5) (.slice l5 B.st.dk.late.length m5) (.slice i5 B.st.idx.length j5) (.int .i64 B.st.next);obtain ⟨y0, y1, y2, y3⟩ := Z4 hY5 rfl rfl rfl rfl;obtain ⟨f0, f1, f2, f3⟩ := Yq hY5;have cs := Zt;have hz6 := (hp2.block _ (Za hz5) (by intro e; omega)).trans hz5;have hS7 := hS6.but hp2 hUg;have gw6 := hp2.grow gw5 (by omega);clear hp2 hz5 hY5 gw5 hS6;go_wp2_with fail;go_roundw
     case rel => exact ⟨k + 1, B.st, b5, e5, l5, m5, i5, j5, HK1.out, by omega, by go_num, HG2, HAT, hz6, hp1, hS7, gw6⟩
     case measure => simp [intOf]; omega
  ·obtain rfl : s = R := by
    have e : l.drop k = [] := List.drop_eq_nil_of_le (by omega);rw [← HGE.out, e, Zn8]
   clear HGE HST hY;obtain ⟨z0, z1, z2, z3⟩ := Z4 hz9 rfl rfl rfl rfl;obtain ⟨o0, o1, o2, o3⟩ := Yq hz9;obtain ⟨hq1, hq2⟩ := Ye hz9 (.slice b1 s.dk.blocks.length e1) (.slice l1 s.dk.late.length m1) (.slice i1 s.idx.length j1) (.int .i64 s.next);obtain ⟨x0, x1, x2, x3⟩ := Z4 hq1 rfl rfl rfl rfl;have cs := Zt;have gE := hq2.grow gw9 (Nat.le_refl _);have hE := (hS9.but hq2 hUz).mono hUp;clear hq1 hq2 hz9 gw9 hS9;go_wp2_with fail;exact bodyPost_ret (v := .agg #[.slice b1 s.dk.blocks.length e1, .slice l1 s.dk.late.length m1, .slice i1 s.idx.length j1, .int .i64 s.next]) (by simp [results, Tryz.results23, go_sem, x0, x1, x2, x3]) rfl ⟨_, rfl, hE, gE⟩
end Go.Proofs.YtpdnapbchcdhlacGreat
