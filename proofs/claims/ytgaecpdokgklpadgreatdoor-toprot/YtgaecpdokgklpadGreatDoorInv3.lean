import Derived.Test.YtgaecpdokgklpadGreatDoorInv2
import Derived.Deep.DeepCutAuto
import Derived.Deep.AppendLies
import Derived.Lib.AtoiAll
import Derived.Lib.ItoaNum
set_option maxHeartbeats 8000000
namespace Go.Proofs.YtgaecpdokgklpadGreatDoor
set_option maxRecDepth 100000
open Plain
theorem Zlk (e : Ent) : ∀ l : List Ent, (Zbn e l).length = l.length + 1
 | [] => rfl
 | x :: l => by
  unfold Zbn;split
  ·rfl
  ·simp [Zlk e l]
theorem Zpq : ∀ (l : List Ent) (i : Nat) (h : i < l.length), l.Pairwise Ups → Ji l l[i].pair = l.take i ++ l.drop (i + 1)
 | a :: l, 0, _, hp => by
  obtain ⟨h1, _⟩ := List.pairwise_cons.1 hp;unfold Ji;simp only [List.getElem_cons_zero, List.take_zero, List.nil_append, List.drop_succ_cons, List.drop_zero];rw [List.filter_cons_of_neg (by simp), List.filter_eq_self];intro x hx;exact decide_eq_true (fun e => (h1 x hx).2 e.symm)
 | a :: l, i + 1, h, hp => by
  obtain ⟨h1, h2⟩ := List.pairwise_cons.1 hp;have hi : i < l.length := by simpa using h
  have ih := Zpq l i hi h2;unfold Ji at ih ⊢;simp only [List.getElem_cons_succ, List.take_succ_cons, List.drop_succ_cons, List.cons_append];rw [List.filter_cons_of_pos (by exact decide_eq_true (h1 _ (List.getElem_mem hi)).2), ih]
theorem Zb4 {s : St} (h : s.Inv) (x : Ent) : x ∈ s.idx ↔ ∃ p : Nat, p < 6 ∧ (s.dk.tell (p : Int)).kind ≠ 1 ∧ x = ⟨s.dk.tell (p : Int), (p : Int)⟩ := by rw [h.idx]; exact Qj s.dk x 6
theorem Ztk {s : St} (h : s.Inv) (r : Rec) : r ∈ s.recs ↔ ∃ p : Nat, p < 6 ∧ (s.dk.tell (p : Int)).kind ≠ 1 ∧ r = s.dk.tell (p : Int) := by
 unfold St.recs;rw [List.mem_map];constructor
 ·rintro ⟨x, hx, rfl⟩;obtain ⟨p, hp, hk, rfl⟩ := (Zb4 h x).1 hx;exact ⟨p, hp, hk, rfl⟩
 ·rintro ⟨p, hp, hk, rfl⟩;exact ⟨_, (Zb4 h _).2 ⟨p, hp, hk, rfl⟩, rfl⟩
theorem Zpj {s : St} (h : s.Inv) : s.idx.Pairwise Ups := by rw [h.idx]; exact Zfu s.dk
theorem Zr5 {s : St} (h : s.Inv) {d : Dd} (hw : Z3 d = 0) (hk : d.kind ≠ 3) (he : (doR s.recs d).e = 0) :
  ∃ p : Nat, p < 6 ∧ Xy s.idx = p ∧ doR s.recs d = ⟨s.recs ++ [Xf d (Xe s.recs)], Xe s.recs, 0⟩ ∧ Z6 (Xf d (Xe s.recs)) = 0 ∧ (Xf d (Xe s.recs)).kind ≠ 1 ∧ (s.dk.tell (p : Int)).kind = 1 ∧ ∀ q : Nat, q < 6 → (s.dk.tell (q : Int)).kind ≠ 1 → (s.dk.tell (q : Int)).ver ≠ (Xf d (Xe s.recs)).ver := by
 obtain ⟨h5, hn, h6⟩ := Zdr hk he;have hl5 : s.idx.length ≤ 5 := by simpa [St.recs] using h5
 obtain ⟨hL, hL5⟩ := Zay (l := s.idx) (by omega);have hm := Zcp (n := Xe s.recs) hw hk Zav.1 h6;refine ⟨Xy s.idx, by omega, rfl, ?_, hm.1, hm.2, ?_, fun q hq hkq => ?_⟩
 ·unfold doR;rw [if_neg hk, if_neg (by omega), if_neg (by omega)]
 ·by_cases e : (s.dk.tell ((Xy s.idx : Nat) : Int)).kind = 1
  ·exact e
  ·exact absurd rfl (hL.2 _ ((Zb4 h _).2 ⟨_, by omega, e, rfl⟩))
 ·have := Zav.2 _ ((Ztk h _).2 ⟨q, hq, hkq, rfl⟩);show _ ≠ Xe s.recs;omega
theorem Zmb {s : St} (h : s.Inv) {d : Dd} (hk : d.kind = 3) (he : (doR s.recs d).e = 0) :
  ∃ p : Nat, p < 6 ∧ Zg2 d s.idx = (p : Int) ∧ (doR s.recs d).l = (Ji s.idx (p : Int)).map Ent.rc ∧ (doR s.recs d).n = d.num ∧ (s.dk.tell (p : Int)).kind ≠ 1 := by
 unfold doR at he ⊢;rw [if_pos hk] at he ⊢;cases hf : s.recs.findIdx? (Qz d) with
 | none => rw [hf] at he; cases he
 | some i =>
  simp only;obtain ⟨hi, hfi, hlt⟩ := List.findIdx?_eq_some_iff_getElem.1 hf;have hil : i < s.idx.length := by simpa [St.recs] using hi
  have hget : s.recs[i] = s.idx[i].rc := by simp [St.recs]
  have hfind : s.idx.find? (Zjo d) = some s.idx[i] := by
   rw [List.find?_eq_some_iff_getElem];refine ⟨?_, i, hil, rfl, fun j hj => ?_⟩
   ·have : Qz d s.recs[i] = true := hfi;rw [hget] at this; exact this
   ·have hjl : j < s.recs.length := by omega
    have h1 := hlt j hj;have : s.recs[j] = s.idx[j].rc := by simp [St.recs]
    rw [this] at h1;have h2 : ¬ Qz d s.idx[j].rc = true := h1;show (!Qz d s.idx[j].rc) = true;simpa using h2
  obtain ⟨p, hp, hkp, hx⟩ := (Zb4 h _).1 (List.getElem_mem hil);have hpair : s.idx[i].pair = (p : Int) := by rw [hx]
  refine ⟨p, hp, ?_, ?_, trivial, hkp⟩
  ·unfold Zg2;rw [if_pos hk, hfind];exact hpair
  ·rw [← hpair, Zpq s.idx i hil (Zpj h)];simp [St.recs]
structure Zz6 (s : St) (d : Dd) (p : Nat) (r : Rec) : Prop where
 p6 : p < 6
 right : Z6 r = 0
 disk : (s.begin d).st.dk = s.dk.pairD (p : Int) r
 next : (s.begin d).st.next = s.next
 n : (s.begin d).n = (doR s.recs d).n
 good : ∀ x y, (s.dk.half p r x y).Good
 same : ∀ x y, (∀ q : Nat, q < 6 → (s.dk.half p r x y).tell (q : Int) = s.dk.tell (q : Int)) ∨ (Yf (s.dk.half p r x y) 6 = (s.begin d).st.idx)
 whole : Yf (s.dk.half p r true true) 6 = (s.begin d).st.idx
 recs : J3 (s.begin d).st.recs (doR s.recs d).l = true
theorem Za3 {s : St} (h : s.Inv) {d : Dd} (he : (s.begin d).e = 0) : ∃ p r, Zz6 s d p r := by
 have hg := h.good;unfold St.begin at he;by_cases hw : Z3 d = 0
 ·rw [if_neg (by simpa using hw)] at he;by_cases hr : (doR s.recs d).e = 0
  ·have hb : s.begin d = if d.kind = 3 then ⟨⟨s.dk.pairD (Zg2 d s.idx) Rec.free, Ji s.idx (Zg2 d s.idx), s.next⟩, (doR s.recs d).n, 0⟩ else ⟨⟨s.dk.pairD (Xy s.idx) (Xf d (doR s.recs d).n), Qh ⟨Xf d (doR s.recs d).n, (Xy s.idx : Nat)⟩ s.idx, s.next⟩, (doR s.recs d).n, 0⟩ := by
    unfold St.begin;rw [if_neg (by simpa using hw), if_neg (by simpa using hr)]
   by_cases hk : d.kind = 3
   ·rw [if_pos hk] at hb;obtain ⟨p, hp, hat, hl, hn, hkp⟩ := Zmb h hk hr;rw [hat] at hb;have hoth : ∀ x y q, q < 6 → q ≠ p → (s.dk.half p Rec.free x y).tell ((q : Nat) : Int) = s.dk.tell (q : Int) := fun x y q hq hne => (X3 hg.fine hp hq hne Qc x y).2
    have hdrop : ∀ x y, (s.dk.half p Rec.free x y).tell (p : Int) = Rec.free → Yf (s.dk.half p Rec.free x y) 6 = Ji s.idx (p : Int) := fun x y ht => by
     rw [h.idx]; exact Zp9 (by rw [ht]; rfl) (hoth x y)
    refine ⟨p, Rec.free, hp, Qc, by rw [hb], by rw [hb], by rw [hb], fun x y => hg.free hp x y, fun x y => ?_, ?_, ?_⟩
    ·rcases (Zb5 hg.fine hp (hg.three p hp) x y).2.1 with e | e
     ·left; intro q hq;by_cases eq : q = p
      ·subst eq; exact e
      ·exact hoth x y q hq eq
     ·right; rw [hb]; exact hdrop x y e
    ·rw [hb]; exact hdrop true true ((Zb5 hg.fine hp (hg.three p hp) true true).2.2 rfl rfl).1
    ·rw [hb, hl]; exact Zbf _
   ·rw [if_neg hk] at hb;obtain ⟨p, hp, hlf, hdo, hwm, hkm, ht, hv⟩ := Zr5 h hw hk hr;have hn : (doR s.recs d).n = Xe s.recs := by rw [hdo]
    rw [hlf, hn] at hb;have hoth : ∀ x y q, q < 6 → q ≠ p → (s.dk.half p (Xf d (Xe s.recs)) x y).tell ((q : Nat) : Int) = s.dk.tell (q : Int) := fun x y q hq hne => (X3 hg.fine hp hq hne hwm x y).2
    have hput : ∀ x y, (x || y) = true → Yf (s.dk.half p (Xf d (Xe s.recs)) x y) 6 = Qh ⟨Xf d (Xe s.recs), (p : Int)⟩ s.idx := fun x y hxy => by
     rw [h.idx];refine Ztc hp hkm ht ?_ (hoth x y) hwm;rw [(Zll hg.fine hp hwm hkm (hg.three p hp) ht x y).2, if_pos hxy]
    refine ⟨p, Xf d (Xe s.recs), hp, hwm, by rw [hb], by rw [hb], by rw [hb, hn], fun x y => hg.put hp hwm hkm ht hv x y, fun x y => ?_, ?_, ?_⟩
    ·by_cases hxy : (x || y) = true
     ·right; rw [hb]; exact hput x y hxy
     ·left;obtain ⟨rfl, rfl⟩ : x = false ∧ y = false := by simpa using hxy
      rw [Zel s.dk hg.fine]; intro _ _; rfl
    ·rw [hb]; exact hput true true rfl
    ·rw [hb, hdo];unfold J3;rw [Bool.and_eq_true, List.all_eq_true];refine ⟨fun r hr => ?_, decide_eq_true ?_⟩
     ·unfold Zir;rw [List.any_eq_true];refine ⟨r, ?_, (K7 _ _).2 rfl⟩;obtain ⟨x, hx, rfl⟩ := List.mem_map.1 hr;rcases (Vo _ _ _).1 hx with rfl | hx
      ·exact List.mem_append_right _ (by simp)
      ·exact List.mem_append_left _ (List.mem_map_of_mem hx)
     ·show ((Qh _ s.idx).map Ent.rc).length = (s.recs ++ [_]).length;rw [List.length_map, Jv, Zlk];simp [St.recs]
  ·rw [if_pos (by simpa using hr)] at he; exact absurd he hr
 ·rw [if_pos (by simpa using hw)] at he; exact absurd he hw
theorem Zeo {s : St} {d : Dd} (he : (s.begin d).e ≠ 0) : (s.begin d).st = s ∧ (s.begin d).n = 0 ∧ (Z3 d = 0 → (s.begin d).e = (doR s.recs d).e ∧ (doR s.recs d).l = s.recs ∧ (doR s.recs d).n = 0) ∧ (Z3 d ≠ 0 → (s.begin d).e = Z3 d) := by
 unfold St.begin at he ⊢;by_cases hw : Z3 d = 0
 ·rw [if_neg (by simpa using hw)] at he ⊢;by_cases hr : (doR s.recs d).e = 0
  ·rw [if_neg (by simpa using hr)] at he;exfalso;split at he <;> exact he rfl
  ·rw [if_pos (by simpa using hr)];refine ⟨rfl, rfl, fun _ => ⟨rfl, ?_⟩, fun h => absurd hw h⟩;unfold doR at hr ⊢;split
   ·split
    ·rename_i h3 _ i hf; rw [if_pos h3, hf] at hr; exact absurd rfl hr
    ·exact ⟨rfl, rfl⟩
   ·rename_i h3;split
    ·exact ⟨rfl, rfl⟩
    ·split
     ·exact ⟨rfl, rfl⟩
     ·rename_i h5 h6; rw [if_neg h3, if_neg h5, if_neg h6] at hr; exact absurd rfl hr
 ·rw [if_pos (by simpa using hw)];exact ⟨rfl, rfl, fun h => absurd h hw, fun _ => rfl⟩
theorem Zcv {s : St} {d : Dd} (he : (s.begin d).e = 0) : Z3 d = 0 ∧ (doR s.recs d).e = 0 := by
 unfold St.begin at he;by_cases hw : Z3 d = 0
 ·refine ⟨hw, ?_⟩;rw [if_neg (by simpa using hw)] at he;by_cases hr : (doR s.recs d).e = 0
  ·exact hr
  ·rw [if_pos (by simpa using hr)] at he; exact absurd he hr
 ·rw [if_pos (by simpa using hw)] at he; exact absurd he hw
theorem Zen {s : St} (h : s.Inv) (d : Dd) : (s.doS d).st.Inv := by
 have hat : (s.doS d).st.At := ⟨Zxs h.at'.ok, by rw [Zfa]; exact h.at'.low, by rw [Zfa]; exact h.at'.high⟩;by_cases he : (s.begin d).e = 0
 ·obtain ⟨p, r, H⟩ := Za3 h he;have hst : (s.doS d).st = ⟨s.dk.half p r true true, (s.begin d).st.idx, (s.begin d).st.next⟩ := by
   unfold St.doS;rw [if_pos he, H.disk, Kz h.good.fine H.p6 H.right]
  have hg := H.good true true;rw [hst] at hat ⊢;exact ⟨hat, hg.three, H.whole.symm, hg.once⟩
 ·have hst : (s.doS d).st = s := by unfold St.doS; rw [if_neg he]; exact (Zeo he).1
  rw [hst]; exact h
theorem Zl4 {s : St} (h : s.Inv) {d : Dd} (hw : Z3 d = 0) : (s.doS d).e = (doR s.recs d).e ∧ (s.doS d).n = (doR s.recs d).n ∧ J3 (s.doS d).st.recs (doR s.recs d).l = true ∧ J3 (Xx (s.doS d).st.dk).recs (doR s.recs d).l = true := by
 have hi := Zen h d;have hm : (Xx (s.doS d).st.dk).recs = (s.doS d).st.recs := by
  unfold St.recs;rw [hi.good.mounted, hi.idx]
 rw [hm];by_cases he : (s.begin d).e = 0
 ·obtain ⟨p, r, H⟩ := Za3 h he;have hr : (s.doS d).st.recs = (s.begin d).st.recs := by unfold St.doS; rw [if_pos he]; rfl
  refine ⟨?_, ?_, by rw [hr]; exact H.recs, by rw [hr]; exact H.recs⟩
  ·rw [(Zcv he).2]; unfold St.doS; rw [if_pos he]
  ·rw [← H.n]; unfold St.doS; rw [if_pos he]
 ·obtain ⟨h1, h2, h3, -⟩ := Zeo he;obtain ⟨k1, k2, k3⟩ := h3 hw;have hd : s.doS d = s.begin d := by unfold St.doS; rw [if_neg he]
  rw [hd, h1, h2, k1, k2, k3];exact ⟨rfl, rfl, Zbf _, Zbf _⟩
theorem Zn8 {s : St} (h : s.Inv) {d : Dd} (he : (s.begin d).e = 0) (bits : Int) : ((s.begin d).st.dk.keep bits).Good ∧ ((Xx ((s.begin d).st.dk.keep bits)).recs = s.recs ∨ J3 (Xx ((s.begin d).st.dk.keep bits)).recs (doR s.recs d).l = true) := by
 obtain ⟨p, r, H⟩ := Za3 h he;have hk : (s.begin d).st.dk.keep bits = s.dk.half p r (Qp bits 0) (Qp bits 1) := by rw [H.disk, Zhw h.good.fine H.p6 H.right]
 rw [hk];have hg := H.good (Qp bits 0) (Qp bits 1);refine ⟨hg, ?_⟩;unfold St.recs;rw [hg.mounted];rcases H.same (Qp bits 0) (Qp bits 1) with e | e
 ·left;show (Yf _ 6).map Ent.rc = _;rw [K6 6 e, h.idx]
 ·right;show J3 ((Yf _ 6).map Ent.rc) _ = true;rw [e]; exact H.recs
theorem Zk8 : Dk.new.Good := by
 have hside : ∀ a : Nat, a < 12 → Z7 Dk.new (a : Int) = Rec.free ∧ Xi Dk.new (a : Int) = 0 := fun a ha => by
  refine Zfp ?_ Qc (by omega) (by omega);have h1 := Zw0 (a : Int) (by omega) (by omega);unfold Dk.get;rw [if_neg (by show ¬ ((a : Int) < 0 ∨ ((Dk.new.blocks.length : Nat) : Int) ≤ (a : Int)); rw [Zdd.len]; omega)];show some ((Vv [] _).getD _) = _;simp only [Vv];rw [← h1]; rfl
 have hfree : ∀ p, p < 6 → Vs Dk.new p ∧ (Dk.new.tell ((p : Nat) : Int)).kind = 1 := fun p hp => by
  have h0 := hside (2 * p) (by omega);have h1 := hside (2 * p + 1) (by omega);rw [show ((2 * p : Nat) : Int) = 2 * (p : Int) by omega] at h0;rw [show ((2 * p + 1 : Nat) : Int) = 2 * (p : Int) + 1 by omega] at h1;have k0 : (Z7 Dk.new (2 * (p : Int))).kind = 1 := by rw [h0.1]; rfl
  have k1 : (Z7 Dk.new (2 * (p : Int) + 1)).kind = 1 := by rw [h1.1]; rfl
  exact ⟨.inr (.inr ⟨k0, k1, by rw [h0.2, h1.2]; omega⟩), by rw [(Vb (Yx Zdd.len hp) k0 k1).1]; rfl⟩
 exact ⟨Zdd, fun p hp => (hfree p hp).1, fun p q hp _ hk => absurd (hfree p hp).2 hk⟩
theorem Zb3 : V9.Inv := Zk8.mount
theorem Zc5 {s : St} (h : s.Inv) {x : Sp} (hx : K2 s x = true) : (s.step x).st.Inv := by
 have hg := h.good;have hat := Zv8 (x := x) h.at';unfold St.step at hat ⊢;split at hat
 ·rw [if_pos (by assumption)]; exact Zen h x.deed
 ·rename_i k1;rw [if_neg k1];split at hat
  ·rename_i k2;rw [if_pos k2];by_cases he : (s.begin x.deed).e = 0
   ·rw [if_neg (by simpa using he)];exact (Zn8 h he x.n).1.mount
   ·rw [if_pos he]; exact h
  ·rename_i k2;rw [if_neg k2];split at hat
   ·rename_i k3;rw [if_pos k3];by_cases hr : x.n < 0 ∨ 192 ≤ x.n
    ·rw [if_pos hr]; exact h
    ·rw [if_neg hr] at hat ⊢;have hlow : s.dk.how (x.n / 32) < 2 := by
      unfold K2 at hx;rw [if_neg (by omega)] at hx;exact of_decide_eq_true hx
     have c1 : (((x.n / 32).toNat : Nat) : Int) = x.n / 32 := by omega
     have c2 : (((x.n / 16).toNat : Nat) : Int) = x.n / 16 := by omega
     obtain ⟨h1, h2⟩ := hg.spoilt (p := (x.n / 32).toNat) (a := (x.n / 16).toNat) (by omega) (by omega) (by rw [c1]; exact hlow) (x.n % 16) x.m (by omega) (by omega);rw [c2] at h1 h2;exact ⟨hat, h1.three, by show s.idx = Yf _ 6; rw [K6 6 h2, h.idx], h1.once⟩
   ·rename_i k3;rw [if_neg k3];split at hat
    ·rename_i k4;rw [if_pos k4];have c1 : ((s.next.toNat : Nat) : Int) = s.next := by have := h.at'.low; omega
     obtain ⟨h1, h2⟩ := hg.mend (p := s.next.toNat) (by have := h.at'.high; omega);rw [c1] at h1 h2;exact ⟨hat, h1.three, rfl, h1.once⟩
    ·rename_i k4;rw [if_neg k4];split at hat
     ·rename_i k5;rw [if_pos k5]; exact hg.cleaned.1.mount
     ·rename_i k5;rw [if_neg k5];split at hat
      ·rename_i k6;rw [if_pos k6]; exact hg.mount
      ·rename_i k6;rw [if_neg k6]; exact h
end Go.Proofs.YtgaecpdokgklpadGreatDoor
namespace Go.Proofs.YtgaecpdokgklpadGreatDoor
set_option maxRecDepth 100000
open Go.RowKit
open Plain Reg
def iv (x : Int) : Value := .int .i64 x
theorem Zx.grown {U : Nat → Prop} {s : St} {v : Value} {w w' : World} {row : Option Nat} (h : Zx U s v w) (hg : w.grownBy w' row) (hn : ∀ b, row = some b → ¬ U b) : Zx U s v w' := by
 cases row with
 | none => exact h.grow (Yn (Zj.refl _) hg (fun k hk => by cases hk))
 | some q => exact h.but (Zp.grown hg) (hn q rfl)
theorem Zpd {w w' : World} {base size n q : Nat} {e : TypeId} {v : Value} {xs : List Value} (h : w.ownsRow base e size v n xs) (hg : Zp q w w') (hq : q < base) : w'.ownsRow base e size v n xs :=
 ⟨h.1, Xn h.2 (fun x => x) fun ⟨g, cap, cur, h1, h2, h3, r⟩ => ⟨g, cap, cur, h1, h2, by rw [hg.block _ (Za h3) (by omega)]; exact h3, r⟩⟩
theorem Zwy (w : World) (x : Int) (T : TypeId) : ∀ (t : Nat) u, ([.int .i64 x] : List Value)[t]? = some u → (w.alloc (.cells #[.int .i64 x] T)).cell? ((⟨w.heap.size, 0, none⟩ : Addr).add t) = some u := by
 intro t u ht
 match t, ht with
 | 0, ht => simp at ht; subst ht; simp [Addr.add]
 | t + 1, ht => simp at ht
def Zvl : Prop := ∀ (S : Nat → Prop) (w : World), (∀ b, S b → b < w.heap.size) →
 Calls Tryz.prog 12 #[] w fun r w' => ∃ v', r = .returned v' ∧ Zx (Z0 S w.heap.size) V9 v' w' ∧ Zj w w'
def Zit : Prop := ∀ (S : Nat → Prop) (s : St) (v : Value) (w : World), (∀ b, S b → b < w.heap.size) → Zx S s v w → s.At →
 Calls Tryz.prog 8 #[v] w fun r w' => ∃ v', r = .returned v' ∧ Qm (Z0 S w.heap.size) w' v' s.recs ∧ Zj w w'
def Zps : Prop := ∀ (S : Nat → Prop) (s : St) (key : Int) (v : Value) (w : World), (∀ b, S b → b < w.heap.size) → Zx S s v w → s.At →
 Calls Tryz.prog 11 #[v, .int .i64 key] w fun r w' => ∃ u, r = .returned (.tuple #[u, .int .i64 (Q4 s.recs key).e]) ∧ Z5 (Z0 S w.heap.size) w' u (Q4 s.recs key).data ∧ Zj w w'
def Zvm : Prop := ∀ (S : Nat → Prop) (s : St) (fr most : Int) (v : Value) (w : World), (∀ b, S b → b < w.heap.size) → Zx S s v w → s.At →
 Calls Tryz.prog 13 #[v, .int .i64 fr, .int .i64 most] w fun r w' => ∃ v', r = .returned v' ∧ w'.ownsRow w.heap.size 3 1 v' (Q9 s.recs fr most 255).length ((Q9 s.recs fr most 255).map iv) ∧ Zj w w'
theorem Zx.any {S : Nat → Prop} {s : St} {v : Value} {w : World} (h : Zx S s v w) : Zx (fun _ => True) s v w := h.mono fun _ _ => trivial
theorem Zx.now {s : St} {v : Value} {w : World} (h : Zx (fun _ => True) s v w) : Zx (fun b => b < w.heap.size) s v w := h.capd.mono fun _ h => h.2
theorem Zt8 {w : World} {base n : Nat} {e : TypeId} {v : Value} {xs : List Value} (h : w.ownsRow base e 1 v n xs) (hn : 0 < n) : ∃ g c, v = .slice (some ⟨g, 0, none⟩) n c ∧ base ≤ g ∧ g < w.heap.size := by
 rcases h.2 with ⟨_, h0⟩ | ⟨g, c, cur, h1, h2, h3, _⟩
 ·omega
 ·exact ⟨g, c, h1, h2, Za h3⟩
def Zg4 (K : List Int) : Prop := ∀ (S : Nat → Prop) (s : St) (x : Sp) (v : Value) (ad : Option Addr) (c : Nat) (w : World), x.kind ∈ K → (∀ b, S b → b < w.heap.size) → Zx S s v w → Z5 S w (.slice ad x.deed.data.length c) x.deed.data → s.At → x.deed.data.length ≤ 140737488355328 →
 Calls Tryz.prog 9 #[v, .agg #[.int .i64 x.kind, .int .i64 x.n, .int .i64 x.m, .int .i64 x.deed.kind, .int .i64 x.deed.key, .int .i64 x.deed.num, .slice ad x.deed.data.length c]] w fun r w' => ∃ v', r = .returned (.tuple #[v', .int .i64 (s.step x).n, .int .i64 (s.step x).e]) ∧ Zx (Z0 S w.heap.size) (s.step x).st v' w' ∧ Zj w w'
def Zdf : Sp := ⟨6, 0, 0, ⟨0, 0, 0, []⟩⟩
theorem Zq1 (S : Nat → Prop) (w : World) : Z5 S w (.slice none Zdf.deed.data.length 0) Zdf.deed.data := .inl ⟨none, 0, rfl, rfl, fun _ => rfl⟩
end Go.Proofs.YtgaecpdokgklpadGreatDoor
namespace Go.Proofs.YtgaecpdokgklpadGreatDoor
set_option maxRecDepth 100000
open Plain
theorem Zhq : ∀ (a b : List UInt8) (acc : Nat), Lib.parseUint10 acc (a ++ b) = (match Lib.parseUint10 acc a with | .ok n => Lib.parseUint10 n b | .syntax => .syntax | .range => .range)
 | [], b, acc => by simp [Lib.parseUint10]
 | c :: a, b, acc => by
  have ih := Zhq a b;simp only [List.cons_append, Lib.parseUint10];split
  ·split
   ·rfl
   ·split
    ·rfl
    ·exact ih _
  ·rfl
theorem Zqj (u : Nat) (hu : u < 18446744073709551616) : Lib.parseUint10 0 (Lib.decDigits u) = .ok u := by
 induction u using Nat.strongRecOn with
 | _ u ih =>
  have one : ∀ k acc, k < 10 → acc < 1844674407370955162 → acc * 10 + k < 18446744073709551616 → Lib.parseUint10 acc [UInt8.ofNat (48 + k)] = .ok (acc * 10 + k) := fun k acc hk ha hb => by
   have hn : (UInt8.ofNat (48 + k)).toNat = 48 + k := by simp; omega
   simp only [Lib.parseUint10, hn];rw [if_pos (by omega), if_neg (by omega), if_neg (by omega)]
   congr 1; omega
  rw [Lib.decDigits];by_cases h : u < 10
  ·rw [dif_pos h, one u 0 h (by omega) (by omega)]; congr 1; omega
  ·rw [dif_neg h, Zhq, ih (u / 10) (by omega) (by omega)];show Lib.parseUint10 (u / 10) [UInt8.ofNat (48 + u % 10)] = .ok u;rw [one (u % 10) (u / 10) (by omega) (by omega) (by omega)]
   congr 1; omega
theorem Zjt (u : Nat) : ∀ c ∈ Lib.decDigits u, 48 ≤ c.toNat ∧ c.toNat ≤ 57 := by
 induction u using Nat.strongRecOn with
 | _ u ih =>
  rw [Lib.decDigits];by_cases h : u < 10
  ·rw [dif_pos h];intro c hc;rw [List.mem_singleton.1 hc];have : (UInt8.ofNat (48 + u)).toNat = 48 + u := by simp; omega
   omega
  ·rw [dif_neg h];intro c hc;rcases List.mem_append.1 hc with h1 | h1
   ·exact ih (u / 10) (by omega) c h1
   ·rw [List.mem_singleton.1 h1];have : (UInt8.ofNat (48 + u % 10)).toNat = 48 + u % 10 := by simp; omega
    omega
theorem Zu1 (u : Nat) : Lib.decDigits u ≠ [] := by
 rw [Lib.decDigits];split
 ·simp
 ·simp
theorem Zht (u : Nat) (hu : u < 18446744073709551616) : Lib.parseMag (Lib.decDigits u) = .ok u := by
 unfold Lib.parseMag;rw [if_neg (Zu1 u), Zqj u hu]
theorem Zsb (n : Int) (h0 : -9223372036854775808 ≤ n) (h1 : n ≤ 9223372036854775807) : Lib.atoiAll (Lib.itoa n) = .ok n := by
 unfold Lib.itoa;by_cases h : n < 0
 ·rw [if_pos h];have hp := Zht n.natAbs (by omega);simp only [Lib.atoiAll];rw [if_pos (by decide), hp];have h45 : (45 : UInt8).toNat = 45 := rfl;simp only [h45];rw [if_neg (by simp), if_neg (by omega), if_pos trivial]
  congr 1; omega
 ·rw [if_neg h];have hp := Zht n.toNat (by omega);have hne := Zu1 n.toNat;have hm := Zjt n.toNat;cases hd : Lib.decDigits n.toNat with
  | nil => exact absurd hd hne
  | cons b r =>
   rw [hd] at hp hm;have hb := hm b (by simp);simp only [Lib.atoiAll];rw [if_neg (by omega), hp];have h3 : ¬ (b.toNat = 45) := by omega
   simp only [h3];rw [if_neg (by omega), if_neg (by omega), if_neg (by simp)]
   congr 1; omega
theorem Zdh (n : Int) : ∀ c ∈ Lib.itoa n, c ≠ 32 := by
 intro c hc e;subst e;unfold Lib.itoa at hc;split at hc
 ·rcases List.mem_cons.1 hc with h | h
  ·cases h
  ·have := Zjt _ _ h; simp at this
 ·have := Zjt _ _ hc; simp at this
def V0 (w : List UInt8) : Option Int := match Lib.atoiAll w with
 | .ok n => if Lib.itoa n = w then some n else none
 | _ => none
theorem Zb2 {n : Int} (h0 : -9223372036854775808 ≤ n) (h1 : n ≤ 9223372036854775807) : V0 (Lib.itoa n) = some n := by
 unfold V0;rw [Zsb n h0 h1];exact if_pos rfl
def Zha (n : Nat) : UInt8 := UInt8.ofNat (if n < 10 then 48 + n else 87 + n)
def K1 (c : UInt8) : Option Nat := if 48 ≤ c.toNat ∧ c.toNat ≤ 57 then some (c.toNat - 48) else if 97 ≤ c.toNat ∧ c.toNat ≤ 102 then some (c.toNat - 87) else none
theorem Zdm {n : Nat} (h : n < 16) : (Zha n).toNat = if n < 10 then 48 + n else 87 + n := by
 unfold Zha;split <;> (simp; omega)
theorem Zib {n : Nat} (h : n < 16) : K1 (Zha n) = some n := by
 unfold K1;rw [Zdm h];by_cases h1 : n < 10
 ·rw [if_pos h1, if_pos (by omega)]; congr 1; omega
 ·rw [if_neg h1, if_neg (by omega), if_pos (by omega)]; congr 1; omega
theorem Zia {c : UInt8} {n : Nat} (h : K1 c = some n) : n < 16 ∧ Zha n = c := by
 unfold K1 at h;split at h
 ·cases h;refine ⟨by omega, ?_⟩;apply UInt8.toNat_inj.1;rw [Zdm (by omega), if_pos (by omega)]; omega
 ·split at h
  ·cases h;refine ⟨by omega, ?_⟩;apply UInt8.toNat_inj.1;rw [Zdm (by omega), if_neg (by omega)]; omega
  ·cases h
def Zjl : List UInt8 → List UInt8
 | [] => []
 | c :: l => Zha (c.toNat / 16) :: Zha (c.toNat % 16) :: Zjl l
def Va : List UInt8 → Option (List UInt8)
 | [] => some []
 | [_] => none
 | a :: b :: r => match K1 a, K1 b, Va r with
  | some x, some y, some t => some (UInt8.ofNat (16 * x + y) :: t)
  | _, _, _ => none
theorem Zfh : ∀ l : List UInt8, Va (Zjl l) = some l
 | [] => rfl
 | c :: l => by
  have hc := c.toNat_lt;unfold Zjl Va;rw [Zib (by omega), Zib (by omega), Zfh l];simp only [Option.some.injEq, List.cons.injEq, and_true];apply UInt8.toNat_inj.1;simp; omega
theorem Zgp : ∀ (l : List UInt8), ∀ c ∈ Zjl l, c ≠ 32 ∧ c ≠ 45
 | [], c, h => by cases h
 | x :: l, c, h => by
  have hx := x.toNat_lt;have key : ∀ n, n < 16 → Zha n ≠ 32 ∧ Zha n ≠ 45 := fun n hn => by
   have := Zdm hn;constructor <;> (intro e; rw [e] at this; simp at this; split at this <;> omega)
  unfold Zjl at h;rcases List.mem_cons.1 h with rfl | h
  ·exact key _ (by omega)
  ·rcases List.mem_cons.1 h with rfl | h
   ·exact key _ (by omega)
   ·exact Zgp l c h
def Zds (l : List UInt8) : List UInt8 := if l = [] then [45] else Zjl l
def Ku (w : List UInt8) : Option (List UInt8) := if w = [45] then some [] else if w = [] then none else Va w
theorem Zl6 (l : List UInt8) : Ku (Zds l) = some l := by
 unfold Zds;by_cases h : l = []
 ·rw [if_pos h, h]; rfl
 ·rw [if_neg h];unfold Ku;rw [if_neg, if_neg, Zfh]
  ·intro e;cases l with
   | nil => exact h rfl
   | cons c l => unfold Zjl at e; cases e
  ·intro e;have := (Zgp l 45 (by rw [e]; simp)).2;exact this rfl
theorem Zrw (l : List UInt8) : ∀ c ∈ Zds l, c ≠ 32 := by
 intro c hc;unfold Zds at hc;split at hc
 ·rw [List.mem_singleton.1 hc]; decide
 ·exact (Zgp l c hc).1
def Y4 : List UInt8 → List (List UInt8)
 | [] => [[]]
 | c :: s => if c = 32 then [] :: Y4 s else match Y4 s with
  | w :: ws => (c :: w) :: ws
  | [] => [[c]]
theorem K5 : ∀ (a : List UInt8), (∀ c ∈ a, c ≠ 32) → Y4 a = [a]
 | [], _ => rfl
 | c :: a, h => by
  unfold Y4;rw [if_neg (h c (by simp)), K5 a fun x hx => h x (by simp [hx])]
theorem Qv : ∀ (a b : List UInt8), (∀ c ∈ a, c ≠ 32) → Y4 (a ++ 32 :: b) = a :: Y4 b
 | [], b, _ => by
  rw [List.nil_append]
  conv => lhs; unfold Y4
  rw [if_pos rfl]
 | c :: a, b, h => by
  rw [List.cons_append]
  conv => lhs; unfold Y4
  rw [if_neg (h c (by simp)), Qv a b fun x hx => h x (by simp [hx])]
theorem Zcx (s : List UInt8) : Y4 s ≠ [] := by
 cases s with
 | nil => simp [Y4]
 | cons c s =>
  unfold Y4;split
  ·simp
  ·split <;> simp
def Zcz : List UInt8 := [112, 117, 116]
def Kc : List UInt8 := [100, 101, 108, 101, 116, 101]
def Zbb : List UInt8 := [112, 117, 114, 103, 101]
def Zf9 : Dd := ⟨0, 0, 0, []⟩
def V7 (d : Dd) : List UInt8 :=
 if d.kind = 3 then Zbb ++ 32 :: (Lib.itoa d.key ++ 32 :: Lib.itoa d.num)
 else if d.kind = 2 then Kc ++ 32 :: Lib.itoa d.key
 else Zcz ++ 32 :: (Lib.itoa d.key ++ 32 :: Zds d.data)
def Zho (ws : List (List UInt8)) : Option Dd × Int :=
 if ws.head? = some Zcz then (match ws.tail with
  | [a, b] => (match V0 a, Ku b with | some k, some l => (some ⟨1, k, 0, l⟩, 0) | _, _ => (none, 2))
  | _ => (none, 2))
 else if ws.head? = some Kc then (match ws.tail with
  | [a] => (match V0 a with | some k => (some ⟨2, k, 0, []⟩, 0) | _ => (none, 2))
  | _ => (none, 2))
 else if ws.head? = some Zbb then (match ws.tail with
  | [a, b] => (match V0 a, V0 b with | some k, some n => (some ⟨3, k, n, []⟩, 0) | _, _ => (none, 2))
  | _ => (none, 2))
 else (none, 1)
def Je (s : List UInt8) : Dd × Int := match Zho (Y4 s) with
 | (some d, _) => if Z3 d = 0 then (d, 0) else (Zf9, Z3 d)
 | (none, e) => (Zf9, e)
theorem Znd {d : Dd} (h : Z3 d = 0) : 1 ≤ d.kind ∧ d.kind ≤ 3 ∧ 1 ≤ d.key ∧ d.key ≤ 255 ∧ 0 ≤ d.num ∧ d.num ≤ 60000 ∧ (d.kind ≠ 3 → d.num = 0) ∧ (d.kind ≠ 1 → d.data = []) := by
 unfold Z3 at h;by_cases h1 : d.kind < 1 ∨ 3 < d.kind
 ·rw [if_pos h1] at h; omega
 ·rw [if_neg h1] at h;by_cases h3 : d.kind = 3
  ·rw [if_pos h3, if_pos h3] at h;by_cases h2 : d.key < 1 ∨ 255 < d.key ∨ d.num < 1 ∨ 60000 < d.num
   ·rw [if_pos h2] at h; omega
   ·rw [if_neg h2] at h;by_cases h4 : 8 < d.data.length ∨ d.kind ≠ 1 ∧ d.data.length ≠ 0
    ·rw [if_pos h4] at h; omega
    ·exact ⟨by omega, by omega, by omega, by omega, by omega, by omega, fun h => absurd h3 h, fun h => List.eq_nil_of_length_eq_zero (by omega)⟩
  ·rw [if_neg h3, if_neg h3] at h;by_cases h2 : d.key < 1 ∨ 255 < d.key ∨ d.num < 0 ∨ 0 < d.num
   ·rw [if_pos h2] at h; omega
   ·rw [if_neg h2] at h;by_cases h4 : 8 < d.data.length ∨ d.kind ≠ 1 ∧ d.data.length ≠ 0
    ·rw [if_pos h4] at h; omega
    ·exact ⟨by omega, by omega, by omega, by omega, by omega, by omega, fun _ => by omega, fun h => List.eq_nil_of_length_eq_zero (by omega)⟩
theorem Ki {d : Dd} (h : Z3 d = 0) : Je (V7 d) = (d, 0) := by
 obtain ⟨h1, h2, h3, h4, h5, h6, h7, h8⟩ := Znd h;have hs : Zho (Y4 (V7 d)) = (some d, 0) := by
  obtain ⟨k, y, n, l⟩ := d;simp only at h1 h2 h3 h4 h5 h6 h7 h8;unfold V7;simp only;by_cases hk3 : k = 3
  ·subst hk3;rw [if_pos rfl, Qv _ _ (by decide), Qv _ _ (Zdh y), K5 _ (Zdh n)];have := h8 (by decide);subst this;simp [Zho, Zcz, Kc, Zbb, Zb2 (n := y) (by omega) (by omega), Zb2 (n := n) (by omega) (by omega)]
  ·rw [if_neg hk3];have := h7 hk3;subst this;by_cases hk2 : k = 2
   ·subst hk2;have := h8 (by decide);subst this;rw [if_pos rfl, Qv _ _ (by decide), K5 _ (Zdh y)];simp [Zho, Zcz, Kc, Zb2 (n := y) (by omega) (by omega)]
   ·obtain rfl : k = 1 := by omega
    rw [if_neg (by decide), Qv _ _ (by decide), Qv _ _ (Zdh y), K5 _ (Zrw l)];simp [Zho, Zcz, Zb2 (n := y) (by omega) (by omega), Zl6]
 unfold Je;rw [hs];simp [h]
end Go.Proofs.YtgaecpdokgklpadGreatDoor
