import Derived.Test.YtgaecpdokgklpadGreatDoorInv2
import Derived.Deep.DeepCutAuto
import Derived.Deep.AppendLies
import Derived.Lib.AtoiAll
import Derived.Lib.ItoaNum
set_option maxHeartbeats 8000000
namespace Go.Proofs.YtgaecpdokgklpadGreatDoor
set_option maxRecDepth 100000
open Plain
theorem Zkr (e : Ent) : ∀ l : List Ent, (Za5 e l).length = l.length + 1
 | [] => rfl
 | x :: l => by
  unfold Za5;split
  ·rfl
  ·simp [Zkr e l]
theorem Zop : ∀ (l : List Ent) (i : Nat) (h : i < l.length), l.Pairwise Ups → K0 l l[i].pair = l.take i ++ l.drop (i + 1)
 | a :: l, 0, _, hp => by
  obtain ⟨h1, _⟩ := List.pairwise_cons.1 hp;unfold K0;simp only [List.getElem_cons_zero, List.take_zero, List.nil_append, List.drop_succ_cons, List.drop_zero];rw [List.filter_cons_of_neg (by simp), List.filter_eq_self];intro x hx;exact decide_eq_true (fun e => (h1 x hx).2 e.symm)
 | a :: l, i + 1, h, hp => by
  obtain ⟨h1, h2⟩ := List.pairwise_cons.1 hp;have hi : i < l.length := by simpa using h
  have ih := Zop l i hi h2;unfold K0 at ih ⊢;simp only [List.getElem_cons_succ, List.take_succ_cons, List.drop_succ_cons, List.cons_append];rw [List.filter_cons_of_pos (by exact decide_eq_true (h1 _ (List.getElem_mem hi)).2), ih]
theorem Zbo {s : St} (h : s.Inv) (x : Ent) : x ∈ s.idx ↔ ∃ p : Nat, p < 6 ∧ (s.dk.tell (p : Int)).kind ≠ 1 ∧ x = ⟨s.dk.tell (p : Int), (p : Int)⟩ := by rw [h.idx]; exact Qb s.dk x 6
theorem Zsi {s : St} (h : s.Inv) (r : Rec) : r ∈ s.recs ↔ ∃ p : Nat, p < 6 ∧ (s.dk.tell (p : Int)).kind ≠ 1 ∧ r = s.dk.tell (p : Int) := by
 unfold St.recs;rw [List.mem_map];constructor
 ·rintro ⟨x, hx, rfl⟩;obtain ⟨p, hp, hk, rfl⟩ := (Zbo h x).1 hx;exact ⟨p, hp, hk, rfl⟩
 ·rintro ⟨p, hp, hk, rfl⟩;exact ⟨_, (Zbo h _).2 ⟨p, hp, hk, rfl⟩, rfl⟩
theorem Zoi {s : St} (h : s.Inv) : s.idx.Pairwise Ups := by rw [h.idx]; exact Ze9 s.dk
theorem Zq6 {s : St} (h : s.Inv) {d : Dd} (hw : Z1 d = 0) (hk : d.kind ≠ 3) (he : (doR s.recs d).e = 0) :
  ∃ p : Nat, p < 6 ∧ Xr s.idx = p ∧ doR s.recs d = ⟨s.recs ++ [Xa d (Y9 s.recs)], Y9 s.recs, 0⟩ ∧ Z6 (Xa d (Y9 s.recs)) = 0 ∧ (Xa d (Y9 s.recs)).kind ≠ 1 ∧ (s.dk.tell (p : Int)).kind = 1 ∧ ∀ q : Nat, q < 6 → (s.dk.tell (q : Int)).kind ≠ 1 → (s.dk.tell (q : Int)).ver ≠ (Xa d (Y9 s.recs)).ver := by
 obtain ⟨h5, hn, h6⟩ := Zdd hk he;have hl5 : s.idx.length ≤ 5 := by simpa [St.recs] using h5
 obtain ⟨hL, hL5⟩ := Zad (l := s.idx) (by omega);have hm := Zcd (n := Y9 s.recs) hw hk Zaa.1 h6;refine ⟨Xr s.idx, by omega, rfl, ?_, hm.1, hm.2, ?_, fun q hq hkq => ?_⟩
 ·unfold doR;rw [if_neg hk, if_neg (by omega), if_neg (by omega)]
 ·by_cases e : (s.dk.tell ((Xr s.idx : Nat) : Int)).kind = 1
  ·exact e
  ·exact absurd rfl (hL.2 _ ((Zbo h _).2 ⟨_, by omega, e, rfl⟩))
 ·have := Zaa.2 _ ((Zsi h _).2 ⟨q, hq, hkq, rfl⟩);show _ ≠ Y9 s.recs;omega
theorem Zlj {s : St} (h : s.Inv) {d : Dd} (hk : d.kind = 3) (he : (doR s.recs d).e = 0) :
  ∃ p : Nat, p < 6 ∧ Zgg d s.idx = (p : Int) ∧ (doR s.recs d).l = (K0 s.idx (p : Int)).map Ent.rc ∧ (doR s.recs d).n = d.num ∧ (s.dk.tell (p : Int)).kind ≠ 1 := by
 unfold doR at he ⊢;rw [if_pos hk] at he ⊢;cases hf : s.recs.findIdx? (Qq d) with
 | none => rw [hf] at he; cases he
 | some i =>
  simp only;obtain ⟨hi, hfi, hlt⟩ := List.findIdx?_eq_some_iff_getElem.1 hf;have hil : i < s.idx.length := by simpa [St.recs] using hi
  have hget : s.recs[i] = s.idx[i].rc := by simp [St.recs]
  have hfind : s.idx.find? (Ziu d) = some s.idx[i] := by
   rw [List.find?_eq_some_iff_getElem];refine ⟨?_, i, hil, rfl, fun j hj => ?_⟩
   ·have : Qq d s.recs[i] = true := hfi;rw [hget] at this; exact this
   ·have hjl : j < s.recs.length := by omega
    have h1 := hlt j hj;have : s.recs[j] = s.idx[j].rc := by simp [St.recs]
    rw [this] at h1;have h2 : ¬ Qq d s.idx[j].rc = true := h1;show (!Qq d s.idx[j].rc) = true;simpa using h2
  obtain ⟨p, hp, hkp, hx⟩ := (Zbo h _).1 (List.getElem_mem hil);have hpair : s.idx[i].pair = (p : Int) := by rw [hx]
  refine ⟨p, hp, ?_, ?_, trivial, hkp⟩
  ·unfold Zgg;rw [if_pos hk, hfind];exact hpair
  ·rw [← hpair, Zop s.idx i hil (Zoi h)];simp [St.recs]
structure Zys (s : St) (d : Dd) (p : Nat) (r : Rec) : Prop where
 p6 : p < 6
 right : Z6 r = 0
 disk : (s.begin d).st.dk = s.dk.pairD (p : Int) r
 next : (s.begin d).st.next = s.next
 n : (s.begin d).n = (doR s.recs d).n
 good : ∀ x y, (s.dk.half p r x y).Good
 same : ∀ x y, (∀ q : Nat, q < 6 → (s.dk.half p r x y).tell (q : Int) = s.dk.tell (q : Int)) ∨ (Yc (s.dk.half p r x y) 6 = (s.begin d).st.idx)
 whole : Yc (s.dk.half p r true true) 6 = (s.begin d).st.idx
 recs : Jl (s.begin d).st.recs (doR s.recs d).l = true
theorem Zaj {s : St} (h : s.Inv) {d : Dd} (he : (s.begin d).e = 0) : ∃ p r, Zys s d p r := by
 have hg := h.good;unfold St.begin at he;by_cases hw : Z1 d = 0
 ·rw [if_neg (by simpa using hw)] at he;by_cases hr : (doR s.recs d).e = 0
  ·have hb : s.begin d = if d.kind = 3 then ⟨⟨s.dk.pairD (Zgg d s.idx) Rec.free, K0 s.idx (Zgg d s.idx), s.next⟩, (doR s.recs d).n, 0⟩ else ⟨⟨s.dk.pairD (Xr s.idx) (Xa d (doR s.recs d).n), X9 ⟨Xa d (doR s.recs d).n, (Xr s.idx : Nat)⟩ s.idx, s.next⟩, (doR s.recs d).n, 0⟩ := by
    unfold St.begin;rw [if_neg (by simpa using hw), if_neg (by simpa using hr)]
   by_cases hk : d.kind = 3
   ·rw [if_pos hk] at hb;obtain ⟨p, hp, hat, hl, hn, hkp⟩ := Zlj h hk hr;rw [hat] at hb;have hoth : ∀ x y q, q < 6 → q ≠ p → (s.dk.half p Rec.free x y).tell ((q : Nat) : Int) = s.dk.tell (q : Int) := fun x y q hq hne => (X1 hg.fine hp hq hne Qk x y).2
    have hdrop : ∀ x y, (s.dk.half p Rec.free x y).tell (p : Int) = Rec.free → Yc (s.dk.half p Rec.free x y) 6 = K0 s.idx (p : Int) := fun x y ht => by
     rw [h.idx]; exact Zpa (by rw [ht]; rfl) (hoth x y)
    refine ⟨p, Rec.free, hp, Qk, by rw [hb], by rw [hb], by rw [hb], fun x y => hg.free hp x y, fun x y => ?_, ?_, ?_⟩
    ·rcases (Zbq hg.fine hp (hg.three p hp) x y).2.1 with e | e
     ·left; intro q hq;by_cases eq : q = p
      ·subst eq; exact e
      ·exact hoth x y q hq eq
     ·right; rw [hb]; exact hdrop x y e
    ·rw [hb]; exact hdrop true true ((Zbq hg.fine hp (hg.three p hp) true true).2.2 rfl rfl).1
    ·rw [hb, hl]; exact Zax _
   ·rw [if_neg hk] at hb;obtain ⟨p, hp, hlf, hdo, hwm, hkm, ht, hv⟩ := Zq6 h hw hk hr;have hn : (doR s.recs d).n = Y9 s.recs := by rw [hdo]
    rw [hlf, hn] at hb;have hoth : ∀ x y q, q < 6 → q ≠ p → (s.dk.half p (Xa d (Y9 s.recs)) x y).tell ((q : Nat) : Int) = s.dk.tell (q : Int) := fun x y q hq hne => (X1 hg.fine hp hq hne hwm x y).2
    have hput : ∀ x y, (x || y) = true → Yc (s.dk.half p (Xa d (Y9 s.recs)) x y) 6 = X9 ⟨Xa d (Y9 s.recs), (p : Int)⟩ s.idx := fun x y hxy => by
     rw [h.idx];refine Zsb hp hkm ht ?_ (hoth x y) hwm;rw [(Zks hg.fine hp hwm hkm (hg.three p hp) ht x y).2, if_pos hxy]
    refine ⟨p, Xa d (Y9 s.recs), hp, hwm, by rw [hb], by rw [hb], by rw [hb, hn], fun x y => hg.put hp hwm hkm ht hv x y, fun x y => ?_, ?_, ?_⟩
    ·by_cases hxy : (x || y) = true
     ·right; rw [hb]; exact hput x y hxy
     ·left;obtain ⟨rfl, rfl⟩ : x = false ∧ y = false := by simpa using hxy
      rw [Zd2 s.dk hg.fine]; intro _ _; rfl
    ·rw [hb]; exact hput true true rfl
    ·rw [hb, hdo];unfold Jl;rw [Bool.and_eq_true, List.all_eq_true];refine ⟨fun r hr => ?_, decide_eq_true ?_⟩
     ·unfold Zh0;rw [List.any_eq_true];refine ⟨r, ?_, (Jw _ _).2 rfl⟩;obtain ⟨x, hx, rfl⟩ := List.mem_map.1 hr;rcases (Vd _ _ _).1 hx with rfl | hx
      ·exact List.mem_append_right _ (by simp)
      ·exact List.mem_append_left _ (List.mem_map_of_mem hx)
     ·show ((X9 _ s.idx).map Ent.rc).length = (s.recs ++ [_]).length;rw [List.length_map, Jd, Zkr];simp [St.recs]
  ·rw [if_pos (by simpa using hr)] at he; exact absurd he hr
 ·rw [if_pos (by simpa using hw)] at he; exact absurd he hw
theorem Zd4 {s : St} {d : Dd} (he : (s.begin d).e ≠ 0) : (s.begin d).st = s ∧ (s.begin d).n = 0 ∧ (Z1 d = 0 → (s.begin d).e = (doR s.recs d).e ∧ (doR s.recs d).l = s.recs ∧ (doR s.recs d).n = 0) ∧ (Z1 d ≠ 0 → (s.begin d).e = Z1 d) := by
 unfold St.begin at he ⊢;by_cases hw : Z1 d = 0
 ·rw [if_neg (by simpa using hw)] at he ⊢;by_cases hr : (doR s.recs d).e = 0
  ·rw [if_neg (by simpa using hr)] at he;exfalso;split at he <;> exact he rfl
  ·rw [if_pos (by simpa using hr)];refine ⟨rfl, rfl, fun _ => ⟨rfl, ?_⟩, fun h => absurd hw h⟩;unfold doR at hr ⊢;split
   ·split
    ·rename_i h3 _ i hf; rw [if_pos h3, hf] at hr; exact absurd rfl hr
    ·exact ⟨rfl, rfl⟩
   ·rename_i h3;split
    ·exact ⟨rfl, rfl⟩
    ·split
     ·exact ⟨rfl, rfl⟩
     ·rename_i h5 h6; rw [if_neg h3, if_neg h5, if_neg h6] at hr; exact absurd rfl hr
 ·rw [if_pos (by simpa using hw)];exact ⟨rfl, rfl, fun h => absurd h hw, fun _ => rfl⟩
theorem Zci {s : St} {d : Dd} (he : (s.begin d).e = 0) : Z1 d = 0 ∧ (doR s.recs d).e = 0 := by
 unfold St.begin at he;by_cases hw : Z1 d = 0
 ·refine ⟨hw, ?_⟩;rw [if_neg (by simpa using hw)] at he;by_cases hr : (doR s.recs d).e = 0
  ·exact hr
  ·rw [if_pos (by simpa using hr)] at he; exact absurd he hr
 ·rw [if_pos (by simpa using hw)] at he; exact absurd he hw
theorem Zd3 {s : St} (h : s.Inv) (d : Dd) : (s.doS d).st.Inv := by
 have hat : (s.doS d).st.At := ⟨Zwh h.at'.ok, by rw [Zep]; exact h.at'.low, by rw [Zep]; exact h.at'.high⟩;by_cases he : (s.begin d).e = 0
 ·obtain ⟨p, r, H⟩ := Zaj h he;have hst : (s.doS d).st = ⟨s.dk.half p r true true, (s.begin d).st.idx, (s.begin d).st.next⟩ := by
   unfold St.doS;rw [if_pos he, H.disk, J9 h.good.fine H.p6 H.right]
  have hg := H.good true true;rw [hst] at hat ⊢;exact ⟨hat, hg.three, H.whole.symm, hg.once⟩
 ·have hst : (s.doS d).st = s := by unfold St.doS; rw [if_neg he]; exact (Zd4 he).1
  rw [hst]; exact h
theorem Zlb {s : St} (h : s.Inv) {d : Dd} (hw : Z1 d = 0) : (s.doS d).e = (doR s.recs d).e ∧ (s.doS d).n = (doR s.recs d).n ∧ Jl (s.doS d).st.recs (doR s.recs d).l = true ∧ Jl (Xt (s.doS d).st.dk).recs (doR s.recs d).l = true := by
 have hi := Zd3 h d;have hm : (Xt (s.doS d).st.dk).recs = (s.doS d).st.recs := by
  unfold St.recs;rw [hi.good.mounted, hi.idx]
 rw [hm];by_cases he : (s.begin d).e = 0
 ·obtain ⟨p, r, H⟩ := Zaj h he;have hr : (s.doS d).st.recs = (s.begin d).st.recs := by unfold St.doS; rw [if_pos he]; rfl
  refine ⟨?_, ?_, by rw [hr]; exact H.recs, by rw [hr]; exact H.recs⟩
  ·rw [(Zci he).2]; unfold St.doS; rw [if_pos he]
  ·rw [← H.n]; unfold St.doS; rw [if_pos he]
 ·obtain ⟨h1, h2, h3, -⟩ := Zd4 he;obtain ⟨k1, k2, k3⟩ := h3 hw;have hd : s.doS d = s.begin d := by unfold St.doS; rw [if_neg he]
  rw [hd, h1, h2, k1, k2, k3];exact ⟨rfl, rfl, Zax _, Zax _⟩
theorem Znb {s : St} (h : s.Inv) {d : Dd} (he : (s.begin d).e = 0) (bits : Int) : ((s.begin d).st.dk.keep bits).Good ∧ ((Xt ((s.begin d).st.dk.keep bits)).recs = s.recs ∨ Jl (Xt ((s.begin d).st.dk.keep bits)).recs (doR s.recs d).l = true) := by
 obtain ⟨p, r, H⟩ := Zaj h he;have hk : (s.begin d).st.dk.keep bits = s.dk.half p r (Qh bits 0) (Qh bits 1) := by rw [H.disk, Zg8 h.good.fine H.p6 H.right]
 rw [hk];have hg := H.good (Qh bits 0) (Qh bits 1);refine ⟨hg, ?_⟩;unfold St.recs;rw [hg.mounted];rcases H.same (Qh bits 0) (Qh bits 1) with e | e
 ·left;show (Yc _ 6).map Ent.rc = _;rw [Kp 6 e, h.idx]
 ·right;show Jl ((Yc _ 6).map Ent.rc) _ = true;rw [e]; exact H.recs
theorem Zkf : Dk.new.Good := by
 have hside : ∀ a : Nat, a < 12 → Yb Dk.new (a : Int) = Rec.free ∧ Xi Dk.new (a : Int) = 0 := fun a ha => by
  refine Zr8 ?_ Qk (by omega) (by omega);have h1 := Zvt (a : Int) (by omega) (by omega);unfold Dk.get;rw [if_neg (by show ¬ ((a : Int) < 0 ∨ ((Dk.new.blocks.length : Nat) : Int) ≤ (a : Int)); rw [Zcz.len]; omega)];show some ((Vp [] _).getD _) = _;simp only [Vp];rw [← h1]; rfl
 have hfree : ∀ p, p < 6 → Vg Dk.new p ∧ (Dk.new.tell ((p : Nat) : Int)).kind = 1 := fun p hp => by
  have h0 := hside (2 * p) (by omega);have h1 := hside (2 * p + 1) (by omega);rw [show ((2 * p : Nat) : Int) = 2 * (p : Int) by omega] at h0;rw [show ((2 * p + 1 : Nat) : Int) = 2 * (p : Int) + 1 by omega] at h1;have k0 : (Yb Dk.new (2 * (p : Int))).kind = 1 := by rw [h0.1]; rfl
  have k1 : (Yb Dk.new (2 * (p : Int) + 1)).kind = 1 := by rw [h1.1]; rfl
  exact ⟨.inr (.inr ⟨k0, k1, by rw [h0.2, h1.2]; omega⟩), by rw [(Q1 (Yz Zcz.len hp) k0 k1).1]; rfl⟩
 exact ⟨Zcz, fun p hp => (hfree p hp).1, fun p q hp _ hk => absurd (hfree p hp).2 hk⟩
theorem Zbm : Vv.Inv := Zkf.mount
theorem Zcs {s : St} (h : s.Inv) {x : Sp} (hx : Kk s x = true) : (s.step x).st.Inv := by
 have hg := h.good;have hat := Zu1 (x := x) h.at';unfold St.step at hat ⊢;split at hat
 ·rw [if_pos (by assumption)]; exact Zd3 h x.deed
 ·rename_i k1;rw [if_neg k1];split at hat
  ·rename_i k2;rw [if_pos k2];by_cases he : (s.begin x.deed).e = 0
   ·rw [if_neg (by simpa using he)];exact (Znb h he x.n).1.mount
   ·rw [if_pos he]; exact h
  ·rename_i k2;rw [if_neg k2];split at hat
   ·rename_i k3;rw [if_pos k3];by_cases hr : x.n < 0 ∨ 192 ≤ x.n
    ·rw [if_pos hr]; exact h
    ·rw [if_neg hr] at hat ⊢;have hlow : s.dk.how (x.n / 32) < 2 := by
      unfold Kk at hx;rw [if_neg (by omega)] at hx;exact of_decide_eq_true hx
     have c1 : (((x.n / 32).toNat : Nat) : Int) = x.n / 32 := by omega
     have c2 : (((x.n / 16).toNat : Nat) : Int) = x.n / 16 := by omega
     obtain ⟨h1, h2⟩ := hg.spoilt (p := (x.n / 32).toNat) (a := (x.n / 16).toNat) (by omega) (by omega) (by rw [c1]; exact hlow) (x.n % 16) x.m (by omega) (by omega);rw [c2] at h1 h2;exact ⟨hat, h1.three, by show s.idx = Yc _ 6; rw [Kp 6 h2, h.idx], h1.once⟩
   ·rename_i k3;rw [if_neg k3];split at hat
    ·rename_i k4;rw [if_pos k4];have c1 : ((s.next.toNat : Nat) : Int) = s.next := by have := h.at'.low; omega
     obtain ⟨h1, h2⟩ := hg.mend (p := s.next.toNat) (by have := h.at'.high; omega);rw [c1] at h1 h2;exact ⟨hat, h1.three, rfl, h1.once⟩
    ·rename_i k4;rw [if_neg k4];split at hat
     ·rename_i k5;rw [if_pos k5]; exact hg.cleaned.1.mount
     ·rename_i k5;rw [if_neg k5];split at hat
      ·rename_i k6;rw [if_pos k6]; exact hg.mount
      ·rename_i k6;rw [if_neg k6]; exact h
end Go.Proofs.YtgaecpdokgklpadGreatDoor
namespace Go.Proofs.YtgaecpdokgklpadGreatDoor
set_option maxRecDepth 100000
open Go.RowKit
open Plain Reg
def iv (x : Int) : Value := .int .i64 x
theorem Zw.grown {U : Nat → Prop} {s : St} {v : Value} {w w' : World} {row : Option Nat} (h : Zw U s v w) (hg : w.grownBy w' row) (hn : ∀ b, row = some b → ¬ U b) : Zw U s v w' := by
 cases row with
 | none => exact h.grow (Yl (Zj.refl _) hg (fun k hk => by cases hk))
 | some q => exact h.but (Zp.grown hg) (hn q rfl)
theorem Zoc {w w' : World} {base size n q : Nat} {e : TypeId} {v : Value} {xs : List Value} (h : w.ownsRow base e size v n xs) (hg : Zp q w w') (hq : q < base) : w'.ownsRow base e size v n xs :=
 ⟨h.1, Xh h.2 (fun x => x) fun ⟨g, cap, cur, h1, h2, h3, r⟩ => ⟨g, cap, cur, h1, h2, by rw [hg.block _ (Zb h3) (by omega)]; exact h3, r⟩⟩
theorem Zvr (w : World) (x : Int) (T : TypeId) : ∀ (t : Nat) u, ([.int .i64 x] : List Value)[t]? = some u → (w.alloc (.cells #[.int .i64 x] T)).cell? ((⟨w.heap.size, 0, none⟩ : Addr).add t) = some u := by
 intro t u ht
 match t, ht with
 | 0, ht => simp at ht; subst ht; simp [Addr.add]
 | t + 1, ht => simp at ht
def Zuf : Prop := ∀ (S : Nat → Prop) (w : World), (∀ b, S b → b < w.heap.size) →
 Calls Tryz.prog 12 #[] w fun r w' => ∃ v', r = .returned v' ∧ Zw (Z7 S w.heap.size) Vv v' w' ∧ Zj w w'
def Zh2 : Prop := ∀ (S : Nat → Prop) (s : St) (v : Value) (w : World), (∀ b, S b → b < w.heap.size) → Zw S s v w → s.At →
 Calls Tryz.prog 8 #[v] w fun r w' => ∃ v', r = .returned v' ∧ Qe (Z7 S w.heap.size) w' v' s.recs ∧ Zj w w'
def Zor : Prop := ∀ (S : Nat → Prop) (s : St) (key : Int) (v : Value) (w : World), (∀ b, S b → b < w.heap.size) → Zw S s v w → s.At →
 Calls Tryz.prog 11 #[v, .int .i64 key] w fun r w' => ∃ u, r = .returned (.tuple #[u, .int .i64 (Qv s.recs key).e]) ∧ Z3 (Z7 S w.heap.size) w' u (Qv s.recs key).data ∧ Zj w w'
def Zug : Prop := ∀ (S : Nat → Prop) (s : St) (fr most : Int) (v : Value) (w : World), (∀ b, S b → b < w.heap.size) → Zw S s v w → s.At →
 Calls Tryz.prog 13 #[v, .int .i64 fr, .int .i64 most] w fun r w' => ∃ v', r = .returned v' ∧ w'.ownsRow w.heap.size 3 1 v' (Qz s.recs fr most 255).length ((Qz s.recs fr most 255).map iv) ∧ Zj w w'
theorem Zw.any {S : Nat → Prop} {s : St} {v : Value} {w : World} (h : Zw S s v w) : Zw (fun _ => True) s v w := h.mono fun _ _ => trivial
theorem Zw.now {s : St} {v : Value} {w : World} (h : Zw (fun _ => True) s v w) : Zw (fun b => b < w.heap.size) s v w := h.capd.mono fun _ h => h.2
theorem Zs5 {w : World} {base n : Nat} {e : TypeId} {v : Value} {xs : List Value} (h : w.ownsRow base e 1 v n xs) (hn : 0 < n) : ∃ g c, v = .slice (some ⟨g, 0, none⟩) n c ∧ base ≤ g ∧ g < w.heap.size := by
 rcases h.2 with ⟨_, h0⟩ | ⟨g, c, cur, h1, h2, h3, _⟩
 ·omega
 ·exact ⟨g, c, h1, h2, Zb h3⟩
def Zgi (K : List Int) : Prop := ∀ (S : Nat → Prop) (s : St) (x : Sp) (v : Value) (ad : Option Addr) (c : Nat) (w : World), x.kind ∈ K → (∀ b, S b → b < w.heap.size) → Zw S s v w → Z3 S w (.slice ad x.deed.data.length c) x.deed.data → s.At → x.deed.data.length ≤ 140737488355328 →
 Calls Tryz.prog 9 #[v, .agg #[.int .i64 x.kind, .int .i64 x.n, .int .i64 x.m, .int .i64 x.deed.kind, .int .i64 x.deed.key, .int .i64 x.deed.num, .slice ad x.deed.data.length c]] w fun r w' => ∃ v', r = .returned (.tuple #[v', .int .i64 (s.step x).n, .int .i64 (s.step x).e]) ∧ Zw (Z7 S w.heap.size) (s.step x).st v' w' ∧ Zj w w'
def Zc1 : Sp := ⟨6, 0, 0, ⟨0, 0, 0, []⟩⟩
theorem Zp3 (S : Nat → Prop) (w : World) : Z3 S w (.slice none Zc1.deed.data.length 0) Zc1.deed.data := .inl ⟨none, 0, rfl, rfl, fun _ => rfl⟩
end Go.Proofs.YtgaecpdokgklpadGreatDoor
namespace Go.Proofs.YtgaecpdokgklpadGreatDoor
set_option maxRecDepth 100000
open Plain
theorem Zg2 : ∀ (a b : List UInt8) (acc : Nat), Lib.parseUint10 acc (a ++ b) = (match Lib.parseUint10 acc a with | .ok n => Lib.parseUint10 n b | .syntax => .syntax | .range => .range)
 | [], b, acc => by simp [Lib.parseUint10]
 | c :: a, b, acc => by
  have ih := Zg2 a b;simp only [List.cons_append, Lib.parseUint10];split
  ·split
   ·rfl
   ·split
    ·rfl
    ·exact ih _
  ·rfl
theorem Zpk (u : Nat) (hu : u < 18446744073709551616) : Lib.parseUint10 0 (Lib.decDigits u) = .ok u := by
 induction u using Nat.strongRecOn with
 | _ u ih =>
  have one : ∀ k acc, k < 10 → acc < 1844674407370955162 → acc * 10 + k < 18446744073709551616 → Lib.parseUint10 acc [UInt8.ofNat (48 + k)] = .ok (acc * 10 + k) := fun k acc hk ha hb => by
   have hn : (UInt8.ofNat (48 + k)).toNat = 48 + k := by simp; omega
   simp only [Lib.parseUint10, hn];rw [if_pos (by omega), if_neg (by omega), if_neg (by omega)]
   congr 1; omega
  rw [Lib.decDigits];by_cases h : u < 10
  ·rw [dif_pos h, one u 0 h (by omega) (by omega)]; congr 1; omega
  ·rw [dif_neg h, Zg2, ih (u / 10) (by omega) (by omega)];show Lib.parseUint10 (u / 10) [UInt8.ofNat (48 + u % 10)] = .ok u;rw [one (u % 10) (u / 10) (by omega) (by omega) (by omega)]
   congr 1; omega
theorem Ziz (u : Nat) : ∀ c ∈ Lib.decDigits u, 48 ≤ c.toNat ∧ c.toNat ≤ 57 := by
 induction u using Nat.strongRecOn with
 | _ u ih =>
  rw [Lib.decDigits];by_cases h : u < 10
  ·rw [dif_pos h];intro c hc;rw [List.mem_singleton.1 hc];have : (UInt8.ofNat (48 + u)).toNat = 48 + u := by simp; omega
   omega
  ·rw [dif_neg h];intro c hc;rcases List.mem_append.1 hc with h1 | h1
   ·exact ih (u / 10) (by omega) c h1
   ·rw [List.mem_singleton.1 h1];have : (UInt8.ofNat (48 + u % 10)).toNat = 48 + u % 10 := by simp; omega
    omega
theorem Ztx (u : Nat) : Lib.decDigits u ≠ [] := by
 rw [Lib.decDigits];split
 ·simp
 ·simp
theorem Zg5 (u : Nat) (hu : u < 18446744073709551616) : Lib.parseMag (Lib.decDigits u) = .ok u := by
 unfold Lib.parseMag;rw [if_neg (Ztx u), Zpk u hu]
theorem Zrc (n : Int) (h0 : -9223372036854775808 ≤ n) (h1 : n ≤ 9223372036854775807) : Lib.atoiAll (Lib.itoa n) = .ok n := by
 unfold Lib.itoa;by_cases h : n < 0
 ·rw [if_pos h];have hp := Zg5 n.natAbs (by omega);simp only [Lib.atoiAll];rw [if_pos (by decide), hp];have h45 : (45 : UInt8).toNat = 45 := rfl;simp only [h45];rw [if_neg (by simp), if_neg (by omega), if_pos trivial]
  congr 1; omega
 ·rw [if_neg h];have hp := Zg5 n.toNat (by omega);have hne := Ztx n.toNat;have hm := Ziz n.toNat;cases hd : Lib.decDigits n.toNat with
  | nil => exact absurd hd hne
  | cons b r =>
   rw [hd] at hp hm;have hb := hm b (by simp);simp only [Lib.atoiAll];rw [if_neg (by omega), hp];have h3 : ¬ (b.toNat = 45) := by omega
   simp only [h3];rw [if_neg (by omega), if_neg (by omega), if_neg (by simp)]
   congr 1; omega
theorem Zc3 (n : Int) : ∀ c ∈ Lib.itoa n, c ≠ 32 := by
 intro c hc e;subst e;unfold Lib.itoa at hc;split at hc
 ·rcases List.mem_cons.1 hc with h | h
  ·cases h
  ·have := Ziz _ _ h; simp at this
 ·have := Ziz _ _ hc; simp at this
def Vn (w : List UInt8) : Option Int := match Lib.atoiAll w with
 | .ok n => if Lib.itoa n = w then some n else none
 | _ => none
theorem Zbl {n : Int} (h0 : -9223372036854775808 ≤ n) (h1 : n ≤ 9223372036854775807) : Vn (Lib.itoa n) = some n := by
 unfold Vn;rw [Zrc n h0 h1];exact if_pos rfl
def Zgo (n : Nat) : UInt8 := UInt8.ofNat (if n < 10 then 48 + n else 87 + n)
def Ki (c : UInt8) : Option Nat := if 48 ≤ c.toNat ∧ c.toNat ≤ 57 then some (c.toNat - 48) else if 97 ≤ c.toNat ∧ c.toNat ≤ 102 then some (c.toNat - 87) else none
theorem Zc8 {n : Nat} (h : n < 16) : (Zgo n).toNat = if n < 10 then 48 + n else 87 + n := by
 unfold Zgo;split <;> (simp; omega)
theorem Zhm {n : Nat} (h : n < 16) : Ki (Zgo n) = some n := by
 unfold Ki;rw [Zc8 h];by_cases h1 : n < 10
 ·rw [if_pos h1, if_pos (by omega)]; congr 1; omega
 ·rw [if_neg h1, if_neg (by omega), if_pos (by omega)]; congr 1; omega
theorem Zhl {c : UInt8} {n : Nat} (h : Ki c = some n) : n < 16 ∧ Zgo n = c := by
 unfold Ki at h;split at h
 ·cases h;refine ⟨by omega, ?_⟩;apply UInt8.toNat_inj.1;rw [Zc8 (by omega), if_pos (by omega)]; omega
 ·split at h
  ·cases h;refine ⟨by omega, ?_⟩;apply UInt8.toNat_inj.1;rw [Zc8 (by omega), if_neg (by omega)]; omega
  ·cases h
def Zir : List UInt8 → List UInt8
 | [] => []
 | c :: l => Zgo (c.toNat / 16) :: Zgo (c.toNat % 16) :: Zir l
def Q0 : List UInt8 → Option (List UInt8)
 | [] => some []
 | [_] => none
 | a :: b :: r => match Ki a, Ki b, Q0 r with
  | some x, some y, some t => some (UInt8.ofNat (16 * x + y) :: t)
  | _, _, _ => none
theorem Zex : ∀ l : List UInt8, Q0 (Zir l) = some l
 | [] => rfl
 | c :: l => by
  have hc := c.toNat_lt;unfold Zir Q0;rw [Zhm (by omega), Zhm (by omega), Zex l];simp only [Option.some.injEq, List.cons.injEq, and_true];apply UInt8.toNat_inj.1;simp; omega
theorem Zf3 : ∀ (l : List UInt8), ∀ c ∈ Zir l, c ≠ 32 ∧ c ≠ 45
 | [], c, h => by cases h
 | x :: l, c, h => by
  have hx := x.toNat_lt;have key : ∀ n, n < 16 → Zgo n ≠ 32 ∧ Zgo n ≠ 45 := fun n hn => by
   have := Zc8 hn;constructor <;> (intro e; rw [e] at this; simp at this; split at this <;> omega)
  unfold Zir at h;rcases List.mem_cons.1 h with rfl | h
  ·exact key _ (by omega)
  ·rcases List.mem_cons.1 h with rfl | h
   ·exact key _ (by omega)
   ·exact Zf3 l c h
def Zde (l : List UInt8) : List UInt8 := if l = [] then [45] else Zir l
def Kc (w : List UInt8) : Option (List UInt8) := if w = [45] then some [] else if w = [] then none else Q0 w
theorem Zld (l : List UInt8) : Kc (Zde l) = some l := by
 unfold Zde;by_cases h : l = []
 ·rw [if_pos h, h]; rfl
 ·rw [if_neg h];unfold Kc;rw [if_neg, if_neg, Zex]
  ·intro e;cases l with
   | nil => exact h rfl
   | cons c l => unfold Zir at e; cases e
  ·intro e;have := (Zf3 l 45 (by rw [e]; simp)).2;exact this rfl
theorem Zqy (l : List UInt8) : ∀ c ∈ Zde l, c ≠ 32 := by
 intro c hc;unfold Zde at hc;split at hc
 ·rw [List.mem_singleton.1 hc]; decide
 ·exact (Zf3 l c hc).1
def Yx : List UInt8 → List (List UInt8)
 | [] => [[]]
 | c :: s => if c = 32 then [] :: Yx s else match Yx s with
  | w :: ws => (c :: w) :: ws
  | [] => [[c]]
theorem Kn : ∀ (a : List UInt8), (∀ c ∈ a, c ≠ 32) → Yx a = [a]
 | [], _ => rfl
 | c :: a, h => by
  unfold Yx;rw [if_neg (h c (by simp)), Kn a fun x hx => h x (by simp [hx])]
theorem Qm : ∀ (a b : List UInt8), (∀ c ∈ a, c ≠ 32) → Yx (a ++ 32 :: b) = a :: Yx b
 | [], b, _ => by
  rw [List.nil_append]
  conv => lhs; unfold Yx
  rw [if_pos rfl]
 | c :: a, b, h => by
  rw [List.cons_append]
  conv => lhs; unfold Yx
  rw [if_neg (h c (by simp)), Qm a b fun x hx => h x (by simp [hx])]
theorem Zck (s : List UInt8) : Yx s ≠ [] := by
 cases s with
 | nil => simp [Yx]
 | cons c s =>
  unfold Yx;split
  ·simp
  ·split <;> simp
def Zcm : List UInt8 := [112, 117, 116]
def Vx : List UInt8 := [100, 101, 108, 101, 116, 101]
def Zat : List UInt8 := [112, 117, 114, 103, 101]
def Zfo : Dd := ⟨0, 0, 0, []⟩
def Vt (d : Dd) : List UInt8 :=
 if d.kind = 3 then Zat ++ 32 :: (Lib.itoa d.key ++ 32 :: Lib.itoa d.num)
 else if d.kind = 2 then Vx ++ 32 :: Lib.itoa d.key
 else Zcm ++ 32 :: (Lib.itoa d.key ++ 32 :: Zde d.data)
def Zg0 (ws : List (List UInt8)) : Option Dd × Int :=
 if ws.head? = some Zcm then (match ws.tail with
  | [a, b] => (match Vn a, Kc b with | some k, some l => (some ⟨1, k, 0, l⟩, 0) | _, _ => (none, 2))
  | _ => (none, 2))
 else if ws.head? = some Vx then (match ws.tail with
  | [a] => (match Vn a with | some k => (some ⟨2, k, 0, []⟩, 0) | _ => (none, 2))
  | _ => (none, 2))
 else if ws.head? = some Zat then (match ws.tail with
  | [a, b] => (match Vn a, Vn b with | some k, some n => (some ⟨3, k, n, []⟩, 0) | _, _ => (none, 2))
  | _ => (none, 2))
 else (none, 1)
def Kw (s : List UInt8) : Dd × Int := match Zg0 (Yx s) with
 | (some d, _) => if Z1 d = 0 then (d, 0) else (Zfo, Z1 d)
 | (none, e) => (Zfo, e)
theorem Zmk {d : Dd} (h : Z1 d = 0) : 1 ≤ d.kind ∧ d.kind ≤ 3 ∧ 1 ≤ d.key ∧ d.key ≤ 255 ∧ 0 ≤ d.num ∧ d.num ≤ 60000 ∧ (d.kind ≠ 3 → d.num = 0) ∧ (d.kind ≠ 1 → d.data = []) := by
 unfold Z1 at h;by_cases h1 : d.kind < 1 ∨ 3 < d.kind
 ·rw [if_pos h1] at h; omega
 ·rw [if_neg h1] at h;by_cases h3 : d.kind = 3
  ·rw [if_pos h3, if_pos h3] at h;by_cases h2 : d.key < 1 ∨ 255 < d.key ∨ d.num < 1 ∨ 60000 < d.num
   ·rw [if_pos h2] at h; omega
   ·rw [if_neg h2] at h;by_cases h4 : 8 < d.data.length ∨ d.kind ≠ 1 ∧ d.data.length ≠ 0
    ·rw [if_pos h4] at h; omega
    ·exact ⟨by omega, by omega, by omega, by omega, by omega, by omega, fun h => absurd h3 h, fun h => List.eq_nil_of_length_eq_zero (by omega)⟩
  ·rw [if_neg h3, if_neg h3] at h;by_cases h2 : d.key < 1 ∨ 255 < d.key ∨ d.num < 0 ∨ 0 < d.num
   ·rw [if_pos h2] at h; omega
   ·rw [if_neg h2] at h;by_cases h4 : 8 < d.data.length ∨ d.kind ≠ 1 ∧ d.data.length ≠ 0
    ·rw [if_pos h4] at h; omega
    ·exact ⟨by omega, by omega, by omega, by omega, by omega, by omega, fun _ => by omega, fun h => List.eq_nil_of_length_eq_zero (by omega)⟩
theorem V3 {d : Dd} (h : Z1 d = 0) : Kw (Vt d) = (d, 0) := by
 obtain ⟨h1, h2, h3, h4, h5, h6, h7, h8⟩ := Zmk h;have hs : Zg0 (Yx (Vt d)) = (some d, 0) := by
  obtain ⟨k, y, n, l⟩ := d;simp only at h1 h2 h3 h4 h5 h6 h7 h8;unfold Vt;simp only;by_cases hk3 : k = 3
  ·subst hk3;rw [if_pos rfl, Qm _ _ (by decide), Qm _ _ (Zc3 y), Kn _ (Zc3 n)];have := h8 (by decide);subst this;simp [Zg0, Zcm, Vx, Zat, Zbl (n := y) (by omega) (by omega), Zbl (n := n) (by omega) (by omega)]
  ·rw [if_neg hk3];have := h7 hk3;subst this;by_cases hk2 : k = 2
   ·subst hk2;have := h8 (by decide);subst this;rw [if_pos rfl, Qm _ _ (by decide), Kn _ (Zc3 y)];simp [Zg0, Zcm, Vx, Zbl (n := y) (by omega) (by omega)]
   ·obtain rfl : k = 1 := by omega
    rw [if_neg (by decide), Qm _ _ (by decide), Qm _ _ (Zc3 y), Kn _ (Zqy l)];simp [Zg0, Zcm, Zbl (n := y) (by omega) (by omega), Zld]
 unfold Kw;rw [hs];simp [h]
end Go.Proofs.YtgaecpdokgklpadGreatDoor
