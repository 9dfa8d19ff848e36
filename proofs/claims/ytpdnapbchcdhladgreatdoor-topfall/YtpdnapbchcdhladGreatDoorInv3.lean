import Derived.Test.YtpdnapbchcdhladGreatDoorInv2
import Derived.Deep.DeepCutAuto
import Derived.Deep.AppendLies
set_option maxHeartbeats 8000000
namespace Go.Proofs.YtpdnapbchcdhladGreatDoor
set_option maxRecDepth 100000
open Plain
variable {d : Dd}
theorem Zl2 (e : Ent) : ∀ l : List Ent, (Zbg e l).length = l.length + 1
 | [] => rfl
 | x :: l => by
  unfold Zbg;split
  ·rfl
  ·simp [Zl2 e l]
theorem Zqf : ∀ (l : List Ent) (i : Nat) (h : i < l.length), l.Pairwise Ups → Jb l l[i].pair = l.take i ++ l.drop (i + 1)
 | a :: l, 0, _, hp => by
  obtain ⟨h1, _⟩ := List.pairwise_cons.1 hp;unfold Jb;simp only [List.getElem_cons_zero, List.take_zero, List.nil_append, List.drop_succ_cons, List.drop_zero];rw [List.filter_cons_of_neg (by simp), List.filter_eq_self];intro x hx;exact decide_eq_true (fun e => (h1 x hx).2 e.symm)
 | a :: l, i + 1, h, hp => by
  obtain ⟨h1, h2⟩ := List.pairwise_cons.1 hp;have hi : i < l.length := by simpa using h
  have ih := Zqf l i hi h2;unfold Jb at ih ⊢;simp only [List.getElem_cons_succ, List.take_succ_cons, List.drop_succ_cons, List.cons_append];rw [List.filter_cons_of_pos (by exact decide_eq_true (h1 _ (List.getElem_mem hi)).2), ih]
theorem Zb0 {s : St} (h : s.Inv) (x : Ent) : x ∈ s.idx ↔ ∃ p : Nat, p < 6 ∧ (s.dk.tell (p : Int)).kind ≠ 1 ∧ x = ⟨s.dk.tell (p : Int), (p : Int)⟩ := by rw [h.idx]; exact Qj s.dk x 6
theorem Zup {s : St} (h : s.Inv) (r : Rec) : r ∈ s.recs ↔ ∃ p : Nat, p < 6 ∧ (s.dk.tell (p : Int)).kind ≠ 1 ∧ r = s.dk.tell (p : Int) := by
 unfold St.recs;rw [List.mem_map];constructor
 ·rintro ⟨x, hx, rfl⟩;obtain ⟨p, hp, hk, rfl⟩ := (Zb0 h x).1 hx;exact ⟨p, hp, hk, rfl⟩
 ·rintro ⟨p, hp, hk, rfl⟩;exact ⟨_, (Zb0 h _).2 ⟨p, hp, hk, rfl⟩, rfl⟩
theorem Zp9 {s : St} (h : s.Inv) : s.idx.Pairwise Ups := by rw [h.idx]; exact Zfy s.dk
theorem Zs8 {s : St} (h : s.Inv) (hw : Z1 d = 0) (hk : d.kind ≠ 3) (he : (doR s.recs d).e = 0) :
  ∃ p : Nat, p < 6 ∧ Xt s.idx = p ∧ doR s.recs d = ⟨s.recs ++ [Y5 d (Yw s.recs)], Yw s.recs, 0⟩ ∧ Z6 (Y5 d (Yw s.recs)) = 0 ∧ (Y5 d (Yw s.recs)).kind ≠ 1 ∧ (s.dk.tell (p : Int)).kind = 1 ∧ ∀ q : Nat, q < 6 → (s.dk.tell (q : Int)).kind ≠ 1 → (s.dk.tell (q : Int)).ver ≠ (Y5 d (Yw s.recs)).ver := by
 obtain ⟨h5, hn, h6⟩ := Zdw hk he;have hl5 : s.idx.length ≤ 5 := by simpa [St.recs] using h5
 obtain ⟨hL, hL5⟩ := Zao (l := s.idx) (by omega);have hm := Zcq (n := Yw s.recs) hw hk Jo.1 h6;refine ⟨Xt s.idx, by omega, rfl, ?_, hm.1, hm.2, ?_, fun q hq hkq => ?_⟩
 ·unfold doR;rw [if_neg hk, if_neg (by omega), if_neg (by omega)]
 ·by_cases e : (s.dk.tell ((Xt s.idx : Nat) : Int)).kind = 1
  ·exact e
  ·exact absurd rfl (hL.2 _ ((Zb0 h _).2 ⟨_, by omega, e, rfl⟩))
 ·have := Jo.2 _ ((Zup h _).2 ⟨q, hq, hkq, rfl⟩);show _ ≠ Yw s.recs;omega
theorem Zm0 {s : St} (h : s.Inv) (hk : d.kind = 3) (he : (doR s.recs d).e = 0) :
  ∃ p : Nat, p < 6 ∧ Zha d s.idx = (p : Int) ∧ (doR s.recs d).l = (Jb s.idx (p : Int)).map Ent.rc ∧ (doR s.recs d).n = d.num ∧ (s.dk.tell (p : Int)).kind ≠ 1 := by
 unfold doR at he ⊢;rw [if_pos hk] at he ⊢;cases hf : s.recs.findIdx? (Qi d) with
 | none => rw [hf] at he; cases he
 | some i =>
  simp only;obtain ⟨hi, hfi, hlt⟩ := List.findIdx?_eq_some_iff_getElem.1 hf;have hil : i < s.idx.length := by simpa [St.recs] using hi
  have hget : s.recs[i] = s.idx[i].rc := by simp [St.recs]
  have hfind : s.idx.find? (Zjz d) = some s.idx[i] := by
   rw [List.find?_eq_some_iff_getElem];refine ⟨?_, i, hil, rfl, fun j hj => ?_⟩
   ·have : Qi d s.recs[i] = true := hfi;rw [hget] at this; exact this
   ·have hjl : j < s.recs.length := by omega
    have h1 := hlt j hj;have : s.recs[j] = s.idx[j].rc := by simp [St.recs]
    rw [this] at h1;have h2 : ¬ Qi d s.idx[j].rc = true := h1;show (!Qi d s.idx[j].rc) = true;simpa using h2
  obtain ⟨p, hp, hkp, hx⟩ := (Zb0 h _).1 (List.getElem_mem hil);have hpair : s.idx[i].pair = (p : Int) := by rw [hx]
  refine ⟨p, hp, ?_, ?_, trivial, hkp⟩
  ·unfold Zha;rw [if_pos hk, hfind];exact hpair
  ·rw [← hpair, Zqf s.idx i hil (Zp9 h)];simp [St.recs]
structure Z1l (s : St) (d : Dd) (p : Nat) (r : Rec) : Prop where
 p6 : p < 6
 right : Z6 r = 0
 disk : (s.begin d).st.dk = s.dk.pairD (p : Int) r
 next : (s.begin d).st.next = s.next
 n : (s.begin d).n = (doR s.recs d).n
 good : ∀ x y, (s.dk.half p r x y).Good
 same : ∀ x y, (∀ q : Nat, q < 6 → (s.dk.half p r x y).tell (q : Int) = s.dk.tell (q : Int)) ∨ (Yd (s.dk.half p r x y) 6 = (s.begin d).st.idx)
 whole : Yd (s.dk.half p r true true) 6 = (s.begin d).st.idx
 recs : Xv (s.begin d).st.recs (doR s.recs d).l = true
theorem Zat {s : St} (h : s.Inv) (he : (s.begin d).e = 0) : ∃ p r, Z1l s d p r := by
 have hg := h.good;unfold St.begin at he;by_cases hw : Z1 d = 0
 ·rw [if_neg (by simpa using hw)] at he;by_cases hr : (doR s.recs d).e = 0
  ·have hb : s.begin d = if d.kind = 3 then ⟨⟨s.dk.pairD (Zha d s.idx) Rec.free, Jb s.idx (Zha d s.idx), s.next⟩, (doR s.recs d).n, 0⟩ else ⟨⟨s.dk.pairD (Xt s.idx) (Y5 d (doR s.recs d).n), Qh ⟨Y5 d (doR s.recs d).n, (Xt s.idx : Nat)⟩ s.idx, s.next⟩, (doR s.recs d).n, 0⟩ := by
    unfold St.begin;rw [if_neg (by simpa using hw), if_neg (by simpa using hr)]
   by_cases hk : d.kind = 3
   ·rw [if_pos hk] at hb;obtain ⟨p, hp, hat, hl, hn, hkp⟩ := Zm0 h hk hr;rw [hat] at hb;have hoth : ∀ x y q, q < 6 → q ≠ p → (s.dk.half p Rec.free x y).tell ((q : Nat) : Int) = s.dk.tell (q : Int) := fun x y q hq hne => (X5 hg.fine hp hq hne Qv x y).2
    have hdrop : ∀ x y, (s.dk.half p Rec.free x y).tell (p : Int) = Rec.free → Yd (s.dk.half p Rec.free x y) 6 = Jb s.idx (p : Int) := fun x y ht => by
     rw [h.idx]; exact Zq3 (by rw [ht]; rfl) (hoth x y)
    refine ⟨p, Rec.free, hp, Qv, by rw [hb], by rw [hb], by rw [hb], fun x y => hg.free hp x y, fun x y => ?_, ?_, ?_⟩
    ·rcases (Zb2 hg.fine hp (hg.three p hp) x y).2.1 with e | e
     ·left; intro q hq;by_cases eq : q = p
      ·subst eq; exact e
      ·exact hoth x y q hq eq
     ·right; rw [hb]; exact hdrop x y e
    ·rw [hb]; exact hdrop true true ((Zb2 hg.fine hp (hg.three p hp) true true).2.2 rfl rfl).1
    ·rw [hb, hl]; exact Jm _
   ·rw [if_neg hk] at hb;obtain ⟨p, hp, hlf, hdo, hwm, hkm, ht, hv⟩ := Zs8 h hw hk hr;have hn : (doR s.recs d).n = Yw s.recs := by rw [hdo]
    rw [hlf, hn] at hb;have hoth : ∀ x y q, q < 6 → q ≠ p → (s.dk.half p (Y5 d (Yw s.recs)) x y).tell ((q : Nat) : Int) = s.dk.tell (q : Int) := fun x y q hq hne => (X5 hg.fine hp hq hne hwm x y).2
    have hput : ∀ x y, (x || y) = true → Yd (s.dk.half p (Y5 d (Yw s.recs)) x y) 6 = Qh ⟨Y5 d (Yw s.recs), (p : Int)⟩ s.idx := fun x y hxy => by
     rw [h.idx];refine Zuj hp hkm ht ?_ (hoth x y) hwm;rw [(Zl4 hg.fine hp hwm hkm (hg.three p hp) ht x y).2, if_pos hxy]
    refine ⟨p, Y5 d (Yw s.recs), hp, hwm, by rw [hb], by rw [hb], by rw [hb, hn], fun x y => hg.put hp hwm hkm ht hv x y, fun x y => ?_, ?_, ?_⟩
    ·by_cases hxy : (x || y) = true
     ·right; rw [hb]; exact hput x y hxy
     ·left;obtain ⟨rfl, rfl⟩ : x = false ∧ y = false := by simpa using hxy
      rw [Zem s.dk hg.fine]; intro _ _; rfl
    ·rw [hb]; exact hput true true rfl
    ·rw [hb, hdo];unfold Xv;rw [Bool.and_eq_true, List.all_eq_true];refine ⟨fun r hr => ?_, decide_eq_true ?_⟩
     ·unfold Zay;rw [List.any_eq_true];refine ⟨r, ?_, (J8 _ _).2 rfl⟩;obtain ⟨x, hx, rfl⟩ := List.mem_map.1 hr;rcases (Vk _ _ _).1 hx with rfl | hx
      ·exact List.mem_append_right _ (by simp)
      ·exact List.mem_append_left _ (List.mem_map_of_mem hx)
     ·show ((Qh _ s.idx).map Ent.rc).length = (s.recs ++ [_]).length;rw [List.length_map, Jq, Zl2];simp [St.recs]
  ·rw [if_pos (by simpa using hr)] at he; exact absurd he hr
 ·rw [if_pos (by simpa using hw)] at he; exact absurd he hw
theorem Zeo {s : St} (he : (s.begin d).e ≠ 0) : (s.begin d).st = s ∧ (s.begin d).n = 0 ∧ (Z1 d = 0 → (s.begin d).e = (doR s.recs d).e ∧ (doR s.recs d).l = s.recs ∧ (doR s.recs d).n = 0) ∧ (Z1 d ≠ 0 → (s.begin d).e = Z1 d) := by
 unfold St.begin at he ⊢;by_cases hw : Z1 d = 0
 ·rw [if_neg (by simpa using hw)] at he ⊢;by_cases hr : (doR s.recs d).e = 0
  ·rw [if_neg (by simpa using hr)] at he;exfalso;split at he <;> exact he rfl
  ·rw [if_pos (by simpa using hr)];refine ⟨rfl, rfl, fun _ => ⟨rfl, ?_⟩, fun h => absurd hw h⟩;unfold doR at hr ⊢;split
   ·split
    ·rename_i h3 _ i hf; rw [if_pos h3, hf] at hr; exact absurd rfl hr
    ·exact ⟨rfl, rfl⟩
   ·rename_i h3;split
    ·exact ⟨rfl, rfl⟩
    ·split
     ·exact ⟨rfl, rfl⟩
     ·rename_i h5 h6; rw [if_neg h3, if_neg h5, if_neg h6] at hr; exact absurd rfl hr
 ·rw [if_pos (by simpa using hw)];exact ⟨rfl, rfl, fun h => absurd h hw, fun _ => rfl⟩
theorem Zau {s : St} (he : (s.begin d).e = 0) : Z1 d = 0 ∧ (doR s.recs d).e = 0 := by
 unfold St.begin at he;by_cases hw : Z1 d = 0
 ·refine ⟨hw, ?_⟩;rw [if_neg (by simpa using hw)] at he;by_cases hr : (doR s.recs d).e = 0
  ·exact hr
  ·rw [if_pos (by simpa using hr)] at he; exact absurd he hr
 ·rw [if_pos (by simpa using hw)] at he; exact absurd he hw
theorem Zen {s : St} (h : s.Inv) (d : Dd) : (s.doS d).st.Inv := by
 have hat : (s.doS d).st.At := ⟨Zy4 h.at'.ok, by rw [Zfg]; exact h.at'.low, by rw [Zfg]; exact h.at'.high⟩;by_cases he : (s.begin d).e = 0
 ·obtain ⟨p, r, H⟩ := Zat h he;have hst : (s.doS d).st = ⟨s.dk.half p r true true, (s.begin d).st.idx, (s.begin d).st.next⟩ := by
   unfold St.doS;rw [if_pos he, H.disk, Zal h.good.fine H.p6 H.right]
  have hg := H.good true true;rw [hst] at hat ⊢;exact ⟨hat, hg.three, H.whole.symm, hg.once⟩
 ·have hst : (s.doS d).st = s := by unfold St.doS; rw [if_neg he]; exact (Zeo he).1
  rw [hst]; exact h
theorem Zg2 {s : St} (h : s.Inv) (hw : Z1 d = 0) : (s.doS d).e = (doR s.recs d).e ∧ (s.doS d).n = (doR s.recs d).n ∧ Xv (s.doS d).st.recs (doR s.recs d).l = true ∧ Xv (Xs (s.doS d).st.dk).recs (doR s.recs d).l = true := by
 have hi := Zen h d;have hm : (Xs (s.doS d).st.dk).recs = (s.doS d).st.recs := by
  unfold St.recs;rw [hi.good.mounted, hi.idx]
 rw [hm];by_cases he : (s.begin d).e = 0
 ·obtain ⟨p, r, H⟩ := Zat h he;have hr : (s.doS d).st.recs = (s.begin d).st.recs := by unfold St.doS; rw [if_pos he]; rfl
  refine ⟨?_, ?_, by rw [hr]; exact H.recs, by rw [hr]; exact H.recs⟩
  ·rw [(Zau he).2]; unfold St.doS; rw [if_pos he]
  ·rw [← H.n]; unfold St.doS; rw [if_pos he]
 ·obtain ⟨h1, h2, h3, -⟩ := Zeo he;obtain ⟨k1, k2, k3⟩ := h3 hw;have hd : s.doS d = s.begin d := by unfold St.doS; rw [if_neg he]
  rw [hd, h1, h2, k1, k2, k3];exact ⟨rfl, rfl, Jm _, Jm _⟩
theorem Zgx {s : St} (h : s.Inv) (he : (s.begin d).e = 0) (bits : Int) : ((s.begin d).st.dk.keep bits).Good ∧ ((Xs ((s.begin d).st.dk.keep bits)).recs = s.recs ∨ Xv (Xs ((s.begin d).st.dk.keep bits)).recs (doR s.recs d).l = true) := by
 obtain ⟨p, r, H⟩ := Zat h he;have hk : (s.begin d).st.dk.keep bits = s.dk.half p r (Qr bits 0) (Qr bits 1) := by rw [H.disk, Zib h.good.fine H.p6 H.right]
 rw [hk];have hg := H.good (Qr bits 0) (Qr bits 1);refine ⟨hg, ?_⟩;unfold St.recs;rw [hg.mounted];rcases H.same (Qr bits 0) (Qr bits 1) with e | e
 ·left;show (Yd _ 6).map Ent.rc = _;rw [Kz 6 e, h.idx]
 ·right;show Xv ((Yd _ 6).map Ent.rc) _ = true;rw [e]; exact H.recs
theorem Zlo : Dk.new.Good := by
 have hside : ∀ a : Nat, a < 12 → Yb Dk.new (a : Int) = Rec.free ∧ Xi Dk.new (a : Int) = 0 := fun a ha => by
  refine Zug ?_ Qv (by omega) (by omega);have h1 := Zyb (a : Int) (by omega) (by omega);unfold Dk.get;rw [if_neg (by show ¬ ((a : Int) < 0 ∨ ((Dk.new.blocks.length : Nat) : Int) ≤ (a : Int)); rw [Zdg.len]; omega)];show some ((Vy [] _).getD _) = _;simp only [Vy];rw [← h1]; rfl
 have hfree : ∀ p, p < 6 → Vn Dk.new p ∧ (Dk.new.tell ((p : Nat) : Int)).kind = 1 := fun p hp => by
  have h0 := hside (2 * p) (by omega);have h1 := hside (2 * p + 1) (by omega);rw [show ((2 * p : Nat) : Int) = 2 * (p : Int) by omega] at h0;rw [show ((2 * p + 1 : Nat) : Int) = 2 * (p : Int) + 1 by omega] at h1;have k0 : (Yb Dk.new (2 * (p : Int))).kind = 1 := by rw [h0.1]; rfl
  have k1 : (Yb Dk.new (2 * (p : Int) + 1)).kind = 1 := by rw [h1.1]; rfl
  exact ⟨.inr (.inr ⟨k0, k1, by rw [h0.2, h1.2]; omega⟩), by rw [(Va (Y0 Zdg.len hp) k0 k1).1]; rfl⟩
 exact ⟨Zdg, fun p hp => (hfree p hp).1, fun p q hp _ hk => absurd (hfree p hp).2 hk⟩
theorem Jp : Qg.Inv := Zlo.mount
theorem Za7 {s : St} (h : s.Inv) {x : Sp} (hx : Xe s x = true) : (s.step x).st.Inv := by
 have hg := h.good;have hat := Zxg (x := x) h.at';unfold St.step at hat ⊢;split at hat
 ·rw [if_pos (by assumption)]; exact Zen h x.deed
 ·rename_i k1;rw [if_neg k1];split at hat
  ·rename_i k2;rw [if_pos k2];by_cases he : (s.begin x.deed).e = 0
   ·rw [if_neg (by simpa using he)];exact (Zgx h he x.n).1.mount
   ·rw [if_pos he]; exact h
  ·rename_i k2;rw [if_neg k2];split at hat
   ·rename_i k3;rw [if_pos k3];by_cases hr : x.n < 0 ∨ 192 ≤ x.n
    ·rw [if_pos hr]; exact h
    ·rw [if_neg hr] at hat ⊢;have hlow : s.dk.how (x.n / 32) < 2 := by
      unfold Xe at hx;rw [if_neg (by omega)] at hx;exact of_decide_eq_true hx
     have c1 : (((x.n / 32).toNat : Nat) : Int) = x.n / 32 := by omega
     have c2 : (((x.n / 16).toNat : Nat) : Int) = x.n / 16 := by omega
     obtain ⟨h1, h2⟩ := hg.spoilt (p := (x.n / 32).toNat) (a := (x.n / 16).toNat) (by omega) (by omega) (by rw [c1]; exact hlow) (x.n % 16) x.m (by omega) (by omega);rw [c2] at h1 h2;exact ⟨hat, h1.three, by show s.idx = Yd _ 6; rw [Kz 6 h2, h.idx], h1.once⟩
   ·rename_i k3;rw [if_neg k3];split at hat
    ·rename_i k4;rw [if_pos k4];have c1 : ((s.next.toNat : Nat) : Int) = s.next := by have := h.at'.low; omega
     obtain ⟨h1, h2⟩ := hg.mend (p := s.next.toNat) (by have := h.at'.high; omega);rw [c1] at h1 h2;exact ⟨hat, h1.three, rfl, h1.once⟩
    ·rename_i k4;rw [if_neg k4];split at hat
     ·rename_i k5;rw [if_pos k5]; exact hg.cleaned.1.mount
     ·rename_i k5;rw [if_neg k5];split at hat
      ·rename_i k6;rw [if_pos k6]; exact hg.mount
      ·rename_i k6;rw [if_neg k6]; exact h
end Go.Proofs.YtpdnapbchcdhladGreatDoor
namespace Go.Proofs.YtpdnapbchcdhladGreatDoor
set_option maxRecDepth 100000
open Go.RowKit
open Plain Reg
def Zxr : Xz Sp where
 T := 42
 size := 7
 enc S w x cs := ∃ u, cs = [.int .i64 x.kind, .int .i64 x.n, .int .i64 x.m, .int .i64 x.deed.kind, .int .i64 x.deed.key, .int .i64 x.deed.num, u] ∧ Z0 S w u x.deed.data
 len := by rintro S w x cs ⟨u, rfl, _⟩; rfl
 keep := by rintro S w w' x cs ⟨u, rfl, h⟩ hk; exact ⟨u, rfl, h.keeps hk⟩
 mono := by rintro S S' w x cs ⟨u, rfl, h⟩ hS; exact ⟨u, rfl, h.mono hS⟩
 cap := by rintro S w x cs ⟨u, rfl, h⟩; exact ⟨u, rfl, h.caps⟩
 one := by
  rintro S w x cs ⟨u, rfl, h⟩ c hc;simp only [List.mem_cons, List.not_mem_nil, or_false] at hc;rcases hc with rfl | rfl | rfl | rfl | rfl | rfl | rfl
  ·rfl
  ·rfl
  ·rfl
  ·rfl
  ·rfl
  ·rfl
  ·exact h.one
abbrev Zhb (S : Nat → Prop) (w : World) (v : Value) (l : List Sp) : Prop := Zv Zxr S w v l
theorem Zt3 {S : Nat → Prop} {w : World} {ao : Option Addr} {n cap : Nat} {l : List Sp} (h : Zhb S w (.slice ao n cap) l) (i : Nat) (hi : i < l.length) :
  ∃ b off a c, ao = some ⟨b, off, none⟩ ∧ w.cell? ⟨b, off + i * 7, none⟩ = some (.int .i64 l[i].kind) ∧ w.cell? ⟨b, off + i * 7 + 1, none⟩ = some (.int .i64 l[i].n) ∧ w.cell? ⟨b, off + i * 7 + 2, none⟩ = some (.int .i64 l[i].m) ∧ w.cell? ⟨b, off + i * 7 + 3, none⟩ = some (.int .i64 l[i].deed.kind) ∧ w.cell? ⟨b, off + i * 7 + 4, none⟩ = some (.int .i64 l[i].deed.key) ∧ w.cell? ⟨b, off + i * 7 + 5, none⟩ = some (.int .i64 l[i].deed.num) ∧
   w.cell? ⟨b, off + i * 7 + 6, none⟩ = some (.slice a l[i].deed.data.length c) ∧ Z0 S w (.slice a l[i].deed.data.length c) l[i].deed.data := by
 obtain ⟨b, off, rfl, _, cs, ⟨u, rfl, hu⟩, hc⟩ := h.at i hi;obtain ⟨a, c, rfl⟩ := hu.form;exact ⟨b, off, a, c, rfl, hc 0 _ rfl, hc 1 _ rfl, hc 2 _ rfl, hc 3 _ rfl, hc 4 _ rfl, hc 5 _ rfl, hc 6 _ rfl, hu⟩
variable {v : Value} {w w' : World}
def iv (x : Int) : Value := .int .i64 x
theorem Zw.grown {U : Nat → Prop} {s : St} {row : Option Nat} (h : Zw U s v w) (hg : w.grownBy w' row) (hn : ∀ b, row = some b → ¬ U b) : Zw U s v w' := by
 cases row with
 | none => exact h.grow (Yl (Zj.refl _) hg (fun k hk => by cases hk))
 | some q => exact h.but (Zo.grown hg) (hn q rfl)
theorem Zp3 {base size n q : Nat} {e : TypeId} {xs : List Value} (h : w.ownsRow base e size v n xs) (hg : Zo q w w') (hq : q < base) : w'.ownsRow base e size v n xs :=
 ⟨h.1, Xh h.2 (fun x => x) fun ⟨g, cap, cur, h1, h2, h3, r⟩ => ⟨g, cap, cur, h1, h2, by rw [hg.block _ (Za h3) (by omega)]; exact h3, r⟩⟩
theorem Zx9 (w : World) (x : Int) (T : TypeId) : ∀ (t : Nat) u, ([.int .i64 x] : List Value)[t]? = some u → (w.alloc (.cells #[.int .i64 x] T)).cell? ((⟨w.heap.size, 0, none⟩ : Addr).add t) = some u := by
 intro t u ht
 match t, ht with
 | 0, ht => simp at ht; subst ht; simp [Addr.add]
 | t + 1, ht => simp at ht
variable {S : Nat → Prop} {v : Value} {w : World}
def Zqh : Prop := ∀ (S : Nat → Prop) (w : World), (∀ b, S b → b < w.heap.size) →
 Calls Tryz.prog 13 #[] w fun r w' => ∃ v', r = .returned v' ∧ Zw (Z7 S w.heap.size) Qg v' w' ∧ Zj w w'
def Zjb : Prop := ∀ (S : Nat → Prop) (s : St) (v : Value) (w : World), (∀ b, S b → b < w.heap.size) → Zw S s v w → s.At →
 Calls Tryz.prog 9 #[v] w fun r w' => ∃ v', r = .returned v' ∧ Yz (Z7 S w.heap.size) w' v' s.recs ∧ Zj w w'
def Zm3 : Prop := ∀ (S : Nat → Prop) (s : St) (key : Int) (v : Value) (w : World), (∀ b, S b → b < w.heap.size) → Zw S s v w → s.At →
 Calls Tryz.prog 12 #[v, .int .i64 key] w fun r w' => ∃ u, r = .returned (.tuple #[u, .int .i64 (X6 s.recs key).e]) ∧ Z0 (Z7 S w.heap.size) w' u (X6 s.recs key).data ∧ Zj w w'
def Zph : Prop := ∀ (S : Nat → Prop) (s : St) (fr most : Int) (v : Value) (w : World), (∀ b, S b → b < w.heap.size) → Zw S s v w → s.At →
 Calls Tryz.prog 15 #[v, .int .i64 fr, .int .i64 most] w fun r w' => ∃ v', r = .returned v' ∧ w'.ownsRow w.heap.size 3 1 v' (Qo s.recs fr most 255).length ((Qo s.recs fr most 255).map iv) ∧ Zj w w'
theorem Z0d {s : St} (h : s.At) : s.idx.length ≤ 6 := by
 obtain ⟨h1, h2⟩ := (Yr _).1 h.ok.right;have hn : (s.idx.map fun x => x.pair.toNat).Nodup := by
  rw [List.nodup_iff_pairwise_ne, List.pairwise_map];refine List.Pairwise.imp_of_mem ?_ h1;intro a b ha hb hu e;have ha0 := (h2 a ha).2.2.1;have hb0 := (h2 b hb).2.2.1;exact hu.2 (by omega)
 have := Zfe _ (List.range 6) hn (fun x hx => by
  obtain ⟨e, he, rfl⟩ := List.mem_map.1 hx;have := h.ok.six e he;rw [List.mem_range];have := (h2 e he).2.2.1;omega)
 simpa using this
theorem Zyu {s : St} (h : s.At) : s.recs.length ≤ 6 := by unfold St.recs; rw [List.length_map]; exact Z0d h
theorem Zyl (l : List Rec) (d : Dd) : (doR l d).l.length ≤ l.length + 1 := by
 unfold doR;split
 ·split
  ·rename_i i hf;simp only [List.length_append, List.length_take, List.length_drop];omega
  ·exact Nat.le_succ _
 ·split
  ·exact Nat.le_succ _
  ·split
   ·exact Nat.le_succ _
   ·simp
theorem Zw.any {s : St} (h : Zw S s v w) : Zw (fun _ => True) s v w := h.mono fun _ _ => trivial
theorem Zw.now {s : St} (h : Zw (fun _ => True) s v w) : Zw (fun b => b < w.heap.size) s v w := h.capd.mono fun _ h => h.2
theorem Zk8 {l : List Rec} (h : Yz S w v l) : Yz (fun _ => True) w v l := Zv.mono h fun _ _ => trivial
theorem Zi6 {l : List UInt8} (h : Z0 S w v l) : Z0 (fun b => b < w.heap.size) w v l := h.caps.mono fun _ h => h.2
theorem Zvg {base n : Nat} {e : TypeId} {xs : List Value} (h : w.ownsRow base e 1 v n xs) (hn : 0 < n) : ∃ g c, v = .slice (some ⟨g, 0, none⟩) n c ∧ base ≤ g ∧ g < w.heap.size := by
 rcases h.2 with ⟨_, h0⟩ | ⟨g, c, cur, h1, h2, h3, _⟩
 ·omega
 ·exact ⟨g, c, h1, h2, Za h3⟩
def Ze8 (K : List Int) : Prop := ∀ (S : Nat → Prop) (s : St) (x : Sp) (v : Value) (ad : Option Addr) (c : Nat) (w : World), x.kind ∈ K → (∀ b, S b → b < w.heap.size) → Zw S s v w → Z0 S w (.slice ad x.deed.data.length c) x.deed.data → s.At → x.deed.data.length ≤ 140737488355328 →
 Calls Tryz.prog 10 #[v, .agg #[.int .i64 x.kind, .int .i64 x.n, .int .i64 x.m, .int .i64 x.deed.kind, .int .i64 x.deed.key, .int .i64 x.deed.num, .slice ad x.deed.data.length c]] w fun r w' => ∃ v', r = .returned (.tuple #[v', .int .i64 (s.step x).n, .int .i64 (s.step x).e]) ∧ Zw (Z7 S w.heap.size) (s.step x).st v' w' ∧ Zj w w'
def Zdi : Sp := ⟨6, 0, 0, ⟨0, 0, 0, []⟩⟩
theorem Zrz (S : Nat → Prop) (w : World) : Z0 S w (.slice none Zdi.deed.data.length 0) Zdi.deed.data := .inl ⟨none, 0, rfl, rfl, fun _ => rfl⟩
end Go.Proofs.YtpdnapbchcdhladGreatDoor
