import Derived.Test.YtpdnapbchcdhlacGreatInv2
set_option maxHeartbeats 8000000
namespace Go.Proofs.YtpdnapbchcdhlacGreat
set_option maxRecDepth 100000
open Plain
variable {d : Dd} {s : St}
theorem Zkf (e : Ent) : ∀ l : List Ent, (Za6 e l).length = l.length + 1
 | [] => rfl
 | x :: l => by
  unfold Za6;split
  ·rfl
  ·simp [Zkf e l]
theorem Zog : ∀ (l : List Ent) (i : Nat) (h : i < l.length), l.Pairwise Ups → Jl l l[i].pair = l.take i ++ l.drop (i + 1)
 | a :: l, 0, _, hp => by
  obtain ⟨h1, _⟩ := List.pairwise_cons.1 hp;unfold Jl;simp only [List.getElem_cons_zero, List.take_zero, List.nil_append, List.drop_succ_cons, List.drop_zero];rw [List.filter_cons_of_neg (by simp), List.filter_eq_self];intro x hx;exact decide_eq_true (fun e => (h1 x hx).2 e.symm)
 | a :: l, i + 1, h, hp => by
  obtain ⟨h1, h2⟩ := List.pairwise_cons.1 hp;have hi : i < l.length := by simpa using h
  have ih := Zog l i hi h2;unfold Jl at ih ⊢;simp only [List.getElem_cons_succ, List.take_succ_cons, List.drop_succ_cons, List.cons_append];rw [List.filter_cons_of_pos (by exact decide_eq_true (h1 _ (List.getElem_mem hi)).2), ih]
theorem Zeo (h : s.Inv) (x : Ent) : x ∈ s.idx ↔ ∃ p : Nat, p < 6 ∧ (s.dk.tell (p : Int)).kind ≠ 1 ∧ x = ⟨s.dk.tell (p : Int), (p : Int)⟩ := by rw [h.idx]; exact Va s.dk x 6
theorem Zr2 (h : s.Inv) (r : Rec) : r ∈ s.recs ↔ ∃ p : Nat, p < 6 ∧ (s.dk.tell (p : Int)).kind ≠ 1 ∧ r = s.dk.tell (p : Int) := by
 unfold St.recs;rw [List.mem_map];constructor
 ·rintro ⟨x, hx, rfl⟩;obtain ⟨p, hp, hk, rfl⟩ := (Zeo h x).1 hx;exact ⟨p, hp, hk, rfl⟩
 ·rintro ⟨p, hp, hk, rfl⟩;exact ⟨_, (Zeo h _).2 ⟨p, hp, hk, rfl⟩, rfl⟩
theorem Zvc (h : s.Inv) : s.idx.Pairwise Ups := by rw [h.idx]; exact Ze7 s.dk
theorem Zqm (h : s.Inv) (hw : Yh d = 0) (hk : d.kind ≠ 3) (he : (doR s.recs d).e = 0) :
  ∃ p : Nat, p < 6 ∧ Qq s.idx = p ∧ doR s.recs d = ⟨s.recs ++ [X5 d (X9 s.recs)], X9 s.recs, 0⟩ ∧ Z3 (X5 d (X9 s.recs)) = 0 ∧ (X5 d (X9 s.recs)).kind ≠ 1 ∧ (s.dk.tell (p : Int)).kind = 1 ∧ ∀ q : Nat, q < 6 → (s.dk.tell (q : Int)).kind ≠ 1 → (s.dk.tell (q : Int)).ver ≠ (X5 d (X9 s.recs)).ver := by
 obtain ⟨h5, hn, h6⟩ := Zc6 hk he;have hl5 : s.idx.length ≤ 5 := by simpa [St.recs] using h5
 obtain ⟨hL, hL5⟩ := Zaj (l := s.idx) (by omega);have hm := Zcd (n := X9 s.recs) hw hk Zen.1 h6;refine ⟨Qq s.idx, by omega, rfl, ?_, hm.1, hm.2, ?_, fun q hq hkq => ?_⟩
 ·unfold doR;rw [if_neg hk, if_neg (by omega), if_neg (by omega)]
 ·by_cases e : (s.dk.tell ((Qq s.idx : Nat) : Int)).kind = 1
  ·exact e
  ·exact absurd rfl (hL.2 _ ((Zeo h _).2 ⟨_, by omega, e, rfl⟩))
 ·have := Zen.2 _ ((Zr2 h _).2 ⟨q, hq, hkq, rfl⟩);show _ ≠ X9 s.recs;omega
theorem Zk4 (h : s.Inv) (hk : d.kind = 3) (he : (doR s.recs d).e = 0) :
  ∃ p : Nat, p < 6 ∧ Zir d s.idx = (p : Int) ∧ (doR s.recs d).l = (Jl s.idx (p : Int)).map Ent.rc ∧ (doR s.recs d).n = d.num ∧ (s.dk.tell (p : Int)).kind ≠ 1 := by
 unfold doR at he ⊢;rw [if_pos hk] at he ⊢;cases hf : s.recs.findIdx? (Vp d) with
 | none => rw [hf] at he; cases he
 | some i =>
  simp only;obtain ⟨hi, hfi, hlt⟩ := List.findIdx?_eq_some_iff_getElem.1 hf;have hil : i < s.idx.length := by simpa [St.recs] using hi
  have hget : s.recs[i] = s.idx[i].rc := by simp [St.recs]
  have hfind : s.idx.find? (Zid d) = some s.idx[i] := by
   rw [List.find?_eq_some_iff_getElem];refine ⟨?_, i, hil, rfl, fun j hj => ?_⟩
   ·have : Vp d s.recs[i] = true := hfi;rw [hget] at this; exact this
   ·have hjl : j < s.recs.length := by omega
    have h1 := hlt j hj;have : s.recs[j] = s.idx[j].rc := by simp [St.recs]
    rw [this] at h1;have h2 : ¬ Vp d s.idx[j].rc = true := h1;show (!Vp d s.idx[j].rc) = true;simpa using h2
  obtain ⟨p, hp, hkp, hx⟩ := (Zeo h _).1 (List.getElem_mem hil);have hpair : s.idx[i].pair = (p : Int) := by rw [hx]
  refine ⟨p, hp, ?_, ?_, trivial, hkp⟩
  ·unfold Zir;rw [if_pos hk, hfind];exact hpair
  ·rw [← hpair, Zog s.idx i hil (Zvc h)];simp [St.recs]
structure Zyb (s : St) (d : Dd) (p : Nat) (r : Rec) : Prop where
 p6 : p < 6
 right : Z3 r = 0
 disk : (s.begin d).st.dk = s.dk.pairD (p : Int) r
 next : (s.begin d).st.next = s.next
 n : (s.begin d).n = (doR s.recs d).n
 good : ∀ x y, (s.dk.half p r x y).Good
 same : ∀ x y, (∀ q : Nat, q < 6 → (s.dk.half p r x y).tell (q : Int) = s.dk.tell (q : Int)) ∨ (Z4 (s.dk.half p r x y) 6 = (s.begin d).st.idx)
 whole : Z4 (s.dk.half p r true true) 6 = (s.begin d).st.idx
 recs : Xs (s.begin d).st.recs (doR s.recs d).l = true
theorem Zap (h : s.Inv) (he : (s.begin d).e = 0) : ∃ p r, Zyb s d p r := by
 have hg := h.good;unfold St.begin at he;by_cases hw : Yh d = 0
 ·rw [if_neg (by simpa using hw)] at he;by_cases hr : (doR s.recs d).e = 0
  ·have hb : s.begin d = if d.kind = 3 then ⟨⟨s.dk.pairD (Zir d s.idx) Rec.free, Jl s.idx (Zir d s.idx), s.next⟩, (doR s.recs d).n, 0⟩ else ⟨⟨s.dk.pairD (Qq s.idx) (X5 d (doR s.recs d).n), X6 ⟨X5 d (doR s.recs d).n, (Qq s.idx : Nat)⟩ s.idx, s.next⟩, (doR s.recs d).n, 0⟩ := by
    unfold St.begin;rw [if_neg (by simpa using hw), if_neg (by simpa using hr)]
   by_cases hk : d.kind = 3
   ·rw [if_pos hk] at hb;obtain ⟨p, hp, hat, hl, hn, hkp⟩ := Zk4 h hk hr;rw [hat] at hb;have hoth : ∀ x y q, q < 6 → q ≠ p → (s.dk.half p Rec.free x y).tell ((q : Nat) : Int) = s.dk.tell (q : Int) := fun x y q hq hne => (Qf hg.fine hp hq hne Qn x y).2
    have hdrop : ∀ x y, (s.dk.half p Rec.free x y).tell (p : Int) = Rec.free → Z4 (s.dk.half p Rec.free x y) 6 = Jl s.idx (p : Int) := fun x y ht => by
     rw [h.idx]; exact Zov (by rw [ht]; rfl) (hoth x y)
    refine ⟨p, Rec.free, hp, Qn, by rw [hb], by rw [hb], by rw [hb], fun x y => hg.free hp x y, fun x y => ?_, ?_, ?_⟩
    ·rcases (Zbp hg.fine hp (hg.three p hp) x y).2.1 with e | e
     ·left; intro q hq;by_cases eq : q = p
      ·subst eq; exact e
      ·exact hoth x y q hq eq
     ·right; rw [hb]; exact hdrop x y e
    ·rw [hb]; exact hdrop true true ((Zbp hg.fine hp (hg.three p hp) true true).2.2 rfl rfl).1
    ·rw [hb, hl]; exact Vq _
   ·rw [if_neg hk] at hb;obtain ⟨p, hp, hlf, hdo, hwm, hkm, ht, hv⟩ := Zqm h hw hk hr;have hn : (doR s.recs d).n = X9 s.recs := by rw [hdo]
    rw [hlf, hn] at hb;have hoth : ∀ x y q, q < 6 → q ≠ p → (s.dk.half p (X5 d (X9 s.recs)) x y).tell ((q : Nat) : Int) = s.dk.tell (q : Int) := fun x y q hq hne => (Qf hg.fine hp hq hne hwm x y).2
    have hput : ∀ x y, (x || y) = true → Z4 (s.dk.half p (X5 d (X9 s.recs)) x y) 6 = X6 ⟨X5 d (X9 s.recs), (p : Int)⟩ s.idx := fun x y hxy => by
     rw [h.idx];refine Zrw hp hkm ht ?_ (hoth x y) hwm;rw [(Zkh hg.fine hp hwm hkm (hg.three p hp) ht x y).2, if_pos hxy]
    refine ⟨p, X5 d (X9 s.recs), hp, hwm, by rw [hb], by rw [hb], by rw [hb, hn], fun x y => hg.put hp hwm hkm ht hv x y, fun x y => ?_, ?_, ?_⟩
    ·by_cases hxy : (x || y) = true
     ·right; rw [hb]; exact hput x y hxy
     ·left;obtain ⟨rfl, rfl⟩ : x = false ∧ y = false := by simpa using hxy
      rw [Zdy s.dk hg.fine]; intro _ _; rfl
    ·rw [hb]; exact hput true true rfl
    ·rw [hb, hdo];unfold Xs;rw [Bool.and_eq_true, List.all_eq_true];refine ⟨fun r hr => ?_, decide_eq_true ?_⟩
     ·unfold Ve;rw [List.any_eq_true];refine ⟨r, ?_, (J0 _ _).2 rfl⟩;obtain ⟨x, hx, rfl⟩ := List.mem_map.1 hr;rcases (Ji _ _ _).1 hx with rfl | hx
      ·exact List.mem_append_right _ (by simp)
      ·exact List.mem_append_left _ (List.mem_map_of_mem hx)
     ·show ((X6 _ s.idx).map Ent.rc).length = (s.recs ++ [_]).length;rw [List.length_map, Jh, Zkf];simp [St.recs]
  ·rw [if_pos (by simpa using hr)] at he; exact absurd he hr
 ·rw [if_pos (by simpa using hw)] at he; exact absurd he hw
theorem Zd0 (he : (s.begin d).e ≠ 0) : (s.begin d).st = s ∧ (s.begin d).n = 0 ∧ (Yh d = 0 → (s.begin d).e = (doR s.recs d).e ∧ (doR s.recs d).l = s.recs ∧ (doR s.recs d).n = 0) ∧ (Yh d ≠ 0 → (s.begin d).e = Yh d) := by
 unfold St.begin at he ⊢;by_cases hw : Yh d = 0
 ·rw [if_neg (by simpa using hw)] at he ⊢;by_cases hr : (doR s.recs d).e = 0
  ·rw [if_neg (by simpa using hr)] at he;exfalso;split at he <;> exact he rfl
  ·rw [if_pos (by simpa using hr)];refine ⟨rfl, rfl, fun _ => ⟨rfl, ?_⟩, fun h => absurd hw h⟩;unfold doR at hr ⊢;split
   ·split
    ·rename_i h3 _ i hf; rw [if_pos h3, hf] at hr; exact absurd rfl hr
    ·exact ⟨rfl, rfl⟩
   ·rename_i h3;split
    ·exact ⟨rfl, rfl⟩
    ·split
     ·exact ⟨rfl, rfl⟩
     ·rename_i h5 h6; rw [if_neg h3, if_neg h5, if_neg h6] at hr; exact absurd rfl hr
 ·rw [if_pos (by simpa using hw)];exact ⟨rfl, rfl, fun h => absurd h hw, fun _ => rfl⟩
theorem Zga (he : (s.begin d).e = 0) : Yh d = 0 ∧ (doR s.recs d).e = 0 := by
 unfold St.begin at he;by_cases hw : Yh d = 0
 ·refine ⟨hw, ?_⟩;rw [if_neg (by simpa using hw)] at he;by_cases hr : (doR s.recs d).e = 0
  ·exact hr
  ·rw [if_pos (by simpa using hr)] at he; exact absurd he hr
 ·rw [if_pos (by simpa using hw)] at he; exact absurd he hw
theorem Ztc (h : s.Inv) (d : Dd) : (s.doS d).st.Inv := by
 have hat : (s.doS d).st.At := ⟨Zvy h.at'.ok, by rw [Zep]; exact h.at'.low, by rw [Zep]; exact h.at'.high⟩;by_cases he : (s.begin d).e = 0
 ·obtain ⟨p, r, H⟩ := Zap h he;have hst : (s.doS d).st = ⟨s.dk.half p r true true, (s.begin d).st.idx, (s.begin d).st.next⟩ := by
   unfold St.doS;rw [if_pos he, H.disk, Kv h.good.fine H.p6 H.right]
  have hg := H.good true true;rw [hst] at hat ⊢;exact ⟨hat, hg.three, H.whole.symm, hg.once⟩
 ·have hst : (s.doS d).st = s := by unfold St.doS; rw [if_neg he]; exact (Zd0 he).1
  rw [hst]; exact h
theorem Ztb (h : s.Inv) (hw : Yh d = 0) : (s.doS d).e = (doR s.recs d).e ∧ (s.doS d).n = (doR s.recs d).n ∧ Xs (s.doS d).st.recs (doR s.recs d).l = true ∧ Xs (Xy (s.doS d).st.dk).recs (doR s.recs d).l = true := by
 have hi := Ztc h d;have hm : (Xy (s.doS d).st.dk).recs = (s.doS d).st.recs := by
  unfold St.recs;rw [hi.good.mounted, hi.idx]
 rw [hm];by_cases he : (s.begin d).e = 0
 ·obtain ⟨p, r, H⟩ := Zap h he;have hr : (s.doS d).st.recs = (s.begin d).st.recs := by unfold St.doS; rw [if_pos he]; rfl
  refine ⟨?_, ?_, by rw [hr]; exact H.recs, by rw [hr]; exact H.recs⟩
  ·rw [(Zga he).2]; unfold St.doS; rw [if_pos he]
  ·rw [← H.n]; unfold St.doS; rw [if_pos he]
 ·obtain ⟨h1, h2, h3, -⟩ := Zd0 he;obtain ⟨k1, k2, k3⟩ := h3 hw;have hd : s.doS d = s.begin d := by unfold St.doS; rw [if_neg he]
  rw [hd, h1, h2, k1, k2, k3];exact ⟨rfl, rfl, Vq _, Vq _⟩
theorem Zf0 (h : s.Inv) (he : (s.begin d).e = 0) (bits : Int) : ((s.begin d).st.dk.keep bits).Good ∧ ((Xy ((s.begin d).st.dk.keep bits)).recs = s.recs ∨ Xs (Xy ((s.begin d).st.dk.keep bits)).recs (doR s.recs d).l = true) := by
 obtain ⟨p, r, H⟩ := Zap h he;have hk : (s.begin d).st.dk.keep bits = s.dk.half p r (Xv bits 0) (Xv bits 1) := by rw [H.disk, Zg6 h.good.fine H.p6 H.right]
 rw [hk];have hg := H.good (Xv bits 0) (Xv bits 1);refine ⟨hg, ?_⟩;unfold St.recs;rw [hg.mounted];rcases H.same (Xv bits 0) (Xv bits 1) with e | e
 ·left;show (Z4 _ 6).map Ent.rc = _;rw [Jz 6 e, h.idx]
 ·right;show Xs ((Z4 _ 6).map Ent.rc) _ = true;rw [e]; exact H.recs
theorem Zsp : Dk.new.Good := by
 have hside : ∀ a : Nat, a < 12 → Z0 Dk.new (a : Int) = Rec.free ∧ Yy Dk.new (a : Int) = 0 := fun a ha => by
  refine Ze2 ?_ Qn (by omega) (by omega);have h1 := Zu3 (a : Int) (by omega) (by omega);unfold Dk.get;rw [if_neg (by show ¬ ((a : Int) < 0 ∨ ((Dk.new.blocks.length : Nat) : Int) ≤ (a : Int)); rw [J4.len]; omega)];show some ((Qj [] _).getD _) = _;simp only [Qj];rw [← h1]; rfl
 have hfree : ∀ p, p < 6 → Vv Dk.new p ∧ (Dk.new.tell ((p : Nat) : Int)).kind = 1 := fun p hp => by
  have h0 := hside (2 * p) (by omega);have h1 := hside (2 * p + 1) (by omega);rw [show ((2 * p : Nat) : Int) = 2 * (p : Int) by omega] at h0;rw [show ((2 * p + 1 : Nat) : Int) = 2 * (p : Int) + 1 by omega] at h1;have k0 : (Z0 Dk.new (2 * (p : Int))).kind = 1 := by rw [h0.1]; rfl
  have k1 : (Z0 Dk.new (2 * (p : Int) + 1)).kind = 1 := by rw [h1.1]; rfl
  exact ⟨.inr (.inr ⟨k0, k1, by rw [h0.2, h1.2]; omega⟩), by rw [(Vj (Y7 J4.len hp) k0 k1).1]; rfl⟩
 exact ⟨J4, fun p hp => (hfree p hp).1, fun p q hp _ hk => absurd (hfree p hp).2 hk⟩
theorem Zu2 : Q3.Inv := Zsp.mount
theorem Zi7 (h : s.Inv) {x : Sp} (hx : Qb s x = true) : (s.step x).st.Inv := by
 have hg := h.good;have hat := Zuc (x := x) h.at';unfold St.step at hat ⊢;split at hat
 ·rw [if_pos (by assumption)]; exact Ztc h x.deed
 ·rename_i k1;rw [if_neg k1];split at hat
  ·rename_i k2;rw [if_pos k2];by_cases he : (s.begin x.deed).e = 0
   ·rw [if_neg (by simpa using he)];exact (Zf0 h he x.n).1.mount
   ·rw [if_pos he]; exact h
  ·rename_i k2;rw [if_neg k2];split at hat
   ·rename_i k3;rw [if_pos k3];by_cases hr : x.n < 0 ∨ 192 ≤ x.n
    ·rw [if_pos hr]; exact h
    ·rw [if_neg hr] at hat ⊢;have hlow : s.dk.how (x.n / 32) < 2 := by
      unfold Qb at hx;rw [if_neg (by omega)] at hx;exact of_decide_eq_true hx
     have c1 : (((x.n / 32).toNat : Nat) : Int) = x.n / 32 := by omega
     have c2 : (((x.n / 16).toNat : Nat) : Int) = x.n / 16 := by omega
     obtain ⟨h1, h2⟩ := hg.spoilt (p := (x.n / 32).toNat) (a := (x.n / 16).toNat) (by omega) (by omega) (by rw [c1]; exact hlow) (x.n % 16) x.m (by omega) (by omega);rw [c2] at h1 h2;exact ⟨hat, h1.three, by show s.idx = Z4 _ 6; rw [Jz 6 h2, h.idx], h1.once⟩
   ·rename_i k3;rw [if_neg k3];split at hat
    ·rename_i k4;rw [if_pos k4];have c1 : ((s.next.toNat : Nat) : Int) = s.next := by have := h.at'.low; omega
     obtain ⟨h1, h2⟩ := hg.mend (p := s.next.toNat) (by have := h.at'.high; omega);rw [c1] at h1 h2;exact ⟨hat, h1.three, rfl, h1.once⟩
    ·rename_i k4;rw [if_neg k4];split at hat
     ·rename_i k5;rw [if_pos k5]; exact hg.cleaned.1.mount
     ·rename_i k5;rw [if_neg k5];split at hat
      ·rename_i k6;rw [if_pos k6]; exact hg.mount
      ·rename_i k6;rw [if_neg k6]; exact h
end Go.Proofs.YtpdnapbchcdhlacGreat
