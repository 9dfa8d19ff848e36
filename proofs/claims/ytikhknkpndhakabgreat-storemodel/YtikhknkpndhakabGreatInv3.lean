import Derived.Test.YtikhknkpndhakabGreatInv2
set_option maxHeartbeats 8000000
namespace Go.Proofs.YtikhknkpndhakabGreat
set_option maxRecDepth 100000
open Plain
theorem Zlf (e : Ent) : ∀ l : List Ent, (Zb0 e l).length = l.length + 1
 | [] => rfl
 | x :: l => by
  unfold Zb0;split
  ·rfl
  ·simp [Zlf e l]
theorem Zo7 : ∀ (l : List Ent) (i : Nat) (h : i < l.length), l.Pairwise Ups → Qv l l[i].pair = l.take i ++ l.drop (i + 1)
 | a :: l, 0, _, hp => by
  obtain ⟨h1, _⟩ := List.pairwise_cons.1 hp;unfold Qv;simp only [List.getElem_cons_zero, List.take_zero, List.nil_append, List.drop_succ_cons, List.drop_zero];rw [List.filter_cons_of_neg (by simp), List.filter_eq_self];intro x hx;exact decide_eq_true (fun e => (h1 x hx).2 e.symm)
 | a :: l, i + 1, h, hp => by
  obtain ⟨h1, h2⟩ := List.pairwise_cons.1 hp;have hi : i < l.length := by simpa using h
  have ih := Zo7 l i hi h2;unfold Qv at ih ⊢;simp only [List.getElem_cons_succ, List.take_succ_cons, List.drop_succ_cons, List.cons_append];rw [List.filter_cons_of_pos (by exact decide_eq_true (h1 _ (List.getElem_mem hi)).2), ih]
theorem Ze4 {s : St} (h : s.Inv) (x : Ent) : x ∈ s.idx ↔ ∃ p : Nat, p < 6 ∧ (s.dk.tell (p : Int)).kind ≠ 1 ∧ x = ⟨s.dk.tell (p : Int), (p : Int)⟩ := by rw [h.idx]; exact Vb s.dk x 6
theorem Zss {s : St} (h : s.Inv) (r : Rec) : r ∈ s.recs ↔ ∃ p : Nat, p < 6 ∧ (s.dk.tell (p : Int)).kind ≠ 1 ∧ r = s.dk.tell (p : Int) := by
 unfold St.recs;rw [List.mem_map];constructor
 ·rintro ⟨x, hx, rfl⟩;obtain ⟨p, hp, hk, rfl⟩ := (Ze4 h x).1 hx;exact ⟨p, hp, hk, rfl⟩
 ·rintro ⟨p, hp, hk, rfl⟩;exact ⟨_, (Ze4 h _).2 ⟨p, hp, hk, rfl⟩, rfl⟩
theorem Zv4 {s : St} (h : s.Inv) : s.idx.Pairwise Ups := by rw [h.idx]; exact Zft s.dk
theorem Zrf {s : St} (h : s.Inv) {d : Dd} (hw : Yj d = 0) (hk : d.kind ≠ 3) (he : (doR s.recs d).e = 0) :
  ∃ p : Nat, p < 6 ∧ X5 s.idx = p ∧ doR s.recs d = ⟨s.recs ++ [Xu d (Xw s.recs)], Xw s.recs, 0⟩ ∧ Z9 (Xu d (Xw s.recs)) = 0 ∧ (Xu d (Xw s.recs)).kind ≠ 1 ∧ (s.dk.tell (p : Int)).kind = 1 ∧ ∀ q : Nat, q < 6 → (s.dk.tell (q : Int)).kind ≠ 1 → (s.dk.tell (q : Int)).ver ≠ (Xu d (Xw s.recs)).ver := by
 obtain ⟨h5, hn, h6⟩ := Zdr hk he;have hl5 : s.idx.length ≤ 5 := by simpa [St.recs] using h5
 obtain ⟨hL, hL5⟩ := Za8 (l := s.idx) (by omega);have hm := Zc0 (n := Xw s.recs) hw hk Ze3.1 h6;refine ⟨X5 s.idx, by omega, rfl, ?_, hm.1, hm.2, ?_, fun q hq hkq => ?_⟩
 ·unfold doR;rw [if_neg hk, if_neg (by omega), if_neg (by omega)]
 ·by_cases e : (s.dk.tell ((X5 s.idx : Nat) : Int)).kind = 1
  ·exact e
  ·exact absurd rfl (hL.2 _ ((Ze4 h _).2 ⟨_, by omega, e, rfl⟩))
 ·have := Ze3.2 _ ((Zss h _).2 ⟨q, hq, hkq, rfl⟩);show _ ≠ Xw s.recs;omega
theorem Zl2 {s : St} (h : s.Inv) {d : Dd} (hk : d.kind = 3) (he : (doR s.recs d).e = 0) :
  ∃ p : Nat, p < 6 ∧ Ke d s.idx = (p : Int) ∧ (doR s.recs d).l = (Qv s.idx (p : Int)).map Ent.rc ∧ (doR s.recs d).n = d.num ∧ (s.dk.tell (p : Int)).kind ≠ 1 := by
 unfold doR at he ⊢;rw [if_pos hk] at he ⊢;cases hf : s.recs.findIdx? (Q1 d) with
 | none => rw [hf] at he; cases he
 | some i =>
  simp only;obtain ⟨hi, hfi, hlt⟩ := List.findIdx?_eq_some_iff_getElem.1 hf;have hil : i < s.idx.length := by simpa [St.recs] using hi
  have hget : s.recs[i] = s.idx[i].rc := by simp [St.recs]
  have hfind : s.idx.find? (Zbc d) = some s.idx[i] := by
   rw [List.find?_eq_some_iff_getElem];refine ⟨?_, i, hil, rfl, fun j hj => ?_⟩
   ·have : Q1 d s.recs[i] = true := hfi;rw [hget] at this; exact this
   ·have hjl : j < s.recs.length := by omega
    have h1 := hlt j hj;have : s.recs[j] = s.idx[j].rc := by simp [St.recs]
    rw [this] at h1;have h2 : ¬ Q1 d s.idx[j].rc = true := h1;show (!Q1 d s.idx[j].rc) = true;simpa using h2
  obtain ⟨p, hp, hkp, hx⟩ := (Ze4 h _).1 (List.getElem_mem hil);have hpair : s.idx[i].pair = (p : Int) := by rw [hx]
  refine ⟨p, hp, ?_, ?_, trivial, hkp⟩
  ·unfold Ke;rw [if_pos hk, hfind];exact hpair
  ·rw [← hpair, Zo7 s.idx i hil (Zv4 h)];simp [St.recs]
structure Zyq (s : St) (d : Dd) (p : Nat) (r : Rec) : Prop where
 p6 : p < 6
 right : Z9 r = 0
 disk : (s.begin d).st.dk = s.dk.pairD (p : Int) r
 next : (s.begin d).st.next = s.next
 n : (s.begin d).n = (doR s.recs d).n
 good : ∀ x y, (s.dk.half p r x y).Good
 same : ∀ x y, (∀ q : Nat, q < 6 → (s.dk.half p r x y).tell (q : Int) = s.dk.tell (q : Int)) ∨ (Ya (s.dk.half p r x y) 6 = (s.begin d).st.idx)
 whole : Ya (s.dk.half p r true true) 6 = (s.begin d).st.idx
 recs : K1 (s.begin d).st.recs (doR s.recs d).l = true
theorem Zc6 {s : St} (h : s.Inv) {d : Dd} (he : (s.begin d).e = 0) : ∃ p r, Zyq s d p r := by
 have hg := h.good;unfold St.begin at he;by_cases hw : Yj d = 0
 ·rw [if_neg (by simpa using hw)] at he;by_cases hr : (doR s.recs d).e = 0
  ·have hb : s.begin d = if d.kind = 3 then ⟨⟨s.dk.pairD (Ke d s.idx) Rec.free, Qv s.idx (Ke d s.idx), s.next⟩, (doR s.recs d).n, 0⟩ else ⟨⟨s.dk.pairD (X5 s.idx) (Xu d (doR s.recs d).n), X0 ⟨Xu d (doR s.recs d).n, (X5 s.idx : Nat)⟩ s.idx, s.next⟩, (doR s.recs d).n, 0⟩ := by
    unfold St.begin;rw [if_neg (by simpa using hw), if_neg (by simpa using hr)]
   by_cases hk : d.kind = 3
   ·rw [if_pos hk] at hb;obtain ⟨p, hp, hat, hl, hn, hkp⟩ := Zl2 h hk hr;rw [hat] at hb;have hoth : ∀ x y q, q < 6 → q ≠ p → (s.dk.half p Rec.free x y).tell ((q : Nat) : Int) = s.dk.tell (q : Int) := fun x y q hq hne => (Vl hg.fine hp hq hne Vh x y).2
    have hdrop : ∀ x y, (s.dk.half p Rec.free x y).tell (p : Int) = Rec.free → Ya (s.dk.half p Rec.free x y) 6 = Qv s.idx (p : Int) := fun x y ht => by
     rw [h.idx]; exact Zpq (by rw [ht]; rfl) (hoth x y)
    refine ⟨p, Rec.free, hp, Vh, by rw [hb], by rw [hb], by rw [hb], fun x y => hg.free hp x y, fun x y => ?_, ?_, ?_⟩
    ·rcases (Zcj hg.fine hp (hg.three p hp) x y).2.1 with e | e
     ·left; intro q hq;by_cases eq : q = p
      ·subst eq; exact e
      ·exact hoth x y q hq eq
     ·right; rw [hb]; exact hdrop x y e
    ·rw [hb]; exact hdrop true true ((Zcj hg.fine hp (hg.three p hp) true true).2.2 rfl rfl).1
    ·rw [hb, hl]; exact Zbs _
   ·rw [if_neg hk] at hb;obtain ⟨p, hp, hlf, hdo, hwm, hkm, ht, hv⟩ := Zrf h hw hk hr;have hn : (doR s.recs d).n = Xw s.recs := by rw [hdo]
    rw [hlf, hn] at hb;have hoth : ∀ x y q, q < 6 → q ≠ p → (s.dk.half p (Xu d (Xw s.recs)) x y).tell ((q : Nat) : Int) = s.dk.tell (q : Int) := fun x y q hq hne => (Vl hg.fine hp hq hne hwm x y).2
    have hput : ∀ x y, (x || y) = true → Ya (s.dk.half p (Xu d (Xw s.recs)) x y) 6 = X0 ⟨Xu d (Xw s.recs), (p : Int)⟩ s.idx := fun x y hxy => by
     rw [h.idx];refine Zsi hp hkm ht ?_ (hoth x y) hwm;rw [(Zlg hg.fine hp hwm hkm (hg.three p hp) ht x y).2, if_pos hxy]
    refine ⟨p, Xu d (Xw s.recs), hp, hwm, by rw [hb], by rw [hb], by rw [hb, hn], fun x y => hg.put hp hwm hkm ht hv x y, fun x y => ?_, ?_, ?_⟩
    ·by_cases hxy : (x || y) = true
     ·right; rw [hb]; exact hput x y hxy
     ·left;obtain ⟨rfl, rfl⟩ : x = false ∧ y = false := by simpa using hxy
      rw [Zci s.dk hg.fine]; intro _ _; rfl
    ·rw [hb]; exact hput true true rfl
    ·rw [hb, hdo];unfold K1;rw [Bool.and_eq_true, List.all_eq_true];refine ⟨fun r hr => ?_, decide_eq_true ?_⟩
     ·unfold K5;rw [List.any_eq_true];refine ⟨r, ?_, (Zcc _ _).2 rfl⟩;obtain ⟨x, hx, rfl⟩ := List.mem_map.1 hr;rcases (J4 _ _ _).1 hx with rfl | hx
      ·exact List.mem_append_right _ (by simp)
      ·exact List.mem_append_left _ (List.mem_map_of_mem hx)
     ·show ((X0 _ s.idx).map Ent.rc).length = (s.recs ++ [_]).length;rw [List.length_map, J3, Zlf];simp [St.recs]
  ·rw [if_pos (by simpa using hr)] at he; exact absurd he hr
 ·rw [if_pos (by simpa using hw)] at he; exact absurd he hw
theorem Ziq {s : St} {d : Dd} (he : (s.begin d).e ≠ 0) : (s.begin d).st = s ∧ (s.begin d).n = 0 ∧ (Yj d = 0 → (s.begin d).e = (doR s.recs d).e ∧ (doR s.recs d).l = s.recs ∧ (doR s.recs d).n = 0) ∧ (Yj d ≠ 0 → (s.begin d).e = Yj d) := by
 unfold St.begin at he ⊢;by_cases hw : Yj d = 0
 ·rw [if_neg (by simpa using hw)] at he ⊢;by_cases hr : (doR s.recs d).e = 0
  ·rw [if_neg (by simpa using hr)] at he;exfalso;split at he <;> exact he rfl
  ·rw [if_pos (by simpa using hr)];refine ⟨rfl, rfl, fun _ => ⟨rfl, ?_⟩, fun h => absurd hw h⟩;unfold doR at hr ⊢;split
   ·split
    ·rename_i h3 _ i hf; rw [if_pos h3, hf] at hr; exact absurd rfl hr
    ·exact ⟨rfl, rfl⟩
   ·rename_i h3;split
    ·exact ⟨rfl, rfl⟩
    ·split
     ·exact ⟨rfl, rfl⟩
     ·rename_i h5 h6; rw [if_neg h3, if_neg h5, if_neg h6] at hr; exact absurd rfl hr
 ·rw [if_pos (by simpa using hw)];exact ⟨rfl, rfl, fun h => absurd h hw, fun _ => rfl⟩
theorem Zn9 {s : St} {d : Dd} (he : (s.begin d).e = 0) : Yj d = 0 ∧ (doR s.recs d).e = 0 := by
 unfold St.begin at he;by_cases hw : Yj d = 0
 ·refine ⟨hw, ?_⟩;rw [if_neg (by simpa using hw)] at he;by_cases hr : (doR s.recs d).e = 0
  ·exact hr
  ·rw [if_pos (by simpa using hr)] at he; exact absurd he hr
 ·rw [if_pos (by simpa using hw)] at he; exact absurd he hw
theorem Zgz {s : St} (h : s.Inv) (d : Dd) : (s.doS d).st.Inv := by
 have hat : (s.doS d).st.At := ⟨Zwo h.at'.ok, by rw [Ze6]; exact h.at'.low, by rw [Ze6]; exact h.at'.high⟩;by_cases he : (s.begin d).e = 0
 ·obtain ⟨p, r, H⟩ := Zc6 h he;have hst : (s.doS d).st = ⟨s.dk.half p r true true, (s.begin d).st.idx, (s.begin d).st.next⟩ := by
   unfold St.doS;rw [if_pos he, H.disk, Zdf h.good.fine H.p6 H.right]
  have hg := H.good true true;rw [hst] at hat ⊢;exact ⟨hat, hg.three, H.whole.symm, hg.once⟩
 ·have hst : (s.doS d).st = s := by unfold St.doS; rw [if_neg he]; exact (Ziq he).1
  rw [hst]; exact h
theorem Zt4 {s : St} (h : s.Inv) {d : Dd} (hw : Yj d = 0) : (s.doS d).e = (doR s.recs d).e ∧ (s.doS d).n = (doR s.recs d).n ∧ K1 (s.doS d).st.recs (doR s.recs d).l = true ∧ K1 (Xf (s.doS d).st.dk).recs (doR s.recs d).l = true := by
 have hi := Zgz h d;have hm : (Xf (s.doS d).st.dk).recs = (s.doS d).st.recs := by
  unfold St.recs;rw [hi.good.mounted, hi.idx]
 rw [hm];by_cases he : (s.begin d).e = 0
 ·obtain ⟨p, r, H⟩ := Zc6 h he;have hr : (s.doS d).st.recs = (s.begin d).st.recs := by unfold St.doS; rw [if_pos he]; rfl
  refine ⟨?_, ?_, by rw [hr]; exact H.recs, by rw [hr]; exact H.recs⟩
  ·rw [(Zn9 he).2]; unfold St.doS; rw [if_pos he]
  ·rw [← H.n]; unfold St.doS; rw [if_pos he]
 ·obtain ⟨h1, h2, h3, -⟩ := Ziq he;obtain ⟨k1, k2, k3⟩ := h3 hw;have hd : s.doS d = s.begin d := by unfold St.doS; rw [if_neg he]
  rw [hd, h1, h2, k1, k2, k3];exact ⟨rfl, rfl, Zbs _, Zbs _⟩
theorem Znv {s : St} (h : s.Inv) {d : Dd} (he : (s.begin d).e = 0) (bits : Int) : ((s.begin d).st.dk.keep bits).Good ∧ ((Xf ((s.begin d).st.dk.keep bits)).recs = s.recs ∨ K1 (Xf ((s.begin d).st.dk.keep bits)).recs (doR s.recs d).l = true) := by
 obtain ⟨p, r, H⟩ := Zc6 h he;have hk : (s.begin d).st.dk.keep bits = s.dk.half p r (Qq bits 0) (Qq bits 1) := by rw [H.disk, Zib h.good.fine H.p6 H.right]
 rw [hk];have hg := H.good (Qq bits 0) (Qq bits 1);refine ⟨hg, ?_⟩;unfold St.recs;rw [hg.mounted];rcases H.same (Qq bits 0) (Qq bits 1) with e | e
 ·left;show (Ya _ 6).map Ent.rc = _;rw [Zd1 6 e, h.idx]
 ·right;show K1 ((Ya _ 6).map Ent.rc) _ = true;rw [e]; exact H.recs
theorem Zga : Dk.new.Good := by
 have hside : ∀ a : Nat, a < 12 → Z8 Dk.new (a : Int) = Rec.free ∧ Y8 Dk.new (a : Int) = 0 := fun a ha => by
  refine Zsf ?_ Vh (by omega) (by omega);have h1 := Zvv (a : Int) (by omega) (by omega);unfold Dk.get;rw [if_neg (by show ¬ ((a : Int) < 0 ∨ ((Dk.new.blocks.length : Nat) : Int) ≤ (a : Int)); rw [Kb.len]; omega)];show some ((Qo [] _).getD _) = _;simp only [Qo];rw [← h1]; rfl
 have hfree : ∀ p, p < 6 → V7 Dk.new p ∧ (Dk.new.tell ((p : Nat) : Int)).kind = 1 := fun p hp => by
  have h0 := hside (2 * p) (by omega);have h1 := hside (2 * p + 1) (by omega);rw [show ((2 * p : Nat) : Int) = 2 * (p : Int) by omega] at h0;rw [show ((2 * p + 1 : Nat) : Int) = 2 * (p : Int) + 1 by omega] at h1;have k0 : (Z8 Dk.new (2 * (p : Int))).kind = 1 := by rw [h0.1]; rfl
  have k1 : (Z8 Dk.new (2 * (p : Int) + 1)).kind = 1 := by rw [h1.1]; rfl
  exact ⟨.inr (.inr ⟨k0, k1, by rw [h0.2, h1.2]; omega⟩), by rw [(Vt (Xp Kb.len hp) k0 k1).1]; rfl⟩
 exact ⟨Kb, fun p hp => (hfree p hp).1, fun p q hp _ hk => absurd (hfree p hp).2 hk⟩
theorem Zdk : Xt.Inv := Zga.mount
theorem Zry {s : St} (h : s.Inv) {x : Sp} (hx : Kd s x = true) : (s.step x).st.Inv := by
 have hg := h.good;have hat := Zok (x := x) h.at';unfold St.step at hat ⊢;split at hat
 ·rw [if_pos (by assumption)]; exact Zgz h x.deed
 ·rename_i k1;rw [if_neg k1];split at hat
  ·rename_i k2;rw [if_pos k2];by_cases he : (s.begin x.deed).e = 0
   ·rw [if_neg (by simpa using he)];exact (Znv h he x.n).1.mount
   ·rw [if_pos he]; exact h
  ·rename_i k2;rw [if_neg k2];split at hat
   ·rename_i k3;rw [if_pos k3];by_cases hr : x.n < 0 ∨ 192 ≤ x.n
    ·rw [if_pos hr]; exact h
    ·rw [if_neg hr] at hat ⊢;have hlow : s.dk.how (x.n / 32) < 2 := by
      unfold Kd at hx;rw [if_neg (by omega)] at hx;exact of_decide_eq_true hx
     have c1 : (((x.n / 32).toNat : Nat) : Int) = x.n / 32 := by omega
     have c2 : (((x.n / 16).toNat : Nat) : Int) = x.n / 16 := by omega
     obtain ⟨h1, h2⟩ := hg.spoilt (p := (x.n / 32).toNat) (a := (x.n / 16).toNat) (by omega) (by omega) (by rw [c1]; exact hlow) (x.n % 16) x.m (by omega) (by omega);rw [c2] at h1 h2;exact ⟨hat, h1.three, by show s.idx = Ya _ 6; rw [Zd1 6 h2, h.idx], h1.once⟩
   ·rename_i k3;rw [if_neg k3];split at hat
    ·rename_i k4;rw [if_pos k4];have c1 : ((s.next.toNat : Nat) : Int) = s.next := by have := h.at'.low; omega
     obtain ⟨h1, h2⟩ := hg.mend (p := s.next.toNat) (by have := h.at'.high; omega);rw [c1] at h1 h2;exact ⟨hat, h1.three, rfl, h1.once⟩
    ·rename_i k4;rw [if_neg k4];split at hat
     ·rename_i k5;rw [if_pos k5]; exact hg.cleaned.1.mount
     ·rename_i k5;rw [if_neg k5];split at hat
      ·rename_i k6;rw [if_pos k6]; exact hg.mount
      ·rename_i k6;rw [if_neg k6]; exact h
end Go.Proofs.YtikhknkpndhakabGreat
namespace Go.Proofs.YtikhknkpndhakabGreat
set_option maxRecDepth 100000
open Go.RowKit
open Plain Reg
def Zwq : Prop := ∀ (S : Nat → Prop) (w : World), (∀ b, S b → b < w.heap.size) →
 Calls Tryz.prog 8 #[] w fun r w' => ∃ v', r = .returned v' ∧ Z2 (Zw S w.heap.size) Xt v' w' ∧ Zo w w'
def Zwp : Prop := ∀ (S : Nat → Prop) (s : St) (v : Value) (w : World), (∀ b, S b → b < w.heap.size) → Z2 S s v w → s.At →
 Calls Tryz.prog 15 #[v] w fun r w' => ∃ v', r = .returned v' ∧ Z2 (Zw S w.heap.size) s v' w' ∧ Zo w w'
def Zjt : Prop := ∀ (S : Nat → Prop) (d : Dk) (v : Value) (w : World), (∀ b, S b → b < w.heap.size) → Xv S d v w → d.Fine 2 →
 Calls Tryz.prog 13 #[v] w fun r w' => ∃ v', r = .returned v' ∧ Z2 (Zw S w.heap.size) (Xf d) v' w' ∧ Zo w w'
def Zee : Prop := ∀ (S : Nat → Prop) (s : St) (v : Value) (w : World), (∀ b, S b → b < w.heap.size) → Z2 S s v w → s.At →
 Calls Tryz.prog 23 #[v] w fun r w' => ∃ v', r = .returned v' ∧ Xg (Zw S w.heap.size) w' v' s.recs ∧ Zo w w'
def Zpa : Prop := ∀ (S : Nat → Prop) (s : St) (d : Dd) (v : Value) (ad : Option Addr) (c : Nat) (w : World), (∀ b, S b → b < w.heap.size) → Z2 S s v w → Zz S w (.slice ad d.data.length c) d.data → s.At → d.data.length ≤ 140737488355328 →
 Calls Tryz.prog 11 #[v, .agg #[.int .i64 d.kind, .int .i64 d.key, .int .i64 d.num, .slice ad d.data.length c]] w fun r w' => ∃ v', r = .returned (.tuple #[v', .int .i64 (s.begin d).n, .int .i64 (s.begin d).e]) ∧ Z2 (Zw S w.heap.size) (s.begin d).st v' w' ∧ Zo w w'
def Zxn : Prop := ∀ (S : Nat → Prop) (s : St) (d : Dd) (v : Value) (ad : Option Addr) (c : Nat) (w : World), (∀ b, S b → b < w.heap.size) → Z2 S s v w → Zz S w (.slice ad d.data.length c) d.data → s.At → d.data.length ≤ 140737488355328 →
 Calls Tryz.prog 16 #[v, .agg #[.int .i64 d.kind, .int .i64 d.key, .int .i64 d.num, .slice ad d.data.length c]] w fun r w' => ∃ v', r = .returned (.tuple #[v', .int .i64 (s.doS d).n, .int .i64 (s.doS d).e]) ∧ Z2 (Zw S w.heap.size) (s.doS d).st v' w' ∧ Zo w w'
def Zwr : Prop := ∀ (S : Nat → Prop) (s : St) (key : Int) (v : Value) (w : World), (∀ b, S b → b < w.heap.size) → Z2 S s v w → s.At →
 Calls Tryz.prog 18 #[v, .int .i64 key] w fun r w' => ∃ u, r = .returned (.tuple #[u, .int .i64 (Jb s.recs key).e]) ∧ Zz (Zw S w.heap.size) w' u (Jb s.recs key).data ∧ Zo w w'
def Zui : Prop := ∀ (S : Nat → Prop) (s : St) (fr most : Int) (v : Value) (w : World), (∀ b, S b → b < w.heap.size) → Z2 S s v w → s.At →
 Calls Tryz.prog 21 #[v, .int .i64 fr, .int .i64 most] w fun r w' => ∃ v', r = .returned v' ∧ w'.ownsRow w.heap.size 3 1 v' (Vq s.recs fr most 255).length ((Vq s.recs fr most 255).map iv) ∧ Zo w w'
def Zpb : Prop := ∀ w : World, Calls Tryz.prog 25 #[] w fun r w' => r = .returned (.bool true) ∧ Zo w w'
theorem Zgr : ∀ (n : Nat) (s : St) (l : List Sp), s.Inv → (K3 n s l).Inv
 | 0, s, _, h => h
 | n + 1, s, [], h => h
 | n + 1, s, x :: l, h => by
  unfold K3;split
  ·rename_i hg; exact Zgr n _ l (Zry h hg)
  ·exact h
theorem Zt7 {s : St} (h : s.At) : s.idx.length ≤ 6 := by
 obtain ⟨h1, h2⟩ := (Xe _).1 h.ok.right;have hn : (s.idx.map fun x => x.pair.toNat).Nodup := by
  rw [List.nodup_iff_pairwise_ne, List.pairwise_map];refine List.Pairwise.imp_of_mem ?_ h1;intro a b ha hb hu e;have ha0 := (h2 a ha).2.2.1;have hb0 := (h2 b hb).2.2.1;exact hu.2 (by omega)
 have := Zez _ (List.range 6) hn (fun x hx => by
  obtain ⟨e, he, rfl⟩ := List.mem_map.1 hx;have := h.ok.six e he;rw [List.mem_range];have := (h2 e he).2.2.1;omega)
 simpa using this
theorem Zwg {s : St} (h : s.At) : ∀ r ∈ s.recs, r.ver ≤ 60000 := fun r hr => by
 obtain ⟨x, hx, rfl⟩ := List.mem_map.1 hr;exact (Vc (((Xe _).1 h.ok.right).2 x hx).1).2.2.2.2.2.1
theorem Ze7 {s : St} (h : s.At) : s.recs.length ≤ 6 := by unfold St.recs; rw [List.length_map]; exact Zt7 h
theorem Zv9 (l : List Rec) (d : Dd) : (doR l d).l.length ≤ l.length + 1 := by
 unfold doR;split
 ·split
  ·rename_i i hf;simp only [List.length_append, List.length_take, List.length_drop];omega
  ·exact Nat.le_succ _
 ·split
  ·exact Nat.le_succ _
  ·split
   ·exact Nat.le_succ _
   ·simp
theorem Z2.any {S : Nat → Prop} {s : St} {v : Value} {w : World} (h : Z2 S s v w) : Z2 (fun _ => True) s v w := h.mono fun _ _ => trivial
theorem Z2.now {s : St} {v : Value} {w : World} (h : Z2 (fun _ => True) s v w) : Z2 (fun b => b < w.heap.size) s v w := h.capd.mono fun _ h => h.2
theorem Zkn {S : Nat → Prop} {w : World} {v : Value} {l : List Rec} (h : Xg S w v l) : Xg (fun _ => True) w v l := Yf.mono h fun _ _ => trivial
theorem Zcl {S : Nat → Prop} {w : World} {v : Value} {l : List UInt8} (h : Zz S w v l) : Zz (fun b => b < w.heap.size) w v l := h.caps.mono fun _ h => h.2
theorem Zys {l : List Int} {i : Nat} (h : i < l.length) : (l.map iv)[i]? = some (.int .i64 l[i]) := by simp [iv, h]
theorem Zxz {w : World} {base n : Nat} {e : TypeId} {v : Value} {xs : List Value} (h : w.ownsRow base e 1 v n xs) (hn : 0 < n) : ∃ g c, v = .slice (some ⟨g, 0, none⟩) n c ∧ base ≤ g ∧ g < w.heap.size := by
 rcases h.2 with ⟨_, h0⟩ | ⟨g, c, cur, h1, h2, h3, _⟩
 ·omega
 ·exact ⟨g, c, h1, h2, Za h3⟩
end Go.Proofs.YtikhknkpndhakabGreat
namespace Go.Proofs.YtikhknkpndhakabGreat
set_option maxRecDepth 100000
open Plain
def Zbi (l : List Rec) : Nat → List Int
 | 0 => []
 | k + 1 => if (Jb l ((k : Int) + 1)).e = 0 then Zbi l k ++ [(k : Int) + 1] else Zbi l k
theorem Zie (l : List Rec) (fr most : Int) (hm : 0 ≤ most) : ∀ k, Vq l fr most k = ((Zbi l k).filter fun x => decide (fr ≤ x)).take most.toNat
 | 0 => by simp [Vq, Zbi]
 | k + 1 => by
  have ih := Zie l fr most hm k;unfold Vq Zbi;by_cases he : (Jb l ((k : Int) + 1)).e = 0
  ·rw [if_pos he, List.filter_append];by_cases hf : fr ≤ (k : Int) + 1
   ·rw [List.filter_cons_of_pos (by exact decide_eq_true hf), List.filter_nil, List.take_append];by_cases hl : ((Vq l fr most k).length : Int) < most
    ·rw [if_pos ⟨he, hf, hl⟩, ih];rw [ih, List.length_take] at hl
     congr 1
     rw [List.take_of_length_le (by simp; omega)]
    ·rw [if_neg (fun h => hl h.2.2), ih];rw [ih, List.length_take] at hl;rw [show most.toNat - ((Zbi l k).filter fun x => decide (fr ≤ x)).length = 0 by omega];simp
   ·rw [if_neg (fun h => hf h.2.1), ih, List.filter_cons_of_neg (by simpa using hf)];simp
  ·rw [if_neg (fun h => he h.1), if_neg he, ih]
theorem Zla (l : List Rec) : ∀ k, (∀ x ∈ Zbi l k, 1 ≤ x ∧ x ≤ (k : Int) ∧ (Jb l x).e = 0) ∧ (Zbi l k).Pairwise (· < ·)
 | 0 => ⟨(fun x hx => by cases hx), List.Pairwise.nil⟩
 | k + 1 => by
  obtain ⟨h1, h2⟩ := Zla l k;unfold Zbi;by_cases he : (Jb l ((k : Int) + 1)).e = 0
  ·rw [if_pos he];refine ⟨fun x hx => ?_, List.pairwise_append.2 ⟨h2, List.pairwise_singleton _ _, fun a ha b hb => ?_⟩⟩
   ·rcases List.mem_append.1 hx with h | h
    ·have := h1 x h; exact ⟨this.1, by omega, this.2.2⟩
    ·rw [List.mem_singleton.1 h]; exact ⟨by omega, by omega, he⟩
   ·rw [List.mem_singleton.1 hb]; have := h1 a ha; omega
  ·rw [if_neg he];exact ⟨fun x hx => by have := h1 x hx; exact ⟨this.1, by omega, this.2.2⟩, h2⟩
theorem Zo5 (key : Int) : ∀ (l : List Rec) (g : Got), (l.foldl (Zck key) g).e = 0 → g.e = 0 ∨ ∃ r ∈ l, r.key = key
 | [], g, h => .inl h
 | r :: l, g, h => by
  by_cases hk : r.key = key
  ·exact .inr ⟨r, by simp, hk⟩
  ·have e : Zck key g r = g := by
    unfold Zck;rw [if_pos (.inl hk)]
   rw [List.foldl_cons, e] at h;rcases Zo5 key l g h with h1 | ⟨x, hx, h1⟩
   ·exact .inl h1
   ·exact .inr ⟨x, by simp [hx], h1⟩
end Go.Proofs.YtikhknkpndhakabGreat
