import Derived.Test.YtikhknkpndhakabGreatInv2
set_option maxHeartbeats 8000000
namespace Go.Proofs.YtikhknkpndhakabGreat
set_option maxRecDepth 100000
open Plain
theorem Zlp (e : Ent) : ∀ l : List Ent, (Zb3 e l).length = l.length + 1
 | [] => rfl
 | x :: l => by
  unfold Zb3;split
  ·rfl
  ·simp [Zlp e l]
theorem Zpj : ∀ (l : List Ent) (i : Nat) (h : i < l.length), l.Pairwise Ups → Qw l l[i].pair = l.take i ++ l.drop (i + 1)
 | a :: l, 0, _, hp => by
  obtain ⟨h1, _⟩ := List.pairwise_cons.1 hp;unfold Qw;simp only [List.getElem_cons_zero, List.take_zero, List.nil_append, List.drop_succ_cons, List.drop_zero];rw [List.filter_cons_of_neg (by simp), List.filter_eq_self];intro x hx;exact decide_eq_true (fun e => (h1 x hx).2 e.symm)
 | a :: l, i + 1, h, hp => by
  obtain ⟨h1, h2⟩ := List.pairwise_cons.1 hp;have hi : i < l.length := by simpa using h
  have ih := Zpj l i hi h2;unfold Qw at ih ⊢;simp only [List.getElem_cons_succ, List.take_succ_cons, List.drop_succ_cons, List.cons_append];rw [List.filter_cons_of_pos (by exact decide_eq_true (h1 _ (List.getElem_mem hi)).2), ih]
theorem Ze9 {s : St} (h : s.Inv) (x : Ent) : x ∈ s.idx ↔ ∃ p : Nat, p < 6 ∧ (s.dk.tell (p : Int)).kind ≠ 1 ∧ x = ⟨s.dk.tell (p : Int), (p : Int)⟩ := by rw [h.idx]; exact Vc s.dk x 6
theorem Zs6 {s : St} (h : s.Inv) (r : Rec) : r ∈ s.recs ↔ ∃ p : Nat, p < 6 ∧ (s.dk.tell (p : Int)).kind ≠ 1 ∧ r = s.dk.tell (p : Int) := by
 unfold St.recs;rw [List.mem_map];constructor
 ·rintro ⟨x, hx, rfl⟩;obtain ⟨p, hp, hk, rfl⟩ := (Ze9 h x).1 hx;exact ⟨p, hp, hk, rfl⟩
 ·rintro ⟨p, hp, hk, rfl⟩;exact ⟨_, (Ze9 h _).2 ⟨p, hp, hk, rfl⟩, rfl⟩
theorem Zwh {s : St} (h : s.Inv) : s.idx.Pairwise Ups := by rw [h.idx]; exact Zfx s.dk
theorem Zrs {s : St} (h : s.Inv) {d : Dd} (hw : Yn d = 0) (hk : d.kind ≠ 3) (he : (doR s.recs d).e = 0) :
  ∃ p : Nat, p < 6 ∧ X6 s.idx = p ∧ doR s.recs d = ⟨s.recs ++ [Xv d (Xx s.recs)], Xx s.recs, 0⟩ ∧ Ya (Xv d (Xx s.recs)) = 0 ∧ (Xv d (Xx s.recs)).kind ≠ 1 ∧ (s.dk.tell (p : Int)).kind = 1 ∧ ∀ q : Nat, q < 6 → (s.dk.tell (q : Int)).kind ≠ 1 → (s.dk.tell (q : Int)).ver ≠ (Xv d (Xx s.recs)).ver := by
 obtain ⟨h5, hn, h6⟩ := Zdt hk he;have hl5 : s.idx.length ≤ 5 := by simpa [St.recs] using h5
 obtain ⟨hL, hL5⟩ := Zbd (l := s.idx) (by omega);have hm := Zc3 (n := Xx s.recs) hw hk Ze8.1 h6;refine ⟨X6 s.idx, by omega, rfl, ?_, hm.1, hm.2, ?_, fun q hq hkq => ?_⟩
 ·unfold doR;rw [if_neg hk, if_neg (by omega), if_neg (by omega)]
 ·by_cases e : (s.dk.tell ((X6 s.idx : Nat) : Int)).kind = 1
  ·exact e
  ·exact absurd rfl (hL.2 _ ((Ze9 h _).2 ⟨_, by omega, e, rfl⟩))
 ·have := Ze8.2 _ ((Zs6 h _).2 ⟨q, hq, hkq, rfl⟩);show _ ≠ Xx s.recs;omega
theorem Zmc {s : St} (h : s.Inv) {d : Dd} (hk : d.kind = 3) (he : (doR s.recs d).e = 0) :
  ∃ p : Nat, p < 6 ∧ Ki d s.idx = (p : Int) ∧ (doR s.recs d).l = (Qw s.idx (p : Int)).map Ent.rc ∧ (doR s.recs d).n = d.num ∧ (s.dk.tell (p : Int)).kind ≠ 1 := by
 unfold doR at he ⊢;rw [if_pos hk] at he ⊢;cases hf : s.recs.findIdx? (Va d) with
 | none => rw [hf] at he; cases he
 | some i =>
  simp only;obtain ⟨hi, hfi, hlt⟩ := List.findIdx?_eq_some_iff_getElem.1 hf;have hil : i < s.idx.length := by simpa [St.recs] using hi
  have hget : s.recs[i] = s.idx[i].rc := by simp [St.recs]
  have hfind : s.idx.find? (Zbh d) = some s.idx[i] := by
   rw [List.find?_eq_some_iff_getElem];refine ⟨?_, i, hil, rfl, fun j hj => ?_⟩
   ·have : Va d s.recs[i] = true := hfi;rw [hget] at this; exact this
   ·have hjl : j < s.recs.length := by omega
    have h1 := hlt j hj;have : s.recs[j] = s.idx[j].rc := by simp [St.recs]
    rw [this] at h1;have h2 : ¬ Va d s.idx[j].rc = true := h1;show (!Va d s.idx[j].rc) = true;simpa using h2
  obtain ⟨p, hp, hkp, hx⟩ := (Ze9 h _).1 (List.getElem_mem hil);have hpair : s.idx[i].pair = (p : Int) := by rw [hx]
  refine ⟨p, hp, ?_, ?_, trivial, hkp⟩
  ·unfold Ki;rw [if_pos hk, hfind];exact hpair
  ·rw [← hpair, Zpj s.idx i hil (Zwh h)];simp [St.recs]
structure Zy1 (s : St) (d : Dd) (p : Nat) (r : Rec) : Prop where
 p6 : p < 6
 right : Ya r = 0
 disk : (s.begin d).st.dk = s.dk.pairD (p : Int) r
 next : (s.begin d).st.next = s.next
 n : (s.begin d).n = (doR s.recs d).n
 good : ∀ x y, (s.dk.half p r x y).Good
 same : ∀ x y, (∀ q : Nat, q < 6 → (s.dk.half p r x y).tell (q : Int) = s.dk.tell (q : Int)) ∨ (Yb (s.dk.half p r x y) 6 = (s.begin d).st.idx)
 whole : Yb (s.dk.half p r true true) 6 = (s.begin d).st.idx
 recs : Kd (s.begin d).st.recs (doR s.recs d).l = true
theorem Zhf {s : St} (h : s.Inv) {d : Dd} (he : (s.begin d).e = 0) : ∃ p r, Zy1 s d p r := by
 have hg := h.good;unfold St.begin at he;by_cases hw : Yn d = 0
 ·rw [if_neg (by simpa using hw)] at he;by_cases hr : (doR s.recs d).e = 0
  ·have hb : s.begin d = if d.kind = 3 then ⟨⟨s.dk.pairD (Ki d s.idx) Rec.free, Qw s.idx (Ki d s.idx), s.next⟩, (doR s.recs d).n, 0⟩ else ⟨⟨s.dk.pairD (X6 s.idx) (Xv d (doR s.recs d).n), X2 ⟨Xv d (doR s.recs d).n, (X6 s.idx : Nat)⟩ s.idx, s.next⟩, (doR s.recs d).n, 0⟩ := by
    unfold St.begin;rw [if_neg (by simpa using hw), if_neg (by simpa using hr)]
   by_cases hk : d.kind = 3
   ·rw [if_pos hk] at hb;obtain ⟨p, hp, hat, hl, hn, hkp⟩ := Zmc h hk hr;rw [hat] at hb;have hoth : ∀ x y q, q < 6 → q ≠ p → (s.dk.half p Rec.free x y).tell ((q : Nat) : Int) = s.dk.tell (q : Int) := fun x y q hq hne => (Vn hg.fine hp hq hne Vj x y).2
    have hdrop : ∀ x y, (s.dk.half p Rec.free x y).tell (p : Int) = Rec.free → Yb (s.dk.half p Rec.free x y) 6 = Qw s.idx (p : Int) := fun x y ht => by
     rw [h.idx]; exact Zp3 (by rw [ht]; rfl) (hoth x y)
    refine ⟨p, Rec.free, hp, Vj, by rw [hb], by rw [hb], by rw [hb], fun x y => hg.free hp x y, fun x y => ?_, ?_, ?_⟩
    ·rcases (Zcn hg.fine hp (hg.three p hp) x y).2.1 with e | e
     ·left; intro q hq
      by_cases eq : q = p
      ·subst eq; exact e
      ·exact hoth x y q hq eq
     ·right; rw [hb]; exact hdrop x y e
    ·rw [hb]; exact hdrop true true ((Zcn hg.fine hp (hg.three p hp) true true).2.2 rfl rfl).1
    ·rw [hb, hl]; exact Zem _
   ·rw [if_neg hk] at hb;obtain ⟨p, hp, hlf, hdo, hwm, hkm, ht, hv⟩ := Zrs h hw hk hr;have hn : (doR s.recs d).n = Xx s.recs := by rw [hdo]
    rw [hlf, hn] at hb;have hoth : ∀ x y q, q < 6 → q ≠ p → (s.dk.half p (Xv d (Xx s.recs)) x y).tell ((q : Nat) : Int) = s.dk.tell (q : Int) := fun x y q hq hne => (Vn hg.fine hp hq hne hwm x y).2
    have hput : ∀ x y, (x || y) = true → Yb (s.dk.half p (Xv d (Xx s.recs)) x y) 6 = X2 ⟨Xv d (Xx s.recs), (p : Int)⟩ s.idx := fun x y hxy => by
     rw [h.idx];refine Zsv hp hkm ht ?_ (hoth x y) hwm;rw [(Zlq hg.fine hp hwm hkm (hg.three p hp) ht x y).2, if_pos hxy]
    refine ⟨p, Xv d (Xx s.recs), hp, hwm, by rw [hb], by rw [hb], by rw [hb, hn], fun x y => hg.put hp hwm hkm ht hv x y, fun x y => ?_, ?_, ?_⟩
    ·by_cases hxy : (x || y) = true
     ·right; rw [hb]; exact hput x y hxy
     ·left
      obtain ⟨rfl, rfl⟩ : x = false ∧ y = false := by simpa using hxy
      rw [Zcm s.dk hg.fine]; intro _ _; rfl
    ·rw [hb]; exact hput true true rfl
    ·rw [hb, hdo];unfold Kd;rw [Bool.and_eq_true, List.all_eq_true];refine ⟨fun r hr => ?_, decide_eq_true ?_⟩
     ·unfold K8;rw [List.any_eq_true];refine ⟨r, ?_, (Km _ _).2 rfl⟩;obtain ⟨x, hx, rfl⟩ := List.mem_map.1 hr;rcases (Zaa _ _ _).1 hx with rfl | hx
      ·exact List.mem_append_right _ (by simp)
      ·exact List.mem_append_left _ (List.mem_map_of_mem hx)
     ·show ((X2 _ s.idx).map Ent.rc).length = (s.recs ++ [_]).length;rw [List.length_map, J9, Zlp];simp [St.recs]
  ·rw [if_pos (by simpa using hr)] at he; exact absurd he hr
 ·rw [if_pos (by simpa using hw)] at he; exact absurd he hw
theorem Ziw {s : St} {d : Dd} (he : (s.begin d).e ≠ 0) : (s.begin d).st = s ∧ (s.begin d).n = 0 ∧ (Yn d = 0 → (s.begin d).e = (doR s.recs d).e ∧ (doR s.recs d).l = s.recs ∧ (doR s.recs d).n = 0) ∧ (Yn d ≠ 0 → (s.begin d).e = Yn d) := by
 unfold St.begin at he ⊢;by_cases hw : Yn d = 0
 ·rw [if_neg (by simpa using hw)] at he ⊢;by_cases hr : (doR s.recs d).e = 0
  ·rw [if_neg (by simpa using hr)] at he;exfalso;split at he <;> exact he rfl
  ·rw [if_pos (by simpa using hr)];refine ⟨rfl, rfl, fun _ => ⟨rfl, ?_⟩, fun h => absurd hw h⟩;unfold doR at hr ⊢;split
   ·split
    ·rename_i h3 _ i hf; rw [if_pos h3, hf] at hr; exact absurd rfl hr
    ·exact ⟨rfl, rfl⟩
   ·rename_i h3;split
    ·exact ⟨rfl, rfl⟩
    ·split
     ·exact ⟨rfl, rfl⟩
     ·rename_i h5 h6; rw [if_neg h3, if_neg h5, if_neg h6] at hr; exact absurd rfl hr
 ·rw [if_pos (by simpa using hw)];exact ⟨rfl, rfl, fun h => absurd h hw, fun _ => rfl⟩
theorem Zol {s : St} {d : Dd} (he : (s.begin d).e = 0) : Yn d = 0 ∧ (doR s.recs d).e = 0 := by
 unfold St.begin at he;by_cases hw : Yn d = 0
 ·refine ⟨hw, ?_⟩;rw [if_neg (by simpa using hw)] at he;by_cases hr : (doR s.recs d).e = 0
  ·exact hr
  ·rw [if_pos (by simpa using hr)] at he; exact absurd he hr
 ·rw [if_pos (by simpa using hw)] at he; exact absurd he hw
theorem Zoa {s : St} (h : s.Inv) (d : Dd) : (s.doS d).st.Inv := by
 have hat : (s.doS d).st.At := ⟨Zw1 h.at'.ok, by rw [Zfb]; exact h.at'.low, by rw [Zfb]; exact h.at'.high⟩;by_cases he : (s.begin d).e = 0
 ·obtain ⟨p, r, H⟩ := Zhf h he;have hst : (s.doS d).st = ⟨s.dk.half p r true true, (s.begin d).st.idx, (s.begin d).st.next⟩ := by
   unfold St.doS;rw [if_pos he, H.disk, Zdh h.good.fine H.p6 H.right]
  have hg := H.good true true;rw [hst] at hat ⊢;exact ⟨hat, hg.three, H.whole.symm, hg.once⟩
 ·have hst : (s.doS d).st = s := by unfold St.doS; rw [if_neg he]; exact (Ziw he).1
  rw [hst]; exact h
theorem Zgx {s : St} (h : s.Inv) {d : Dd} (he : (s.begin d).e = 0) (bits : Int) : ((s.begin d).st.dk.keep bits).Good ∧ ((Xg ((s.begin d).st.dk.keep bits)).recs = s.recs ∨ Kd (Xg ((s.begin d).st.dk.keep bits)).recs (doR s.recs d).l = true) := by
 obtain ⟨p, r, H⟩ := Zhf h he;have hk : (s.begin d).st.dk.keep bits = s.dk.half p r (Qq bits 0) (Qq bits 1) := by rw [H.disk, Zig h.good.fine H.p6 H.right]
 rw [hk];have hg := H.good (Qq bits 0) (Qq bits 1);refine ⟨hg, ?_⟩;unfold St.recs;rw [hg.mounted];rcases H.same (Qq bits 0) (Qq bits 1) with e | e
 ·left
  show (Yb _ 6).map Ent.rc = _;rw [Zd3 6 e, h.idx]
 ·right;show Kd ((Yb _ 6).map Ent.rc) _ = true;rw [e]; exact H.recs
theorem Zgg : Dk.new.Good := by
 have hside : ∀ a : Nat, a < 12 → Z9 Dk.new (a : Int) = Rec.free ∧ Y9 Dk.new (a : Int) = 0 := fun a ha => by
  refine Zss ?_ Vj (by omega) (by omega);have h1 := Zv7 (a : Int) (by omega) (by omega);unfold Dk.get;rw [if_neg (by show ¬ ((a : Int) < 0 ∨ ((Dk.new.blocks.length : Nat) : Int) ≤ (a : Int)); rw [Kf.len]; omega)];show some ((Qo [] _).getD _) = _;simp only [Qo];rw [← h1]; rfl
 have hfree : ∀ p, p < 6 → V9 Dk.new p ∧ (Dk.new.tell ((p : Nat) : Int)).kind = 1 := fun p hp => by
  have h0 := hside (2 * p) (by omega);have h1 := hside (2 * p + 1) (by omega);rw [show ((2 * p : Nat) : Int) = 2 * (p : Int) by omega] at h0;rw [show ((2 * p + 1 : Nat) : Int) = 2 * (p : Int) + 1 by omega] at h1;have k0 : (Z9 Dk.new (2 * (p : Int))).kind = 1 := by rw [h0.1]; rfl
  have k1 : (Z9 Dk.new (2 * (p : Int) + 1)).kind = 1 := by rw [h1.1]; rfl
  exact ⟨.inr (.inr ⟨k0, k1, by rw [h0.2, h1.2]; omega⟩), by rw [(Vw (Xr Kf.len hp) k0 k1).1]; rfl⟩
 exact ⟨Kf, fun p hp => (hfree p hp).1, fun p q hp _ hk => absurd (hfree p hp).2 hk⟩
theorem Zdm : Xu.Inv := Zgg.mount
theorem Zsb {s : St} (h : s.Inv) {x : Sp} (hx : Kh s x = true) : (s.step x).st.Inv := by
 have hg := h.good;have hat := Zow (x := x) h.at';unfold St.step at hat ⊢;split at hat
 ·rw [if_pos (by assumption)]; exact Zoa h x.deed
 ·rename_i k1;rw [if_neg k1];split at hat
  ·rename_i k2;rw [if_pos k2];by_cases he : (s.begin x.deed).e = 0
   ·rw [if_neg (by simpa using he)];exact (Zgx h he x.n).1.mount
   ·rw [if_pos he]; exact h
  ·rename_i k2;rw [if_neg k2];split at hat
   ·rename_i k3;rw [if_pos k3];by_cases hr : x.n < 0 ∨ 192 ≤ x.n
    ·rw [if_pos hr]; exact h
    ·rw [if_neg hr] at hat ⊢;have hlow : s.dk.how (x.n / 32) < 2 := by
      unfold Kh at hx;rw [if_neg (by omega)] at hx;exact of_decide_eq_true hx
     have c1 : (((x.n / 32).toNat : Nat) : Int) = x.n / 32 := by omega
     have c2 : (((x.n / 16).toNat : Nat) : Int) = x.n / 16 := by omega
     obtain ⟨h1, h2⟩ := hg.spoilt (p := (x.n / 32).toNat) (a := (x.n / 16).toNat) (by omega) (by omega) (by rw [c1]; exact hlow) (x.n % 16) x.m (by omega) (by omega);rw [c2] at h1 h2;exact ⟨hat, h1.three, by show s.idx = Yb _ 6; rw [Zd3 6 h2, h.idx], h1.once⟩
   ·rename_i k3;rw [if_neg k3];split at hat
    ·rename_i k4;rw [if_pos k4];have c1 : ((s.next.toNat : Nat) : Int) = s.next := by have := h.at'.low; omega
     obtain ⟨h1, h2⟩ := hg.mend (p := s.next.toNat) (by have := h.at'.high; omega);rw [c1] at h1 h2;exact ⟨hat, h1.three, rfl, h1.once⟩
    ·rename_i k4;rw [if_neg k4];split at hat
     ·rename_i k5;rw [if_pos k5]; exact hg.cleaned.1.mount
     ·rename_i k5;rw [if_neg k5];split at hat
      ·rename_i k6;rw [if_pos k6]; exact hg.mount
      ·rename_i k6;rw [if_neg k6]; exact h
end Go.Proofs.YtikhknkpndhakabGreat
namespace Go.Proofs.YtikhknkpndhakabGreat
set_option maxRecDepth 100000
open Go.RowKit
open Plain Reg
def Zw3 : Prop := ∀ (S : Nat → Prop) (w : World), (∀ b, S b → b < w.heap.size) →
 Calls Tryz.prog 8 #[] w fun r w' => ∃ v', r = .returned v' ∧ Z4 (Zx S w.heap.size) Xu v' w' ∧ Zn w w'
def Zw2 : Prop := ∀ (S : Nat → Prop) (s : St) (v : Value) (w : World), (∀ b, S b → b < w.heap.size) → Z4 S s v w → s.At →
 Calls Tryz.prog 15 #[v] w fun r w' => ∃ v', r = .returned v' ∧ Z4 (Zx S w.heap.size) s v' w' ∧ Zn w w'
def Zj1 : Prop := ∀ (S : Nat → Prop) (d : Dk) (v : Value) (w : World), (∀ b, S b → b < w.heap.size) → Xw S d v w → d.Fine 2 →
 Calls Tryz.prog 13 #[v] w fun r w' => ∃ v', r = .returned v' ∧ Z4 (Zx S w.heap.size) (Xg d) v' w' ∧ Zn w w'
def Zeh : Prop := ∀ (S : Nat → Prop) (s : St) (v : Value) (w : World), (∀ b, S b → b < w.heap.size) → Z4 S s v w → s.At →
 Calls Tryz.prog 23 #[v] w fun r w' => ∃ v', r = .returned v' ∧ Xh (Zx S w.heap.size) w' v' s.recs ∧ Zn w w'
def Zj2 : Prop := ∀ (S : Nat → Prop) (s : St) (d : Dd) (v : Value) (ad : Option Addr) (c : Nat) (w : World), (∀ b, S b → b < w.heap.size) → Z4 S s v w → Z0 S w (.slice ad d.data.length c) d.data → s.At → d.data.length ≤ 140737488355328 →
 Calls Tryz.prog 11 #[v, .agg #[.int .i64 d.kind, .int .i64 d.key, .int .i64 d.num, .slice ad d.data.length c]] w fun r w' => ∃ v', r = .returned (.tuple #[v', .int .i64 (s.begin d).n, .int .i64 (s.begin d).e]) ∧ Z4 (Zx S w.heap.size) (s.begin d).st v' w' ∧ Zn w w'
def Zym : Prop := ∀ (S : Nat → Prop) (s : St) (d : Dd) (v : Value) (ad : Option Addr) (c : Nat) (w : World), (∀ b, S b → b < w.heap.size) → Z4 S s v w → Z0 S w (.slice ad d.data.length c) d.data → s.At → d.data.length ≤ 140737488355328 →
 Calls Tryz.prog 16 #[v, .agg #[.int .i64 d.kind, .int .i64 d.key, .int .i64 d.num, .slice ad d.data.length c]] w fun r w' => ∃ v', r = .returned (.tuple #[v', .int .i64 (s.doS d).n, .int .i64 (s.doS d).e]) ∧ Z4 (Zx S w.heap.size) (s.doS d).st v' w' ∧ Zn w w'
def Zw4 : Prop := ∀ (S : Nat → Prop) (s : St) (key : Int) (v : Value) (w : World), (∀ b, S b → b < w.heap.size) → Z4 S s v w → s.At →
 Calls Tryz.prog 18 #[v, .int .i64 key] w fun r w' => ∃ u, r = .returned (.tuple #[u, .int .i64 (Je s.recs key).e]) ∧ Z0 (Zx S w.heap.size) w' u (Je s.recs key).data ∧ Zn w w'
def Zut : Prop := ∀ (S : Nat → Prop) (s : St) (fr most : Int) (v : Value) (w : World), (∀ b, S b → b < w.heap.size) → Z4 S s v w → s.At →
 Calls Tryz.prog 21 #[v, .int .i64 fr, .int .i64 most] w fun r w' => ∃ v', r = .returned v' ∧ w'.ownsRow w.heap.size 3 1 v' (Vs s.recs fr most 255).length ((Vs s.recs fr most 255).map iv) ∧ Zn w w'
def Zpn : Prop := ∀ w : World, Calls Tryz.prog 25 #[] w fun r w' => r = .returned (.bool true) ∧ Zn w w'
theorem Zgy : ∀ (n : Nat) (s : St) (l : List Sp), s.Inv → (K6 n s l).Inv
 | 0, s, _, h => h
 | n + 1, s, [], h => h
 | n + 1, s, x :: l, h => by
  unfold K6;split
  ·rename_i hg; exact Zgy n _ l (Zsb h hg)
  ·exact h
theorem Zjy {s : St} (h : s.At) : s.idx.length ≤ 6 := by
 obtain ⟨h1, h2⟩ := (Xf _).1 h.ok.right;have hn : (s.idx.map fun x => x.pair.toNat).Nodup := by
  rw [List.nodup_iff_pairwise_ne, List.pairwise_map];refine List.Pairwise.imp_of_mem ?_ h1;intro a b ha hb hu e;have ha0 := (h2 a ha).2.2.1;have hb0 := (h2 b hb).2.2.1;exact hu.2 (by omega)
 have := Ze3 _ (List.range 6) hn (fun x hx => by
  obtain ⟨e, he, rfl⟩ := List.mem_map.1 hx;have := h.ok.six e he;rw [List.mem_range];have := (h2 e he).2.2.1;omega)
 simpa using this
theorem Zwt {s : St} (h : s.At) : ∀ r ∈ s.recs, r.ver ≤ 60000 := fun r hr => by
 obtain ⟨x, hx, rfl⟩ := List.mem_map.1 hr;exact (Vd (((Xf _).1 h.ok.right).2 x hx).1).2.2.2.2.2.1
theorem Zpm {s : St} (h : s.At) : s.recs.length ≤ 6 := by unfold St.recs; rw [List.length_map]; exact Zjy h
theorem Zwm (l : List Rec) (d : Dd) : (doR l d).l.length ≤ l.length + 1 := by
 unfold doR;split
 ·split
  ·rename_i i hf;simp only [List.length_append, List.length_take, List.length_drop];omega
  ·exact Nat.le_succ _
 ·split
  ·exact Nat.le_succ _
  ·split
   ·exact Nat.le_succ _
   ·simp
end Go.Proofs.YtikhknkpndhakabGreat
namespace Go.Proofs.YtikhknkpndhakabGreat
set_option maxRecDepth 100000
open Plain
def Zbn (l : List Rec) : Nat → List Int
 | 0 => []
 | k + 1 => if (Je l ((k : Int) + 1)).e = 0 then Zbn l k ++ [(k : Int) + 1] else Zbn l k
theorem Zij (l : List Rec) (fr most : Int) (hm : 0 ≤ most) : ∀ k, Vs l fr most k = ((Zbn l k).filter fun x => decide (fr ≤ x)).take most.toNat
 | 0 => by simp [Vs, Zbn]
 | k + 1 => by
  have ih := Zij l fr most hm k;unfold Vs Zbn;by_cases he : (Je l ((k : Int) + 1)).e = 0
  ·rw [if_pos he, List.filter_append];by_cases hf : fr ≤ (k : Int) + 1
   ·rw [List.filter_cons_of_pos (by exact decide_eq_true hf), List.filter_nil, List.take_append];by_cases hl : ((Vs l fr most k).length : Int) < most
    ·rw [if_pos ⟨he, hf, hl⟩, ih];rw [ih, List.length_take] at hl
     congr 1
     rw [List.take_of_length_le (by simp; omega)]
    ·rw [if_neg (fun h => hl h.2.2), ih];rw [ih, List.length_take] at hl;rw [show most.toNat - ((Zbn l k).filter fun x => decide (fr ≤ x)).length = 0 by omega];simp
   ·rw [if_neg (fun h => hf h.2.1), ih, List.filter_cons_of_neg (by simpa using hf)];simp
  ·rw [if_neg (fun h => he h.1), if_neg he, ih]
theorem Zlk (l : List Rec) : ∀ k, (∀ x ∈ Zbn l k, 1 ≤ x ∧ x ≤ (k : Int) ∧ (Je l x).e = 0) ∧ (Zbn l k).Pairwise (· < ·)
 | 0 => ⟨(fun x hx => by cases hx), List.Pairwise.nil⟩
 | k + 1 => by
  obtain ⟨h1, h2⟩ := Zlk l k;unfold Zbn;by_cases he : (Je l ((k : Int) + 1)).e = 0
  ·rw [if_pos he];refine ⟨fun x hx => ?_, List.pairwise_append.2 ⟨h2, List.pairwise_singleton _ _, fun a ha b hb => ?_⟩⟩
   ·rcases List.mem_append.1 hx with h | h
    ·have := h1 x h; exact ⟨this.1, by omega, this.2.2⟩
    ·rw [List.mem_singleton.1 h]; exact ⟨by omega, by omega, he⟩
   ·rw [List.mem_singleton.1 hb]; have := h1 a ha; omega
  ·rw [if_neg he];exact ⟨fun x hx => by have := h1 x hx; exact ⟨this.1, by omega, this.2.2⟩, h2⟩
theorem Zph (key : Int) : ∀ (l : List Rec) (g : Got), (l.foldl (Zco key) g).e = 0 → g.e = 0 ∨ ∃ r ∈ l, r.key = key
 | [], g, h => .inl h
 | r :: l, g, h => by
  by_cases hk : r.key = key
  ·exact .inr ⟨r, by simp, hk⟩
  ·have e : Zco key g r = g := by
    unfold Zco;rw [if_pos (.inl hk)]
   rw [List.foldl_cons, e] at h;rcases Zph key l g h with h1 | ⟨x, hx, h1⟩
   ·exact .inl h1
   ·exact .inr ⟨x, by simp [hx], h1⟩
end Go.Proofs.YtikhknkpndhakabGreat
