import Derived.Test.YtgaecpdokgklpacGreatInv
import Derived.Test.YtgaecpdokgklpacGreatRStep
import Derived.Deep.AppendLies
set_option maxHeartbeats 8000000
namespace Go.Proofs.YtgaecpdokgklpacGreat
set_option maxRecDepth 100000
open Plain
theorem Zk1 (e : Ent) : ∀ l : List Ent, (Zbu e l).length = l.length + 1
 | [] => rfl
 | x :: l => by
  unfold Zbu;split
  ·rfl
  ·simp [Zk1 e l]
theorem Zo4 : ∀ (l : List Ent) (i : Nat) (h : i < l.length), l.Pairwise Ups → Q3 l l[i].pair = l.take i ++ l.drop (i + 1)
 | a :: l, 0, _, hp => by
  obtain ⟨h1, _⟩ := List.pairwise_cons.1 hp;unfold Q3;simp only [List.getElem_cons_zero, List.take_zero, List.nil_append, List.drop_succ_cons, List.drop_zero];rw [List.filter_cons_of_neg (by simp), List.filter_eq_self];intro x hx;exact decide_eq_true (fun e => (h1 x hx).2 e.symm)
 | a :: l, i + 1, h, hp => by
  obtain ⟨h1, h2⟩ := List.pairwise_cons.1 hp;have hi : i < l.length := by simpa using h
  have ih := Zo4 l i hi h2;unfold Q3 at ih ⊢;simp only [List.getElem_cons_succ, List.take_succ_cons, List.drop_succ_cons, List.cons_append];rw [List.filter_cons_of_pos (by exact decide_eq_true (h1 _ (List.getElem_mem hi)).2), ih]
theorem Ze8 {s : St} (h : s.Inv) (x : Ent) : x ∈ s.idx ↔ ∃ p : Nat, p < 6 ∧ (s.dk.tell (p : Int)).kind ≠ 1 ∧ x = ⟨s.dk.tell (p : Int), (p : Int)⟩ := by rw [h.idx]; exact Vo s.dk x 6
theorem Zsk {s : St} (h : s.Inv) (r : Rec) : r ∈ s.recs ↔ ∃ p : Nat, p < 6 ∧ (s.dk.tell (p : Int)).kind ≠ 1 ∧ r = s.dk.tell (p : Int) := by
 unfold St.recs;rw [List.mem_map];constructor
 ·rintro ⟨x, hx, rfl⟩;obtain ⟨p, hp, hk, rfl⟩ := (Ze8 h x).1 hx;exact ⟨p, hp, hk, rfl⟩
 ·rintro ⟨p, hp, hk, rfl⟩;exact ⟨_, (Ze8 h _).2 ⟨p, hp, hk, rfl⟩, rfl⟩
theorem Zv0 {s : St} (h : s.Inv) : s.idx.Pairwise Ups := by rw [h.idx]; exact Zfs s.dk
theorem Zq9 {s : St} (h : s.Inv) {d : Dd} (hw : Yr d = 0) (hk : d.kind ≠ 3) (he : (doR s.recs d).e = 0) :
  ∃ p : Nat, p < 6 ∧ Xv s.idx = p ∧ doR s.recs d = ⟨s.recs ++ [Y3 d (Xz s.recs)], Xz s.recs, 0⟩ ∧ Ya (Y3 d (Xz s.recs)) = 0 ∧ (Y3 d (Xz s.recs)).kind ≠ 1 ∧ (s.dk.tell (p : Int)).kind = 1 ∧ ∀ q : Nat, q < 6 → (s.dk.tell (q : Int)).kind ≠ 1 → (s.dk.tell (q : Int)).ver ≠ (Y3 d (Xz s.recs)).ver := by
 obtain ⟨h5, hn, h6⟩ := Zdm hk he;have hl5 : s.idx.length ≤ 5 := by simpa [St.recs] using h5
 obtain ⟨hL, hL5⟩ := Za7 (l := s.idx) (by omega);have hm := Zcx (n := Xz s.recs) hw hk Ze7.1 h6;refine ⟨Xv s.idx, by omega, rfl, ?_, hm.1, hm.2, ?_, fun q hq hkq => ?_⟩
 ·unfold doR;rw [if_neg hk, if_neg (by omega), if_neg (by omega)]
 ·by_cases e : (s.dk.tell ((Xv s.idx : Nat) : Int)).kind = 1
  ·exact e
  ·exact absurd rfl (hL.2 _ ((Ze8 h _).2 ⟨_, by omega, e, rfl⟩))
 ·have := Ze7.2 _ ((Zsk h _).2 ⟨q, hq, hkq, rfl⟩);show _ ≠ Xz s.recs;omega
theorem Zlm {s : St} (h : s.Inv) {d : Dd} (hk : d.kind = 3) (he : (doR s.recs d).e = 0) :
  ∃ p : Nat, p < 6 ∧ Kb d s.idx = (p : Int) ∧ (doR s.recs d).l = (Q3 s.idx (p : Int)).map Ent.rc ∧ (doR s.recs d).n = d.num ∧ (s.dk.tell (p : Int)).kind ≠ 1 := by
 unfold doR at he ⊢;rw [if_pos hk] at he ⊢;cases hf : s.recs.findIdx? (Va d) with
 | none => rw [hf] at he; cases he
 | some i =>
  simp only;obtain ⟨hi, hfi, hlt⟩ := List.findIdx?_eq_some_iff_getElem.1 hf;have hil : i < s.idx.length := by simpa [St.recs] using hi
  have hget : s.recs[i] = s.idx[i].rc := by simp [St.recs]
  have hfind : s.idx.find? (Zbb d) = some s.idx[i] := by
   rw [List.find?_eq_some_iff_getElem];refine ⟨?_, i, hil, rfl, fun j hj => ?_⟩
   ·have : Va d s.recs[i] = true := hfi;rw [hget] at this; exact this
   ·have hjl : j < s.recs.length := by omega
    have h1 := hlt j hj;have : s.recs[j] = s.idx[j].rc := by simp [St.recs]
    rw [this] at h1;have h2 : ¬ Va d s.idx[j].rc = true := h1;show (!Va d s.idx[j].rc) = true;simpa using h2
  obtain ⟨p, hp, hkp, hx⟩ := (Ze8 h _).1 (List.getElem_mem hil);have hpair : s.idx[i].pair = (p : Int) := by rw [hx]
  refine ⟨p, hp, ?_, ?_, trivial, hkp⟩
  ·unfold Kb;rw [if_pos hk, hfind];exact hpair
  ·rw [← hpair, Zo4 s.idx i hil (Zv0 h)];simp [St.recs]
structure Zyx (s : St) (d : Dd) (p : Nat) (r : Rec) : Prop where
 p6 : p < 6
 right : Ya r = 0
 disk : (s.begin d).st.dk = s.dk.pairD (p : Int) r
 next : (s.begin d).st.next = s.next
 n : (s.begin d).n = (doR s.recs d).n
 good : ∀ x y, (s.dk.half p r x y).Good
 same : ∀ x y, (∀ q : Nat, q < 6 → (s.dk.half p r x y).tell (q : Int) = s.dk.tell (q : Int)) ∨ (Z4 (s.dk.half p r x y) 6 = (s.begin d).st.idx)
 whole : Z4 (s.dk.half p r true true) 6 = (s.begin d).st.idx
 recs : Zdz (s.begin d).st.recs (doR s.recs d).l = true
theorem Zc2 {s : St} (h : s.Inv) {d : Dd} (he : (s.begin d).e = 0) : ∃ p r, Zyx s d p r := by
 have hg := h.good;unfold St.begin at he;by_cases hw : Yr d = 0
 ·rw [if_neg (by simpa using hw)] at he;by_cases hr : (doR s.recs d).e = 0
  ·have hb : s.begin d = if d.kind = 3 then ⟨⟨s.dk.pairD (Kb d s.idx) Rec.free, Q3 s.idx (Kb d s.idx), s.next⟩, (doR s.recs d).n, 0⟩ else ⟨⟨s.dk.pairD (Xv s.idx) (Y3 d (doR s.recs d).n), Xx ⟨Y3 d (doR s.recs d).n, (Xv s.idx : Nat)⟩ s.idx, s.next⟩, (doR s.recs d).n, 0⟩ := by
    unfold St.begin;rw [if_neg (by simpa using hw), if_neg (by simpa using hr)]
   by_cases hk : d.kind = 3
   ·rw [if_pos hk] at hb;obtain ⟨p, hp, hat, hl, hn, hkp⟩ := Zlm h hk hr;rw [hat] at hb;have hoth : ∀ x y q, q < 6 → q ≠ p → (s.dk.half p Rec.free x y).tell ((q : Nat) : Int) = s.dk.tell (q : Int) := fun x y q hq hne => (Qx hg.fine hp hq hne Q4 x y).2
    have hdrop : ∀ x y, (s.dk.half p Rec.free x y).tell (p : Int) = Rec.free → Z4 (s.dk.half p Rec.free x y) 6 = Q3 s.idx (p : Int) := fun x y ht => by
     rw [h.idx]; exact Zpn (by rw [ht]; rfl) (hoth x y)
    refine ⟨p, Rec.free, hp, Q4, by rw [hb], by rw [hb], by rw [hb], fun x y => hg.free hp x y, fun x y => ?_, ?_, ?_⟩
    ·rcases (Zcf hg.fine hp (hg.three p hp) x y).2.1 with e | e
     ·left; intro q hq;by_cases eq : q = p
      ·subst eq; exact e
      ·exact hoth x y q hq eq
     ·right; rw [hb]; exact hdrop x y e
    ·rw [hb]; exact hdrop true true ((Zcf hg.fine hp (hg.three p hp) true true).2.2 rfl rfl).1
    ·rw [hb, hl]; exact Zjy _
   ·rw [if_neg hk] at hb;obtain ⟨p, hp, hlf, hdo, hwm, hkm, ht, hv⟩ := Zq9 h hw hk hr;have hn : (doR s.recs d).n = Xz s.recs := by rw [hdo]
    rw [hlf, hn] at hb;have hoth : ∀ x y q, q < 6 → q ≠ p → (s.dk.half p (Y3 d (Xz s.recs)) x y).tell ((q : Nat) : Int) = s.dk.tell (q : Int) := fun x y q hq hne => (Qx hg.fine hp hq hne hwm x y).2
    have hput : ∀ x y, (x || y) = true → Z4 (s.dk.half p (Y3 d (Xz s.recs)) x y) 6 = Xx ⟨Y3 d (Xz s.recs), (p : Int)⟩ s.idx := fun x y hxy => by
     rw [h.idx];refine Zsc hp hkm ht ?_ (hoth x y) hwm;rw [(Zk2 hg.fine hp hwm hkm (hg.three p hp) ht x y).2, if_pos hxy]
    refine ⟨p, Y3 d (Xz s.recs), hp, hwm, by rw [hb], by rw [hb], by rw [hb, hn], fun x y => hg.put hp hwm hkm ht hv x y, fun x y => ?_, ?_, ?_⟩
    ·by_cases hxy : (x || y) = true
     ·right; rw [hb]; exact hput x y hxy
     ·left;obtain ⟨rfl, rfl⟩ : x = false ∧ y = false := by simpa using hxy
      rw [Zef s.dk hg.fine]; intro _ _; rfl
    ·rw [hb]; exact hput true true rfl
    ·rw [hb, hdo];unfold Zdz;rw [Bool.and_eq_true, List.all_eq_true];refine ⟨fun r hr => ?_, decide_eq_true ?_⟩
     ·unfold Zlo;rw [List.any_eq_true];refine ⟨r, ?_, (Zaf _ _).2 rfl⟩;obtain ⟨x, hx, rfl⟩ := List.mem_map.1 hr;rcases (V6 _ _ _).1 hx with rfl | hx
      ·exact List.mem_append_right _ (by simp)
      ·exact List.mem_append_left _ (List.mem_map_of_mem hx)
     ·show ((Xx _ s.idx).map Ent.rc).length = (s.recs ++ [_]).length;rw [List.length_map, J0, Zk1];simp [St.recs]
  ·rw [if_pos (by simpa using hr)] at he; exact absurd he hr
 ·rw [if_pos (by simpa using hw)] at he; exact absurd he hw
theorem Zeh {s : St} {d : Dd} (he : (s.begin d).e ≠ 0) : (s.begin d).st = s ∧ (s.begin d).n = 0 ∧ (Yr d = 0 → (s.begin d).e = (doR s.recs d).e ∧ (doR s.recs d).l = s.recs ∧ (doR s.recs d).n = 0) ∧ (Yr d ≠ 0 → (s.begin d).e = Yr d) := by
 unfold St.begin at he ⊢;by_cases hw : Yr d = 0
 ·rw [if_neg (by simpa using hw)] at he ⊢;by_cases hr : (doR s.recs d).e = 0
  ·rw [if_neg (by simpa using hr)] at he;exfalso;split at he <;> exact he rfl
  ·rw [if_pos (by simpa using hr)];refine ⟨rfl, rfl, fun _ => ⟨rfl, ?_⟩, fun h => absurd hw h⟩;unfold doR at hr ⊢;split
   ·split
    ·rename_i h3 _ i hf; rw [if_pos h3, hf] at hr; exact absurd rfl hr
    ·exact ⟨rfl, rfl⟩
   ·rename_i h3;split
    ·exact ⟨rfl, rfl⟩
    ·split
     ·exact ⟨rfl, rfl⟩
     ·rename_i h5 h6; rw [if_neg h3, if_neg h5, if_neg h6] at hr; exact absurd rfl hr
 ·rw [if_pos (by simpa using hw)];exact ⟨rfl, rfl, fun h => absurd h hw, fun _ => rfl⟩
theorem Zg4 {s : St} {d : Dd} (he : (s.begin d).e = 0) : Yr d = 0 ∧ (doR s.recs d).e = 0 := by
 unfold St.begin at he;by_cases hw : Yr d = 0
 ·refine ⟨hw, ?_⟩;rw [if_neg (by simpa using hw)] at he;by_cases hr : (doR s.recs d).e = 0
  ·exact hr
  ·rw [if_pos (by simpa using hr)] at he; exact absurd he hr
 ·rw [if_pos (by simpa using hw)] at he; exact absurd he hw
theorem Ztx {s : St} (h : s.Inv) (d : Dd) : (s.doS d).st.Inv := by
 have hat : (s.doS d).st.At := ⟨Zwq h.at'.ok, by rw [Ze9]; exact h.at'.low, by rw [Ze9]; exact h.at'.high⟩;by_cases he : (s.begin d).e = 0
 ·obtain ⟨p, r, H⟩ := Zc2 h he;have hst : (s.doS d).st = ⟨s.dk.half p r true true, (s.begin d).st.idx, (s.begin d).st.next⟩ := by
   unfold St.doS;rw [if_pos he, H.disk, Ja h.good.fine H.p6 H.right]
  have hg := H.good true true;rw [hst] at hat ⊢;exact ⟨hat, hg.three, H.whole.symm, hg.once⟩
 ·have hst : (s.doS d).st = s := by unfold St.doS; rw [if_neg he]; exact (Zeh he).1
  rw [hst]; exact h
theorem Znm {s : St} (h : s.Inv) {d : Dd} (he : (s.begin d).e = 0) (bits : Int) : ((s.begin d).st.dk.keep bits).Good ∧ ((X6 ((s.begin d).st.dk.keep bits)).recs = s.recs ∨ Zdz (X6 ((s.begin d).st.dk.keep bits)).recs (doR s.recs d).l = true) := by
 obtain ⟨p, r, H⟩ := Zc2 h he;have hk : (s.begin d).st.dk.keep bits = s.dk.half p r (Qc bits 0) (Qc bits 1) := by rw [H.disk, Zhy h.good.fine H.p6 H.right]
 rw [hk];have hg := H.good (Qc bits 0) (Qc bits 1);refine ⟨hg, ?_⟩;unfold St.recs;rw [hg.mounted];rcases H.same (Qc bits 0) (Qc bits 1) with e | e
 ·left;show (Z4 _ 6).map Ent.rc = _;rw [Zae 6 e, h.idx]
 ·right;show Zdz ((Z4 _ 6).map Ent.rc) _ = true;rw [e]; exact H.recs
theorem Zta : Dk.new.Good := by
 have hside : ∀ a : Nat, a < 12 → Z6 Dk.new (a : Int) = Rec.free ∧ Y7 Dk.new (a : Int) = 0 := fun a ha => by
  refine Zfn ?_ Q4 (by omega) (by omega);have h1 := Zvu (a : Int) (by omega) (by omega);unfold Dk.get;rw [if_neg (by show ¬ ((a : Int) < 0 ∨ ((Dk.new.blocks.length : Nat) : Int) ≤ (a : Int)); rw [Zal.len]; omega)];show some ((Qw [] _).getD _) = _;simp only [Qw];rw [← h1]; rfl
 have hfree : ∀ p, p < 6 → Ka Dk.new p ∧ (Dk.new.tell ((p : Nat) : Int)).kind = 1 := fun p hp => by
  have h0 := hside (2 * p) (by omega);have h1 := hside (2 * p + 1) (by omega);rw [show ((2 * p : Nat) : Int) = 2 * (p : Int) by omega] at h0;rw [show ((2 * p + 1 : Nat) : Int) = 2 * (p : Int) + 1 by omega] at h1;have k0 : (Z6 Dk.new (2 * (p : Int))).kind = 1 := by rw [h0.1]; rfl
  have k1 : (Z6 Dk.new (2 * (p : Int) + 1)).kind = 1 := by rw [h1.1]; rfl
  exact ⟨.inr (.inr ⟨k0, k1, by rw [h0.2, h1.2]; omega⟩), by rw [(Vw (Xe Zal.len hp) k0 k1).1]; rfl⟩
 exact ⟨Zal, fun p hp => (hfree p hp).1, fun p q hp _ hk => absurd (hfree p hp).2 hk⟩
theorem Zvt : Xi.Inv := Zta.mount
theorem Zfj {s : St} (h : s.Inv) {x : Sp} (hx : Vf s x = true) : (s.step x).st.Inv := by
 have hg := h.good;have hat := Zc6 (x := x) h.at';unfold St.step at hat ⊢;split at hat
 ·rw [if_pos (by assumption)]; exact Ztx h x.deed
 ·rename_i k1;rw [if_neg k1];split at hat
  ·rename_i k2;rw [if_pos k2];by_cases he : (s.begin x.deed).e = 0
   ·rw [if_neg (by simpa using he)];exact (Znm h he x.n).1.mount
   ·rw [if_pos he]; exact h
  ·rename_i k2;rw [if_neg k2];split at hat
   ·rename_i k3;rw [if_pos k3];by_cases hr : x.n < 0 ∨ 192 ≤ x.n
    ·rw [if_pos hr]; exact h
    ·rw [if_neg hr] at hat ⊢;have hlow : s.dk.how (x.n / 32) < 2 := by
      unfold Vf at hx;rw [if_neg (by omega)] at hx;exact of_decide_eq_true hx
     have c1 : (((x.n / 32).toNat : Nat) : Int) = x.n / 32 := by omega
     have c2 : (((x.n / 16).toNat : Nat) : Int) = x.n / 16 := by omega
     obtain ⟨h1, h2⟩ := hg.spoilt (p := (x.n / 32).toNat) (a := (x.n / 16).toNat) (by omega) (by omega) (by rw [c1]; exact hlow) (x.n % 16) x.m (by omega) (by omega);rw [c2] at h1 h2;exact ⟨hat, h1.three, by show s.idx = Z4 _ 6; rw [Zae 6 h2, h.idx], h1.once⟩
   ·rename_i k3;rw [if_neg k3];split at hat
    ·rename_i k4;rw [if_pos k4];have c1 : ((s.next.toNat : Nat) : Int) = s.next := by have := h.at'.low; omega
     obtain ⟨h1, h2⟩ := hg.mend (p := s.next.toNat) (by have := h.at'.high; omega);rw [c1] at h1 h2;exact ⟨hat, h1.three, rfl, h1.once⟩
    ·rename_i k4;rw [if_neg k4];split at hat
     ·rename_i k5;rw [if_pos k5]; exact hg.cleaned.1.mount
     ·rename_i k5;rw [if_neg k5];split at hat
      ·rename_i k6;rw [if_pos k6]; exact hg.mount
      ·rename_i k6;rw [if_neg k6]; exact h
end Go.Proofs.YtgaecpdokgklpacGreat
namespace Go.Proofs.YtgaecpdokgklpacGreat
set_option maxRecDepth 100000
open Go.RowKit
open Plain Reg
def K9 (a : St × List Int × List Int) (x : Sp) : St × List Int × List Int := ((a.1.step x).st, a.2.1 ++ [(a.1.step x).e], a.2.2 ++ [(a.1.step x).n])
def Qo (l : List Sp) : St × List Int × List Int := l.foldl K9 (Xi, [], [])
theorem Zkh (l : List Sp) (k : Nat) (h : k < l.length) : Qo (l.take (k + 1)) = K9 (Qo (l.take k)) l[k] := by
 unfold Qo;rw [List.take_succ_eq_append_getElem h, List.foldl_append]; rfl
theorem Zm0 (l : List Sp) : ∀ a : St × List Int × List Int, (l.foldl K9 a).2.1.length = a.2.1.length + l.length ∧ (l.foldl K9 a).2.2.length = a.2.2.length + l.length := by
 induction l with
 | nil => intro a; simp
 | cons x l ih =>
  intro a;obtain ⟨h1, h2⟩ := ih (K9 a x);simp only [List.foldl_cons, List.length_cons];rw [h1, h2];simp [K9];omega
theorem Zvm (l : List Sp) : ∀ a : St × List Int × List Int, a.1.At → (l.foldl K9 a).1.At := by
 induction l with
 | nil => intro a h; exact h
 | cons x l ih => intro a h; exact ih _ (Zc6 h)
def iv (x : Int) : Value := .int .i64 x
theorem Zni : (Tryz.prog.info? 50).map (fun i => (i.zero, i.size, i.bytes)) = some (some (.int .i64 0), 1, 8) := by kernel_rfl
theorem Zgq : ∀ (n : Nat) (s : St) (l : List Sp), s.Inv → (K2 n s l).Inv
 | 0, s, _, h => h
 | n + 1, s, [], h => h
 | n + 1, s, x :: l, h => by
  unfold K2;split
  ·rename_i hg; exact Zgq n _ l (Zfj h hg)
  ·exact h
theorem Zt2 {s : St} (h : s.At) : s.idx.length ≤ 6 := by
 obtain ⟨h1, h2⟩ := (Xq _).1 h.ok.right;have hn : (s.idx.map fun x => x.pair.toNat).Nodup := by
  rw [List.nodup_iff_pairwise_ne, List.pairwise_map];refine List.Pairwise.imp_of_mem ?_ h1;intro a b ha hb hu e;have ha0 := (h2 a ha).2.2.1;have hb0 := (h2 b hb).2.2.1;exact hu.2 (by omega)
 have := Ze3 _ (List.range 6) hn (fun x hx => by
  obtain ⟨e, he, rfl⟩ := List.mem_map.1 hx;have := h.ok.six e he;rw [List.mem_range];have := (h2 e he).2.2.1;omega)
 simpa using this
theorem Zwg {s : St} (h : s.At) : s.recs.length ≤ 6 := by unfold St.recs; rw [List.length_map]; exact Zt2 h
theorem Z0.any {S : Nat → Prop} {s : St} {v : Value} {w : World} (h : Z0 S s v w) : Z0 (fun _ => True) s v w := h.mono fun _ _ => trivial
theorem Z0.now {s : St} {v : Value} {w : World} (h : Z0 (fun _ => True) s v w) : Z0 (fun b => b < w.heap.size) s v w := h.capd.mono fun _ h => h.2
theorem Zkm {w : World} {base n : Nat} {e : TypeId} {v : Value} {xs : List Value} (h : w.ownsRow base e 1 v n xs) (hn : 0 < n) : ∃ g c, v = .slice (some ⟨g, 0, none⟩) n c ∧ base ≤ g ∧ g < w.heap.size := by
 rcases h.2 with ⟨_, h0⟩ | ⟨g, c, cur, h1, h2, h3, _⟩
 ·omega
 ·exact ⟨g, c, h1, h2, Za h3⟩
def Zud : Prop := ∀ (S : Nat → Prop) (s : St) (x : Sp) (v : Value) (ad : Option Addr) (c : Nat) (w : World), (∀ b, S b → b < w.heap.size) → Z0 S s v w → Zz S w (.slice ad x.deed.data.length c) x.deed.data → s.At → x.deed.data.length ≤ 140737488355328 →
 Calls Tryz.prog 17 #[v, .agg #[.int .i64 x.kind, .int .i64 x.n, .int .i64 x.m, .int .i64 x.deed.kind, .int .i64 x.deed.key, .int .i64 x.deed.num, .slice ad x.deed.data.length c]] w fun r w' => ∃ v', r = .returned (.tuple #[v', .int .i64 (s.step x).n, .int .i64 (s.step x).e]) ∧ Z0 (Zs S w.heap.size) (s.step x).st v' w' ∧ Zn w w'
def Zo7 : Prop := ∀ (S : Nat → Prop) (l : List Sp) (v : Value) (w : World), (∀ b, S b → b < w.heap.size) → Zbg S w v l → l.length ≤ 100 → (∀ x ∈ l, x.deed.data.length ≤ 140737488355328) →
 Calls Tryz.prog 16 #[v] w fun r w' => ∃ v' ev nv, r = .returned (.tuple #[v', ev, nv, .int .i64 0]) ∧ Z0 (Zs S w.heap.size) (Qo l).1 v' w' ∧ w'.ownsRow w.heap.size 50 1 ev (Qo l).2.1.length ((Qo l).2.1.map iv) ∧ w'.ownsRow w.heap.size 3 1 nv (Qo l).2.2.length ((Qo l).2.2.map iv) ∧ Zn w w'
def Zg6 : Prop := ∀ w : World, Calls Tryz.prog 19 #[] w fun r w' => r = .returned (.bool true) ∧ Zn w w'
end Go.Proofs.YtgaecpdokgklpacGreat
namespace Go.Proofs.YtgaecpdokgklpacGreat
set_option maxRecDepth 100000
open Plain
theorem Zln {s : St} (h : s.At) {d : Dd} (he : (s.begin d).e = 0) {r : Rec} (hr : r ∈ s.recs) (hn : ¬ (d.kind = 3 ∧ d.key = r.key ∧ d.num = r.ver)) : r ∈ (s.begin d).st.recs := by
 obtain ⟨hw, hd⟩ := Zg4 he;have hb : s.begin d = if d.kind = 3 then ⟨⟨s.dk.pairD (Kb d s.idx) Rec.free, Q3 s.idx (Kb d s.idx), s.next⟩, (doR s.recs d).n, 0⟩ else ⟨⟨s.dk.pairD (Xv s.idx) (Y3 d (doR s.recs d).n), Xx ⟨Y3 d (doR s.recs d).n, (Xv s.idx : Nat)⟩ s.idx, s.next⟩, (doR s.recs d).n, 0⟩ := by
  unfold St.begin;rw [if_neg (by simpa using hw), if_neg (by simpa using hd)]
 obtain ⟨x, hx, rfl⟩ := List.mem_map.1 hr;rw [hb];by_cases hk : d.kind = 3
 ·rw [if_pos hk];obtain ⟨y, hf, ha⟩ := Zfx hk hd;rw [ha];refine List.mem_map.2 ⟨x, List.mem_filter.2 ⟨hx, decide_eq_true fun hp => ?_⟩, rfl⟩;have hy := List.mem_of_find?_eq_some hf;have hq : y.rc.key = d.key ∧ y.rc.ver = d.num := by
   have := List.find?_some (show s.idx.find? (fun x => decide (x.rc.key = d.key ∧ x.rc.ver = d.num)) = some y from hf);exact of_decide_eq_true this
  have hup := ((Xq s.idx).1 h.ok.right).1;have hxy : x = y := by
   obtain ⟨i, hi, rfl⟩ := List.mem_iff_getElem.1 hx;obtain ⟨j, hj, rfl⟩ := List.mem_iff_getElem.1 hy;rcases Nat.lt_trichotomy i j with hl | hl | hl
   ·exact absurd hp (List.pairwise_iff_getElem.1 hup i j hi hj hl).2
   ·subst hl; rfl
   ·exact absurd hp.symm (List.pairwise_iff_getElem.1 hup j i hj hi hl).2
  subst hxy;exact hn ⟨hk, hq.1.symm, hq.2.symm⟩
 ·rw [if_neg hk];exact List.mem_map.2 ⟨x, (V6 _ _ _).2 (.inr hx), rfl⟩
theorem Zph {s : St} (h : s.Inv) {x : Sp} (hx : Vf s x = true) : (s.step x).st.recs = s.recs ∨ (x.kind = 1 ∨ x.kind = 2) ∧ (s.begin x.deed).e = 0 ∧ (s.step x).st.recs = (s.begin x.deed).st.recs := by
 have hg := h.good;have hi := Zfj h hx;have same : (∀ q : Nat, q < 6 → (s.step x).st.dk.tell (q : Int) = s.dk.tell (q : Int)) → (s.step x).st.recs = s.recs := fun ht => by
  unfold St.recs;rw [hi.idx, h.idx, Zae 6 ht]
 by_cases k1 : x.kind = 1
 ·have hs : s.step x = s.doS x.deed := by unfold St.step; rw [if_pos k1]
  rw [hs];by_cases he : (s.begin x.deed).e = 0
  ·exact .inr ⟨.inl k1, he, by unfold St.doS; rw [if_pos he]; rfl⟩
  ·left; unfold St.doS; rw [if_neg he, (Zeh he).1]
 ·by_cases k2 : x.kind = 2
  ·by_cases he : (s.begin x.deed).e = 0
   ·have hs : (s.step x).st = X6 ((s.begin x.deed).st.dk.keep x.n) := by unfold St.step; rw [if_neg k1, if_pos k2, if_neg (by simpa using he)]
    obtain ⟨p, r, H⟩ := Zc2 h he;have hk : (s.begin x.deed).st.dk.keep x.n = s.dk.half p r (Qc x.n 0) (Qc x.n 1) := by rw [H.disk, Zhy h.good.fine H.p6 H.right]
    have hg2 := H.good (Qc x.n 0) (Qc x.n 1);rw [hs, hk];unfold St.recs;rw [hg2.mounted];rcases H.same (Qc x.n 0) (Qc x.n 1) with e | e
    ·left;show (Z4 _ 6).map Ent.rc = _;rw [Zae 6 e, h.idx]
    ·right;refine ⟨.inr k2, he, ?_⟩;show (Z4 _ 6).map Ent.rc = _;rw [e]
   ·left;have hs : (s.step x).st = s := by unfold St.step; rw [if_neg k1, if_pos k2, if_pos he]
    rw [hs]
  ·left;by_cases k3 : x.kind = 3
   ·have hs : (s.step x).st.idx = s.idx := by
     unfold St.step;rw [if_neg k1, if_neg k2, if_pos k3];split <;> rfl
    unfold St.recs;rw [hs]
   ·by_cases k4 : x.kind = 4
    ·refine same fun q hq => ?_;have hs : (s.step x).st = s.scrub := by unfold St.step; rw [if_neg k1, if_neg k2, if_neg k3, if_pos k4]
     rw [hs];have c1 : ((s.next.toNat : Nat) : Int) = s.next := by have := h.at'.low; omega
     have := (hg.mend (p := s.next.toNat) (by have := h.at'.high; omega)).2 q hq;rw [c1] at this;exact this
    ·by_cases k5 : x.kind = 5
     ·refine same fun q hq => ?_;have hs : (s.step x).st = X6 s.dk.clean := by unfold St.step; rw [if_neg k1, if_neg k2, if_neg k3, if_neg k4, if_pos k5]
      obtain ⟨h1, h2⟩ := hg.cleaned;rw [hs, h1.mounted];exact h2 q hq
     ·by_cases k6 : x.kind = 6
      ·refine same fun q _ => ?_;have hs : (s.step x).st = X6 s.dk := by unfold St.step; rw [if_neg k1, if_neg k2, if_neg k3, if_neg k4, if_neg k5, if_pos k6]
       rw [hs, hg.mounted]
      ·have hs : (s.step x).st = s := by unfold St.step; rw [if_neg k1, if_neg k2, if_neg k3, if_neg k4, if_neg k5, if_neg k6]
       rw [hs]
theorem Zl5 {s : St} (h : s.Inv) {x : Sp} (hx : Vf s x = true) {r : Rec} (hr : r ∈ s.recs) (hn : ¬ ((x.kind = 1 ∨ x.kind = 2) ∧ x.deed.kind = 3 ∧ x.deed.key = r.key ∧ x.deed.num = r.ver)) : r ∈ (s.step x).st.recs := by
 rcases Zph h hx with e | ⟨hk, he, e⟩
 ·rw [e]; exact hr
 ·rw [e]; exact Zln h.at' he hr fun hd => hn ⟨hk, hd⟩
theorem Zv8 {s : St} {d : Dd} (hk : d.kind ≠ 3) (he : (s.doS d).e = 0) : Y3 d (s.doS d).n ∈ (s.doS d).st.recs := by
 have he0 : (s.begin d).e = 0 := by
  unfold St.doS at he;by_cases hb : (s.begin d).e = 0
  ·exact hb
  ·rw [if_neg hb] at he; exact absurd he hb
 obtain ⟨hw, hd⟩ := Zg4 he0;have hb : s.begin d = ⟨⟨s.dk.pairD (Xv s.idx) (Y3 d (doR s.recs d).n), Xx ⟨Y3 d (doR s.recs d).n, (Xv s.idx : Nat)⟩ s.idx, s.next⟩, (doR s.recs d).n, 0⟩ := by
  unfold St.begin;rw [if_neg (by simpa using hw), if_neg (by simpa using hd), if_neg hk]
 unfold St.doS;rw [if_pos he0, hb];exact List.mem_map.2 ⟨_, (V6 _ _ _).2 (.inl rfl), rfl⟩
end Go.Proofs.YtgaecpdokgklpacGreat
