import Derived.Test.YtgaecpdokgklpacGreatInv
import Derived.Test.YtgaecpdokgklpacGreatRStep
import Derived.Deep.AppendLies
set_option maxHeartbeats 8000000
namespace Go.Proofs.YtgaecpdokgklpacGreat
set_option maxRecDepth 100000
open Plain
theorem Zk5 (e : Ent) : ∀ l : List Ent, (Zbt e l).length = l.length + 1
 | [] => rfl
 | x :: l => by
  unfold Zbt;split
  ·rfl
  ·simp [Zk5 e l]
theorem Zo6 : ∀ (l : List Ent) (i : Nat) (h : i < l.length), l.Pairwise Ups → Q5 l l[i].pair = l.take i ++ l.drop (i + 1)
 | a :: l, 0, _, hp => by
  obtain ⟨h1, _⟩ := List.pairwise_cons.1 hp;unfold Q5;simp only [List.getElem_cons_zero, List.take_zero, List.nil_append, List.drop_succ_cons, List.drop_zero];rw [List.filter_cons_of_neg (by simp), List.filter_eq_self];intro x hx;exact decide_eq_true (fun e => (h1 x hx).2 e.symm)
 | a :: l, i + 1, h, hp => by
  obtain ⟨h1, h2⟩ := List.pairwise_cons.1 hp;have hi : i < l.length := by simpa using h
  have ih := Zo6 l i hi h2;unfold Q5 at ih ⊢;simp only [List.getElem_cons_succ, List.take_succ_cons, List.drop_succ_cons, List.cons_append];rw [List.filter_cons_of_pos (by exact decide_eq_true (h1 _ (List.getElem_mem hi)).2), ih]
theorem Ze9 {s : St} (h : s.Inv) (x : Ent) : x ∈ s.idx ↔ ∃ p : Nat, p < 6 ∧ (s.dk.tell (p : Int)).kind ≠ 1 ∧ x = ⟨s.dk.tell (p : Int), (p : Int)⟩ := by rw [h.idx]; exact Vn s.dk x 6
theorem Zso {s : St} (h : s.Inv) (r : Rec) : r ∈ s.recs ↔ ∃ p : Nat, p < 6 ∧ (s.dk.tell (p : Int)).kind ≠ 1 ∧ r = s.dk.tell (p : Int) := by
 unfold St.recs;rw [List.mem_map];constructor
 ·rintro ⟨x, hx, rfl⟩;obtain ⟨p, hp, hk, rfl⟩ := (Ze9 h x).1 hx;exact ⟨p, hp, hk, rfl⟩
 ·rintro ⟨p, hp, hk, rfl⟩;exact ⟨_, (Ze9 h _).2 ⟨p, hp, hk, rfl⟩, rfl⟩
theorem Zv2 {s : St} (h : s.Inv) : s.idx.Pairwise Ups := by rw [h.idx]; exact Zfs s.dk
theorem Zrc {s : St} (h : s.Inv) {d : Dd} (hw : Yr d = 0) (hk : d.kind ≠ 3) (he : (doR s.recs d).e = 0) :
  ∃ p : Nat, p < 6 ∧ X7 s.idx = p ∧ doR s.recs d = ⟨s.recs ++ [Xw d (Xx s.recs)], Xx s.recs, 0⟩ ∧ Ya (Xw d (Xx s.recs)) = 0 ∧ (Xw d (Xx s.recs)).kind ≠ 1 ∧ (s.dk.tell (p : Int)).kind = 1 ∧ ∀ q : Nat, q < 6 → (s.dk.tell (q : Int)).kind ≠ 1 → (s.dk.tell (q : Int)).ver ≠ (Xw d (Xx s.recs)).ver := by
 obtain ⟨h5, hn, h6⟩ := Zdk hk he;have hl5 : s.idx.length ≤ 5 := by simpa [St.recs] using h5
 obtain ⟨hL, hL5⟩ := Za7 (l := s.idx) (by omega);have hm := Zcw (n := Xx s.recs) hw hk Ze8.1 h6;refine ⟨X7 s.idx, by omega, rfl, ?_, hm.1, hm.2, ?_, fun q hq hkq => ?_⟩
 ·unfold doR;rw [if_neg hk, if_neg (by omega), if_neg (by omega)]
 ·by_cases e : (s.dk.tell ((X7 s.idx : Nat) : Int)).kind = 1
  ·exact e
  ·exact absurd rfl (hL.2 _ ((Ze9 h _).2 ⟨_, by omega, e, rfl⟩))
 ·have := Ze8.2 _ ((Zso h _).2 ⟨q, hq, hkq, rfl⟩);show _ ≠ Xx s.recs;omega
theorem Zlq {s : St} (h : s.Inv) {d : Dd} (hk : d.kind = 3) (he : (doR s.recs d).e = 0) :
  ∃ p : Nat, p < 6 ∧ Ke d s.idx = (p : Int) ∧ (doR s.recs d).l = (Q5 s.idx (p : Int)).map Ent.rc ∧ (doR s.recs d).n = d.num ∧ (s.dk.tell (p : Int)).kind ≠ 1 := by
 unfold doR at he ⊢;rw [if_pos hk] at he ⊢;cases hf : s.recs.findIdx? (Va d) with
 | none => rw [hf] at he; cases he
 | some i =>
  simp only;obtain ⟨hi, hfi, hlt⟩ := List.findIdx?_eq_some_iff_getElem.1 hf;have hil : i < s.idx.length := by simpa [St.recs] using hi
  have hget : s.recs[i] = s.idx[i].rc := by simp [St.recs]
  have hfind : s.idx.find? (Zbb d) = some s.idx[i] := by
   rw [List.find?_eq_some_iff_getElem];refine ⟨?_, i, hil, rfl, fun j hj => ?_⟩
   ·have : Va d s.recs[i] = true := hfi;rw [hget] at this; exact this
   ·have hjl : j < s.recs.length := by omega
    have h1 := hlt j hj;have : s.recs[j] = s.idx[j].rc := by simp [St.recs]
    rw [this] at h1;have h2 : ¬ Va d s.idx[j].rc = true := h1;show (!Va d s.idx[j].rc) = true;simpa using h2
  obtain ⟨p, hp, hkp, hx⟩ := (Ze9 h _).1 (List.getElem_mem hil);have hpair : s.idx[i].pair = (p : Int) := by rw [hx]
  refine ⟨p, hp, ?_, ?_, trivial, hkp⟩
  ·unfold Ke;rw [if_pos hk, hfind];exact hpair
  ·rw [← hpair, Zo6 s.idx i hil (Zv2 h)];simp [St.recs]
structure Zyx (s : St) (d : Dd) (p : Nat) (r : Rec) : Prop where
 p6 : p < 6
 right : Ya r = 0
 disk : (s.begin d).st.dk = s.dk.pairD (p : Int) r
 next : (s.begin d).st.next = s.next
 n : (s.begin d).n = (doR s.recs d).n
 good : ∀ x y, (s.dk.half p r x y).Good
 same : ∀ x y, (∀ q : Nat, q < 6 → (s.dk.half p r x y).tell (q : Int) = s.dk.tell (q : Int)) ∨ (Z5 (s.dk.half p r x y) 6 = (s.begin d).st.idx)
 whole : Z5 (s.dk.half p r true true) 6 = (s.begin d).st.idx
 recs : Zdy (s.begin d).st.recs (doR s.recs d).l = true
theorem Zg4 {s : St} (h : s.Inv) {d : Dd} (he : (s.begin d).e = 0) : ∃ p r, Zyx s d p r := by
 have hg := h.good;unfold St.begin at he;by_cases hw : Yr d = 0
 ·rw [if_neg (by simpa using hw)] at he;by_cases hr : (doR s.recs d).e = 0
  ·have hb : s.begin d = if d.kind = 3 then ⟨⟨s.dk.pairD (Ke d s.idx) Rec.free, Q5 s.idx (Ke d s.idx), s.next⟩, (doR s.recs d).n, 0⟩ else ⟨⟨s.dk.pairD (X7 s.idx) (Xw d (doR s.recs d).n), X4 ⟨Xw d (doR s.recs d).n, (X7 s.idx : Nat)⟩ s.idx, s.next⟩, (doR s.recs d).n, 0⟩ := by
    unfold St.begin;rw [if_neg (by simpa using hw), if_neg (by simpa using hr)]
   by_cases hk : d.kind = 3
   ·rw [if_pos hk] at hb;obtain ⟨p, hp, hat, hl, hn, hkp⟩ := Zlq h hk hr;rw [hat] at hb;have hoth : ∀ x y q, q < 6 → q ≠ p → (s.dk.half p Rec.free x y).tell ((q : Nat) : Int) = s.dk.tell (q : Int) := fun x y q hq hne => (Qx hg.fine hp hq hne Q4 x y).2
    have hdrop : ∀ x y, (s.dk.half p Rec.free x y).tell (p : Int) = Rec.free → Z5 (s.dk.half p Rec.free x y) 6 = Q5 s.idx (p : Int) := fun x y ht => by
     rw [h.idx]; exact Zpo (by rw [ht]; rfl) (hoth x y)
    refine ⟨p, Rec.free, hp, Q4, by rw [hb], by rw [hb], by rw [hb], fun x y => hg.free hp x y, fun x y => ?_, ?_, ?_⟩
    ·rcases (Zce hg.fine hp (hg.three p hp) x y).2.1 with e | e
     ·left; intro q hq;by_cases eq : q = p
      ·subst eq; exact e
      ·exact hoth x y q hq eq
     ·right; rw [hb]; exact hdrop x y e
    ·rw [hb]; exact hdrop true true ((Zce hg.fine hp (hg.three p hp) true true).2.2 rfl rfl).1
    ·rw [hb, hl]; exact Zj1 _
   ·rw [if_neg hk] at hb;obtain ⟨p, hp, hlf, hdo, hwm, hkm, ht, hv⟩ := Zrc h hw hk hr;have hn : (doR s.recs d).n = Xx s.recs := by rw [hdo]
    rw [hlf, hn] at hb;have hoth : ∀ x y q, q < 6 → q ≠ p → (s.dk.half p (Xw d (Xx s.recs)) x y).tell ((q : Nat) : Int) = s.dk.tell (q : Int) := fun x y q hq hne => (Qx hg.fine hp hq hne hwm x y).2
    have hput : ∀ x y, (x || y) = true → Z5 (s.dk.half p (Xw d (Xx s.recs)) x y) 6 = X4 ⟨Xw d (Xx s.recs), (p : Int)⟩ s.idx := fun x y hxy => by
     rw [h.idx];refine Zsg hp hkm ht ?_ (hoth x y) hwm;rw [(Zk6 hg.fine hp hwm hkm (hg.three p hp) ht x y).2, if_pos hxy]
    refine ⟨p, Xw d (Xx s.recs), hp, hwm, by rw [hb], by rw [hb], by rw [hb, hn], fun x y => hg.put hp hwm hkm ht hv x y, fun x y => ?_, ?_, ?_⟩
    ·by_cases hxy : (x || y) = true
     ·right; rw [hb]; exact hput x y hxy
     ·left;obtain ⟨rfl, rfl⟩ : x = false ∧ y = false := by simpa using hxy
      rw [Zeg s.dk hg.fine]; intro _ _; rfl
    ·rw [hb]; exact hput true true rfl
    ·rw [hb, hdo];unfold Zdy;rw [Bool.and_eq_true, List.all_eq_true];refine ⟨fun r hr => ?_, decide_eq_true ?_⟩
     ·unfold Zlr;rw [List.any_eq_true];refine ⟨r, ?_, (V4 _ _).2 rfl⟩;obtain ⟨x, hx, rfl⟩ := List.mem_map.1 hr;rcases (J0 _ _ _).1 hx with rfl | hx
      ·exact List.mem_append_right _ (by simp)
      ·exact List.mem_append_left _ (List.mem_map_of_mem hx)
     ·show ((X4 _ s.idx).map Ent.rc).length = (s.recs ++ [_]).length;rw [List.length_map, Jz, Zk5];simp [St.recs]
  ·rw [if_pos (by simpa using hr)] at he; exact absurd he hr
 ·rw [if_pos (by simpa using hw)] at he; exact absurd he hw
theorem Zre {s : St} {d : Dd} (he : (s.begin d).e ≠ 0) : (s.begin d).st = s ∧ (s.begin d).n = 0 ∧ (Yr d = 0 → (s.begin d).e = (doR s.recs d).e ∧ (doR s.recs d).l = s.recs ∧ (doR s.recs d).n = 0) ∧ (Yr d ≠ 0 → (s.begin d).e = Yr d) := by
 unfold St.begin at he ⊢;by_cases hw : Yr d = 0
 ·rw [if_neg (by simpa using hw)] at he ⊢;by_cases hr : (doR s.recs d).e = 0
  ·rw [if_neg (by simpa using hr)] at he;exfalso;split at he <;> exact he rfl
  ·rw [if_pos (by simpa using hr)];refine ⟨rfl, rfl, fun _ => ⟨rfl, ?_⟩, fun h => absurd hw h⟩;unfold doR at hr ⊢;split
   ·split
    ·rename_i h3 _ i hf; rw [if_pos h3, hf] at hr; exact absurd rfl hr
    ·exact ⟨rfl, rfl⟩
   ·rename_i h3;split
    ·exact ⟨rfl, rfl⟩
    ·split
     ·exact ⟨rfl, rfl⟩
     ·rename_i h5 h6; rw [if_neg h3, if_neg h5, if_neg h6] at hr; exact absurd rfl hr
 ·rw [if_pos (by simpa using hw)];exact ⟨rfl, rfl, fun h => absurd h hw, fun _ => rfl⟩
theorem Zxs {s : St} (h : s.Inv) (d : Dd) : (s.doS d).st.Inv := by
 have hat : (s.doS d).st.At := ⟨Zwo h.at'.ok, by rw [Zfa]; exact h.at'.low, by rw [Zfa]; exact h.at'.high⟩;by_cases he : (s.begin d).e = 0
 ·obtain ⟨p, r, H⟩ := Zg4 h he;have hst : (s.doS d).st = ⟨s.dk.half p r true true, (s.begin d).st.idx, (s.begin d).st.next⟩ := by
   unfold St.doS;rw [if_pos he, H.disk, Jb h.good.fine H.p6 H.right]
  have hg := H.good true true;rw [hst] at hat ⊢;exact ⟨hat, hg.three, H.whole.symm, hg.once⟩
 ·have hst : (s.doS d).st = s := by unfold St.doS; rw [if_neg he]; exact (Zre he).1
  rw [hst]; exact h
theorem Zno {s : St} (h : s.Inv) {d : Dd} (he : (s.begin d).e = 0) (bits : Int) : ((s.begin d).st.dk.keep bits).Good ∧ ((X2 ((s.begin d).st.dk.keep bits)).recs = s.recs ∨ Zdy (X2 ((s.begin d).st.dk.keep bits)).recs (doR s.recs d).l = true) := by
 obtain ⟨p, r, H⟩ := Zg4 h he;have hk : (s.begin d).st.dk.keep bits = s.dk.half p r (Qy bits 0) (Qy bits 1) := by rw [H.disk, Zp6 h.good.fine H.p6 H.right]
 rw [hk];have hg := H.good (Qy bits 0) (Qy bits 1);refine ⟨hg, ?_⟩;unfold St.recs;rw [hg.mounted];rcases H.same (Qy bits 0) (Qy bits 1) with e | e
 ·left;show (Z5 _ 6).map Ent.rc = _;rw [Zdx 6 e, h.idx]
 ·right;show Zdy ((Z5 _ 6).map Ent.rc) _ = true;rw [e]; exact H.recs
theorem Zte : Dk.new.Good := by
 have hside : ∀ a : Nat, a < 12 → Z6 Dk.new (a : Int) = Rec.free ∧ Y7 Dk.new (a : Int) = 0 := fun a ha => by
  refine Zfn ?_ Q4 (by omega) (by omega);have h1 := Zvv (a : Int) (by omega) (by omega);unfold Dk.get;rw [if_neg (by show ¬ ((a : Int) < 0 ∨ ((Dk.new.blocks.length : Nat) : Int) ≤ (a : Int)); rw [Zal.len]; omega)];show some ((Qw [] _).getD _) = _;simp only [Qw];rw [← h1]; rfl
 have hfree : ∀ p, p < 6 → Ka Dk.new p ∧ (Dk.new.tell ((p : Nat) : Int)).kind = 1 := fun p hp => by
  have h0 := hside (2 * p) (by omega);have h1 := hside (2 * p + 1) (by omega);rw [show ((2 * p : Nat) : Int) = 2 * (p : Int) by omega] at h0;rw [show ((2 * p + 1 : Nat) : Int) = 2 * (p : Int) + 1 by omega] at h1;have k0 : (Z6 Dk.new (2 * (p : Int))).kind = 1 := by rw [h0.1]; rfl
  have k1 : (Z6 Dk.new (2 * (p : Int) + 1)).kind = 1 := by rw [h1.1]; rfl
  exact ⟨.inr (.inr ⟨k0, k1, by rw [h0.2, h1.2]; omega⟩), by rw [(Vv (Xe Zal.len hp) k0 k1).1]; rfl⟩
 exact ⟨Zal, fun p hp => (hfree p hp).1, fun p q hp _ hk => absurd (hfree p hp).2 hk⟩
theorem Zvu : Xi.Inv := Zte.mount
theorem Zju {s : St} (h : s.Inv) {x : Sp} (hx : Vy s x = true) : (s.step x).st.Inv := by
 have hg := h.good;have hat := Zc5 (x := x) h.at';unfold St.step at hat ⊢;split at hat
 ·rw [if_pos (by assumption)]; exact Zxs h x.deed
 ·rename_i k1;rw [if_neg k1];split at hat
  ·rename_i k2;rw [if_pos k2];by_cases he : (s.begin x.deed).e = 0
   ·rw [if_neg (by simpa using he)];exact (Zno h he x.n).1.mount
   ·rw [if_pos he]; exact h
  ·rename_i k2;rw [if_neg k2];split at hat
   ·rename_i k3;rw [if_pos k3];by_cases hr : x.n < 0 ∨ 192 ≤ x.n
    ·rw [if_pos hr]; exact h
    ·rw [if_neg hr] at hat ⊢;have hlow : s.dk.how (x.n / 32) < 2 := by
      unfold Vy at hx;rw [if_neg (by omega)] at hx;exact of_decide_eq_true hx
     have c1 : (((x.n / 32).toNat : Nat) : Int) = x.n / 32 := by omega
     have c2 : (((x.n / 16).toNat : Nat) : Int) = x.n / 16 := by omega
     obtain ⟨h1, h2⟩ := hg.spoilt (p := (x.n / 32).toNat) (a := (x.n / 16).toNat) (by omega) (by omega) (by rw [c1]; exact hlow) (x.n % 16) x.m (by omega) (by omega);rw [c2] at h1 h2;exact ⟨hat, h1.three, by show s.idx = Z5 _ 6; rw [Zdx 6 h2, h.idx], h1.once⟩
   ·rename_i k3;rw [if_neg k3];split at hat
    ·rename_i k4;rw [if_pos k4];have c1 : ((s.next.toNat : Nat) : Int) = s.next := by have := h.at'.low; omega
     obtain ⟨h1, h2⟩ := hg.mend (p := s.next.toNat) (by have := h.at'.high; omega);rw [c1] at h1 h2;exact ⟨hat, h1.three, rfl, h1.once⟩
    ·rename_i k4;rw [if_neg k4];split at hat
     ·rename_i k5;rw [if_pos k5]; exact hg.cleaned.1.mount
     ·rename_i k5;rw [if_neg k5];split at hat
      ·rename_i k6;rw [if_pos k6]; exact hg.mount
      ·rename_i k6;rw [if_neg k6]; exact h
end Go.Proofs.YtgaecpdokgklpacGreat
namespace Go.Proofs.YtgaecpdokgklpacGreat
set_option maxRecDepth 100000
open Go.RowKit
open Plain Reg
def Ja (a : St × List Int × List Int) (x : Sp) : St × List Int × List Int := ((a.1.step x).st, a.2.1 ++ [(a.1.step x).e], a.2.2 ++ [(a.1.step x).n])
def Qn (l : List Sp) : St × List Int × List Int := l.foldl Ja (Xi, [], [])
theorem Zkl (l : List Sp) (k : Nat) (h : k < l.length) : Qn (l.take (k + 1)) = Ja (Qn (l.take k)) l[k] := by
 unfold Qn;rw [List.take_succ_eq_append_getElem h, List.foldl_append]; rfl
theorem Zm0 (l : List Sp) : ∀ a : St × List Int × List Int, (l.foldl Ja a).2.1.length = a.2.1.length + l.length ∧ (l.foldl Ja a).2.2.length = a.2.2.length + l.length := by
 induction l with
 | nil => intro a; simp
 | cons x l ih =>
  intro a;obtain ⟨h1, h2⟩ := ih (Ja a x);simp only [List.foldl_cons, List.length_cons];rw [h1, h2];simp [Ja];omega
theorem Zvn (l : List Sp) : ∀ a : St × List Int × List Int, a.1.At → (l.foldl Ja a).1.At := by
 induction l with
 | nil => intro a h; exact h
 | cons x l ih => intro a h; exact ih _ (Zc5 h)
def iv (x : Int) : Value := .int .i64 x
theorem Znk : (Tryz.prog.info? 50).map (fun i => (i.zero, i.size, i.bytes)) = some (some (.int .i64 0), 1, 8) := by kernel_rfl
theorem Zgq : ∀ (n : Nat) (s : St) (l : List Sp), s.Inv → (K3 n s l).Inv
 | 0, s, _, h => h
 | n + 1, s, [], h => h
 | n + 1, s, x :: l, h => by
  unfold K3;split
  ·rename_i hg; exact Zgq n _ l (Zju h hg)
  ·exact h
theorem Zxw {s : St} (h : s.At) : s.idx.length ≤ 6 := by
 obtain ⟨h1, h2⟩ := (Xu _).1 h.ok.right;have hn : (s.idx.map fun x => x.pair.toNat).Nodup := by
  rw [List.nodup_iff_pairwise_ne, List.pairwise_map];refine List.Pairwise.imp_of_mem ?_ h1;intro a b ha hb hu e;have ha0 := (h2 a ha).2.2.1;have hb0 := (h2 b hb).2.2.1;exact hu.2 (by omega)
 have := Ze4 _ (List.range 6) hn (fun x hx => by
  obtain ⟨e, he, rfl⟩ := List.mem_map.1 hx;have := h.ok.six e he;rw [List.mem_range];have := (h2 e he).2.2.1;omega)
 simpa using this
theorem Z3.any {S : Nat → Prop} {s : St} {v : Value} {w : World} (h : Z3 S s v w) : Z3 (fun _ => True) s v w := h.mono fun _ _ => trivial
theorem Z3.now {s : St} {v : Value} {w : World} (h : Z3 (fun _ => True) s v w) : Z3 (fun b => b < w.heap.size) s v w := h.capd.mono fun _ h => h.2
theorem Zq9 {S : Nat → Prop} {w : World} {v : Value} {l : List UInt8} (h : Z0 S w v l) : Z0 (fun b => b < w.heap.size) w v l := h.caps.mono fun _ h => h.2
theorem Zkq {w : World} {base n : Nat} {e : TypeId} {v : Value} {xs : List Value} (h : w.ownsRow base e 1 v n xs) (hn : 0 < n) : ∃ g c, v = .slice (some ⟨g, 0, none⟩) n c ∧ base ≤ g ∧ g < w.heap.size := by
 rcases h.2 with ⟨_, h0⟩ | ⟨g, c, cur, h1, h2, h3, _⟩
 ·omega
 ·exact ⟨g, c, h1, h2, Za h3⟩
def Zue : Prop := ∀ (S : Nat → Prop) (s : St) (x : Sp) (v : Value) (ad : Option Addr) (c : Nat) (w : World), (∀ b, S b → b < w.heap.size) → Z3 S s v w → Z0 S w (.slice ad x.deed.data.length c) x.deed.data → s.At → x.deed.data.length ≤ 140737488355328 →
 Calls Tryz.prog 17 #[v, .agg #[.int .i64 x.kind, .int .i64 x.n, .int .i64 x.m, .int .i64 x.deed.kind, .int .i64 x.deed.key, .int .i64 x.deed.num, .slice ad x.deed.data.length c]] w fun r w' => ∃ v', r = .returned (.tuple #[v', .int .i64 (s.step x).n, .int .i64 (s.step x).e]) ∧ Z3 (Zu S w.heap.size) (s.step x).st v' w' ∧ Zo w w'
def Zo9 : Prop := ∀ (S : Nat → Prop) (l : List Sp) (v : Value) (w : World), (∀ b, S b → b < w.heap.size) → Zc1 S w v l → l.length ≤ 100 → (∀ x ∈ l, x.deed.data.length ≤ 140737488355328) →
 Calls Tryz.prog 16 #[v] w fun r w' => ∃ v' ev nv, r = .returned (.tuple #[v', ev, nv, .int .i64 0]) ∧ Z3 (Zu S w.heap.size) (Qn l).1 v' w' ∧ w'.ownsRow w.heap.size 50 1 ev (Qn l).2.1.length ((Qn l).2.1.map iv) ∧ w'.ownsRow w.heap.size 3 1 nv (Qn l).2.2.length ((Qn l).2.2.map iv) ∧ Zo w w'
def Zg6 : Prop := ∀ w : World, Calls Tryz.prog 19 #[] w fun r w' => r = .returned (.bool true) ∧ Zo w w'
def Zh1 : Sp := ⟨6, 0, 0, ⟨0, 0, 0, []⟩⟩
theorem Zgc (s : St) : (s.step Zh1).st = X2 s.dk ∧ (s.step Zh1).n = 0 ∧ (s.step Zh1).e = 0 := ⟨rfl, rfl, rfl⟩
theorem Zqe (S : Nat → Prop) (w : World) : Z0 S w (.slice none Zh1.deed.data.length 0) Zh1.deed.data := .inl ⟨none, 0, rfl, rfl, fun _ => rfl⟩
theorem Zvx {s : St} (h : s.Inv) : (X2 s.dk).idx = s.idx := by rw [h.good.mounted, h.idx]
end Go.Proofs.YtgaecpdokgklpacGreat
