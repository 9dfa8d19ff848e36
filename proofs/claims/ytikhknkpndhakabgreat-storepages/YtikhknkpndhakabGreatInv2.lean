import Derived.Test.YtikhknkpndhakabGreatInv
import Derived.Test.YtikhknkpndhakabGreatStepP
set_option maxHeartbeats 8000000
namespace Go.Proofs.YtikhknkpndhakabGreat
set_option maxRecDepth 100000
open Plain
theorem Zvc {a b : Ent} (h : Yx a b = true) : Yx b a = false := by
 unfold Yx at h ⊢;by_cases k : a.rc.key = b.rc.key
 ·rw [if_pos k] at h;rw [if_pos k.symm];by_cases v : a.rc.ver = b.rc.ver
  ·rw [if_pos v] at h;rw [if_pos v.symm];have := of_decide_eq_true h;exact decide_eq_false (by omega)
  ·rw [if_neg v] at h;rw [if_neg (fun e => v e.symm)];have := of_decide_eq_true h;exact decide_eq_false (by omega)
 ·rw [if_neg k] at h;rw [if_neg (fun e => k e.symm)];have := of_decide_eq_true h;exact decide_eq_false (by omega)
theorem Zic : ∀ l m : List Ent, l.Pairwise Ups → m.Pairwise Ups → (∀ x, x ∈ l ↔ x ∈ m) → l = m
 | [], [], _, _, _ => rfl
 | [], b :: m, _, _, h => absurd ((h b).2 (by simp)) (by simp)
 | a :: l, [], _, _, h => absurd ((h a).1 (by simp)) (by simp)
 | a :: l, b :: m, hl, hm, h => by
  obtain ⟨hl1, hl2⟩ := List.pairwise_cons.1 hl;obtain ⟨hm1, hm2⟩ := List.pairwise_cons.1 hm;have hab : a = b := by
   rcases List.mem_cons.1 ((h a).1 (by simp)) with e | e
   ·exact e
   ·rcases List.mem_cons.1 ((h b).2 (by simp)) with e2 | e2
    ·exact e2.symm
    ·have h1 := (hm1 a e).1;have h2 := (hl1 b e2).1;rw [Zvc h1] at h2; cases h2
  subst hab
  congr 1
  refine Zic l m hl2 hm2 fun x => ⟨fun hx => ?_, fun hx => ?_⟩
  ·rcases List.mem_cons.1 ((h x).1 (by simp [hx])) with e | e
   ·subst e; exact absurd rfl (hl1 x hx).2
   ·exact e
  ·rcases List.mem_cons.1 ((h x).2 (by simp [hx])) with e | e
   ·subst e; exact absurd rfl (hm1 x hx).2
   ·exact e
theorem Ze9 (d : Dk) : (Yd d 6).Pairwise Ups := ((Xc _).1 (Vv d 6 (by omega))).1
theorem Zrz {d d' : Dk} {p : Nat} (hp : p < 6) {r : Rec} (hr : r.kind ≠ 1) (hold : (d.tell (p : Int)).kind = 1) (hnew : d'.tell (p : Int) = r) (hoth : ∀ q, q < 6 → q ≠ p → d'.tell (q : Int) = d.tell (q : Int)) (hwr : Yb r = 0) : Yd d' 6 = Xw ⟨r, (p : Int)⟩ (Yd d 6) := by
 have hne : ∀ x ∈ Yd d 6, x.pair ≠ (p : Int) := fun x hx => by
  obtain ⟨q, hq, hk, rfl⟩ := (Q4 d x 6).1 hx;intro e;have e2 : (q : Int) = (p : Int) := e;have : q = p := by omega
  subst this;exact hk hold
 have hright : Qd (Xw ⟨r, (p : Int)⟩ (Yd d 6)) = true := J6 (Vv d 6 (by omega)) ⟨hwr, hr, by show (0 : Int) ≤ (p : Int); omega, by show (p : Int) ≤ 1000; omega⟩ hne;refine Zic _ _ (Ze9 d') ((Xc _).1 hright).1 fun x => ?_;rw [Jt, Q4, Q4];constructor
 ·rintro ⟨q, hq, hk, rfl⟩;by_cases e : q = p
  ·subst e; left; rw [hnew]
  ·right; rw [hoth q hq e] at hk ⊢; exact ⟨q, hq, hk, rfl⟩
 ·rintro (rfl | ⟨q, hq, hk, rfl⟩)
  ·exact ⟨p, hp, by rw [hnew]; exact hr, by rw [hnew]⟩
  ·by_cases e : q = p
   ·subst e; exact absurd hold hk
   ·exact ⟨q, hq, by rw [hoth q hq e]; exact hk, by rw [hoth q hq e]⟩
theorem Zo3 {d d' : Dk} {p : Nat} (hnew : (d'.tell (p : Int)).kind = 1) (hoth : ∀ q, q < 6 → q ≠ p → d'.tell (q : Int) = d.tell (q : Int)) : Yd d' 6 = Qq (Yd d 6) (p : Int) := by
 refine Zic _ _ (Ze9 d') ((Xc _).1 (Zgd (Vv d 6 (by omega)) (p : Int))).1 fun x => ?_;unfold Qq;rw [List.mem_filter, Q4, Q4];constructor
 ·rintro ⟨q, hq, hk, rfl⟩;by_cases e : q = p
  ·subst e; exact absurd hnew hk
  ·rw [hoth q hq e] at hk ⊢;exact ⟨⟨q, hq, hk, rfl⟩, decide_eq_true (by show (q : Int) ≠ (p : Int); omega)⟩
 ·rintro ⟨⟨q, hq, hk, rfl⟩, hd⟩;have hqp : q ≠ p := fun e => by
   have := of_decide_eq_true hd;exact this (by show (q : Int) = (p : Int); omega)
  exact ⟨q, hq, by rw [hoth q hq hqp]; exact hk, by rw [hoth q hq hqp]⟩
structure St.Inv (s : St) : Prop where
 at' : s.At
 three : ∀ p, p < 6 → Kr s.dk p
 idx : s.idx = Yd s.dk 6
 once : ∀ p q, p < 6 → q < 6 → (s.dk.tell ((p : Nat) : Int)).kind ≠ 1 → (s.dk.tell ((q : Nat) : Int)).kind ≠ 1 → (s.dk.tell (p : Int)).ver = (s.dk.tell (q : Int)).ver → p = q
structure Dk.Good (d : Dk) : Prop where
 fine : d.Fine 0
 three : ∀ p, p < 6 → Kr d p
 once : ∀ p q, p < 6 → q < 6 → (d.tell ((p : Nat) : Int)).kind ≠ 1 → (d.tell ((q : Nat) : Int)).kind ≠ 1 → (d.tell (p : Int)).ver = (d.tell (q : Int)).ver → p = q
theorem St.Inv.good {s : St} (h : s.Inv) : s.dk.Good := ⟨h.at'.ok.disk, h.three, h.once⟩
theorem Dk.Good.keep0 {d : Dk} (h : d.Good) : d.keep 0 = d := by
 have hb := d.keep_none;have hl := Zb8 h.fine;obtain ⟨b, l⟩ := d;simp only at hl;subst hl;show (⟨(Dk.keep ⟨b, []⟩ 0).blocks, []⟩ : Dk) = _;rw [hb]
theorem Dk.Good.mount {d : Dk} (h : d.Good) : (Xv d).Inv := by
 have hk := h.keep0;have ha := K6 h.fine;refine ⟨ha, ?_, rfl, ?_⟩
 ·show ∀ p, p < 6 → Kr (d.keep 0) p;rw [hk]; exact h.three
 ·show ∀ p q, p < 6 → q < 6 → ((d.keep 0).tell ((p : Nat) : Int)).kind ≠ 1 → ((d.keep 0).tell ((q : Nat) : Int)).kind ≠ 1 → ((d.keep 0).tell (p : Int)).ver = ((d.keep 0).tell (q : Int)).ver → p = q;rw [hk]; exact h.once
theorem Dk.Good.mounted {d : Dk} (h : d.Good) : Xv d = ⟨d, Yd d 6, 0⟩ := by unfold Xv; rw [h.keep0]
theorem Dk.Good.put {d : Dk} (h : d.Good) {p : Nat} (hp : p < 6) {r : Rec} (hr : Yb r = 0) (hk : r.kind ≠ 1) (ht : (d.tell (p : Int)).kind = 1) (hv : ∀ q, q < 6 → (d.tell ((q : Nat) : Int)).kind ≠ 1 → (d.tell (q : Int)).ver ≠ r.ver) (x y : Bool) : (d.half p r x y).Good := by
 obtain ⟨h3, htell⟩ := Zkq h.fine hp hr hk (h.three p hp) ht x y;have hoth : ∀ q, q < 6 → q ≠ p → (d.half p r x y).tell ((q : Nat) : Int) = d.tell (q : Int) := fun q hq hne => (Kf h.fine hp hq hne hr x y).2
 have hthree : ∀ q, q < 6 → Kr (d.half p r x y) q := fun q hq => by
  by_cases e : q = p
  ·subst e; exact h3
  ·have hn := Qz (V1 h.fine hp hr x y).len hq;exact Zhx hn (by rw [(Kf h.fine hp hq e hr x y).1]; exact Zhb (Qz h.fine.len hq) (h.three q hq))
 refine ⟨V1 h.fine hp hr x y, hthree, fun a b ha hb => ?_⟩;by_cases ea : a = p
 ·subst ea;by_cases eb : b = a
  ·intro _ _ _; exact eb.symm
  ·rw [hoth b hb eb, htell];intro k1 k2 k3;split at k1
   ·rename_i hxy;rw [if_pos hxy] at k3;exact absurd k3.symm (hv b hb k2)
   ·exact absurd ht k1
 ·by_cases eb : b = p
  ·subst eb;rw [hoth a ha ea, htell];intro k1 k2 k3;split at k2
   ·rename_i hxy;rw [if_pos hxy] at k3;exact absurd k3 (hv a ha k1)
   ·exact absurd ht k2
  ·rw [hoth a ha ea, hoth b hb eb]; exact h.once a b ha hb
theorem Dk.Good.free {d : Dk} (h : d.Good) {p : Nat} (hp : p < 6) (x y : Bool) : (d.half p Rec.free x y).Good := by
 obtain ⟨h3, htell, -⟩ := Zdu h.fine hp (h.three p hp) x y;have hf : Yb Rec.free = 0 := Vd;have hoth : ∀ q, q < 6 → q ≠ p → (d.half p Rec.free x y).tell ((q : Nat) : Int) = d.tell (q : Int) := fun q hq hne => (Kf h.fine hp hq hne hf x y).2
 have hthree : ∀ q, q < 6 → Kr (d.half p Rec.free x y) q := fun q hq => by
  by_cases e : q = p
  ·subst e; exact h3
  ·have hn := Qz (V1 h.fine hp hf x y).len hq;exact Zhx hn (by rw [(Kf h.fine hp hq e hf x y).1]; exact Zhb (Qz h.fine.len hq) (h.three q hq))
 have hsub : ∀ q, q < 6 → ((d.half p Rec.free x y).tell ((q : Nat) : Int)).kind ≠ 1 → (d.half p Rec.free x y).tell ((q : Nat) : Int) = d.tell (q : Int) := fun q hq hk => by
  by_cases e : q = p
  ·subst e;rcases htell with e1 | e1
   ·exact e1
   ·rw [e1] at hk; exact absurd rfl hk
  ·exact hoth q hq e
 refine ⟨V1 h.fine hp hf x y, hthree, fun a b ha hb k1 k2 k3 => ?_⟩;have e1 := hsub a ha k1;have e2 := hsub b hb k2;rw [e1] at k1 k3;rw [e2] at k2 k3;exact h.once a b ha hb k1 k2 k3
theorem Zkp (e : Ent) : ∀ l : List Ent, (Zbo e l).length = l.length + 1
 | [] => rfl
 | x :: l => by
  unfold Zbo;split
  ·rfl
  ·simp [Zkp e l]
theorem Zog : ∀ (l : List Ent) (i : Nat) (h : i < l.length), l.Pairwise Ups → Qq l l[i].pair = l.take i ++ l.drop (i + 1)
 | a :: l, 0, _, hp => by
  obtain ⟨h1, _⟩ := List.pairwise_cons.1 hp;unfold Qq;simp only [List.getElem_cons_zero, List.take_zero, List.nil_append, List.drop_succ_cons, List.drop_zero];rw [List.filter_cons_of_neg (by simp), List.filter_eq_self];intro x hx;exact decide_eq_true (fun e => (h1 x hx).2 e.symm)
 | a :: l, i + 1, h, hp => by
  obtain ⟨h1, h2⟩ := List.pairwise_cons.1 hp;have hi : i < l.length := by simpa using h
  have ih := Zog l i hi h2;unfold Qq at ih ⊢;simp only [List.getElem_cons_succ, List.take_succ_cons, List.drop_succ_cons, List.cons_append];rw [List.filter_cons_of_pos (by exact decide_eq_true (h1 _ (List.getElem_mem hi)).2), ih]
theorem Zem {s : St} (h : s.Inv) (x : Ent) : x ∈ s.idx ↔ ∃ p : Nat, p < 6 ∧ (s.dk.tell (p : Int)).kind ≠ 1 ∧ x = ⟨s.dk.tell (p : Int), (p : Int)⟩ := by rw [h.idx]; exact Q4 s.dk x 6
theorem Zr9 {s : St} (h : s.Inv) (r : Rec) : r ∈ s.recs ↔ ∃ p : Nat, p < 6 ∧ (s.dk.tell (p : Int)).kind ≠ 1 ∧ r = s.dk.tell (p : Int) := by
 unfold St.recs;rw [List.mem_map];constructor
 ·rintro ⟨x, hx, rfl⟩;obtain ⟨p, hp, hk, rfl⟩ := (Zem h x).1 hx;exact ⟨p, hp, hk, rfl⟩
 ·rintro ⟨p, hp, hk, rfl⟩;exact ⟨_, (Zem h _).2 ⟨p, hp, hk, rfl⟩, rfl⟩
theorem Zvf {s : St} (h : s.Inv) : s.idx.Pairwise Ups := by rw [h.idx]; exact Ze9 s.dk
theorem Zqw {s : St} (h : s.Inv) {d : Dd} (hw : Yn d = 0) (hk : d.kind ≠ 3) (he : (doR s.recs d).e = 0) :
  ∃ p : Nat, p < 6 ∧ X0 s.idx = p ∧ doR s.recs d = ⟨s.recs ++ [Xq d (Xs s.recs)], Xs s.recs, 0⟩ ∧ Yb (Xq d (Xs s.recs)) = 0 ∧ (Xq d (Xs s.recs)).kind ≠ 1 ∧ (s.dk.tell (p : Int)).kind = 1 ∧ ∀ q : Nat, q < 6 → (s.dk.tell (q : Int)).kind ≠ 1 → (s.dk.tell (q : Int)).ver ≠ (Xq d (Xs s.recs)).ver := by
 obtain ⟨h5, hn, h6⟩ := Zda hk he;have hl5 : s.idx.length ≤ 5 := by simpa [St.recs] using h5
 obtain ⟨hL, hL5⟩ := Zaz (l := s.idx) (by omega);have hm := Zcm (n := Xs s.recs) hw hk Zej.1 h6;refine ⟨X0 s.idx, by omega, rfl, ?_, hm.1, hm.2, ?_, fun q hq hkq => ?_⟩
 ·unfold doR;rw [if_neg hk, if_neg (by omega), if_neg (by omega)]
 ·by_cases e : (s.dk.tell ((X0 s.idx : Nat) : Int)).kind = 1
  ·exact e
  ·exact absurd rfl (hL.2 _ ((Zem h _).2 ⟨_, by omega, e, rfl⟩))
 ·have := Zej.2 _ ((Zr9 h _).2 ⟨q, hq, hkq, rfl⟩);show _ ≠ Xs s.recs;omega
theorem Zla {s : St} (h : s.Inv) {d : Dd} (hk : d.kind = 3) (he : (doR s.recs d).e = 0) :
  ∃ p : Nat, p < 6 ∧ V8 d s.idx = (p : Int) ∧ (doR s.recs d).l = (Qq s.idx (p : Int)).map Ent.rc ∧ (doR s.recs d).n = d.num ∧ (s.dk.tell (p : Int)).kind ≠ 1 := by
 unfold doR at he ⊢;rw [if_pos hk] at he ⊢;cases hf : s.recs.findIdx? (Q0 d) with
 | none => rw [hf] at he; cases he
 | some i =>
  simp only;obtain ⟨hi, hfi, hlt⟩ := List.findIdx?_eq_some_iff_getElem.1 hf;have hil : i < s.idx.length := by simpa [St.recs] using hi
  have hget : s.recs[i] = s.idx[i].rc := by simp [St.recs]
  have hfind : s.idx.find? (Za3 d) = some s.idx[i] := by
   rw [List.find?_eq_some_iff_getElem];refine ⟨?_, i, hil, rfl, fun j hj => ?_⟩
   ·have : Q0 d s.recs[i] = true := hfi;rw [hget] at this; exact this
   ·have hjl : j < s.recs.length := by omega
    have h1 := hlt j hj;have : s.recs[j] = s.idx[j].rc := by simp [St.recs]
    rw [this] at h1;have h2 : ¬ Q0 d s.idx[j].rc = true := h1;show (!Q0 d s.idx[j].rc) = true;simpa using h2
  obtain ⟨p, hp, hkp, hx⟩ := (Zem h _).1 (List.getElem_mem hil);have hpair : s.idx[i].pair = (p : Int) := by rw [hx]
  refine ⟨p, hp, ?_, ?_, trivial, hkp⟩
  ·unfold V8;rw [if_pos hk, hfind];exact hpair
  ·rw [← hpair, Zog s.idx i hil (Zvf h)];simp [St.recs]
structure Zxw (s : St) (d : Dd) (p : Nat) (r : Rec) : Prop where
 p6 : p < 6
 right : Yb r = 0
 disk : (s.begin d).st.dk = s.dk.pairD (p : Int) r
 next : (s.begin d).st.next = s.next
 n : (s.begin d).n = (doR s.recs d).n
 good : ∀ x y, (s.dk.half p r x y).Good
 same : ∀ x y, (∀ q : Nat, q < 6 → (s.dk.half p r x y).tell (q : Int) = s.dk.tell (q : Int)) ∨ (Yd (s.dk.half p r x y) 6 = (s.begin d).st.idx)
 whole : Yd (s.dk.half p r true true) 6 = (s.begin d).st.idx
 recs : Zii (s.begin d).st.recs (doR s.recs d).l = true
theorem Zni {s : St} (h : s.Inv) {d : Dd} (he : (s.begin d).e = 0) : ∃ p r, Zxw s d p r := by
 have hg := h.good;unfold St.begin at he;by_cases hw : Yn d = 0
 ·rw [if_neg (by simpa using hw)] at he;by_cases hr : (doR s.recs d).e = 0
  ·have hb : s.begin d = if d.kind = 3 then ⟨⟨s.dk.pairD (V8 d s.idx) Rec.free, Qq s.idx (V8 d s.idx), s.next⟩, (doR s.recs d).n, 0⟩ else ⟨⟨s.dk.pairD (X0 s.idx) (Xq d (doR s.recs d).n), Xw ⟨Xq d (doR s.recs d).n, (X0 s.idx : Nat)⟩ s.idx, s.next⟩, (doR s.recs d).n, 0⟩ := by
    unfold St.begin;rw [if_neg (by simpa using hw), if_neg (by simpa using hr)]
   by_cases hk : d.kind = 3
   ·rw [if_pos hk] at hb;obtain ⟨p, hp, hat, hl, hn, hkp⟩ := Zla h hk hr;rw [hat] at hb;have hoth : ∀ x y q, q < 6 → q ≠ p → (s.dk.half p Rec.free x y).tell ((q : Nat) : Int) = s.dk.tell (q : Int) := fun x y q hq hne => (Kf hg.fine hp hq hne Vd x y).2
    have hdrop : ∀ x y, (s.dk.half p Rec.free x y).tell (p : Int) = Rec.free → Yd (s.dk.half p Rec.free x y) 6 = Qq s.idx (p : Int) := fun x y ht => by
     rw [h.idx]; exact Zo3 (by rw [ht]; rfl) (hoth x y)
    refine ⟨p, Rec.free, hp, Vd, by rw [hb], by rw [hb], by rw [hb], fun x y => hg.free hp x y, fun x y => ?_, ?_, ?_⟩
    ·rcases (Zdu hg.fine hp (hg.three p hp) x y).2.1 with e | e
     ·left; intro q hq
      by_cases eq : q = p
      ·subst eq; exact e
      ·exact hoth x y q hq eq
     ·right; rw [hb]; exact hdrop x y e
    ·rw [hb]; exact hdrop true true ((Zdu hg.fine hp (hg.three p hp) true true).2.2 rfl rfl).1
    ·rw [hb, hl]; exact Zjt _
   ·rw [if_neg hk] at hb;obtain ⟨p, hp, hlf, hdo, hwm, hkm, ht, hv⟩ := Zqw h hw hk hr;have hn : (doR s.recs d).n = Xs s.recs := by rw [hdo]
    rw [hlf, hn] at hb;have hoth : ∀ x y q, q < 6 → q ≠ p → (s.dk.half p (Xq d (Xs s.recs)) x y).tell ((q : Nat) : Int) = s.dk.tell (q : Int) := fun x y q hq hne => (Kf hg.fine hp hq hne hwm x y).2
    have hput : ∀ x y, (x || y) = true → Yd (s.dk.half p (Xq d (Xs s.recs)) x y) 6 = Xw ⟨Xq d (Xs s.recs), (p : Int)⟩ s.idx := fun x y hxy => by
     rw [h.idx];refine Zrz hp hkm ht ?_ (hoth x y) hwm;rw [(Zkq hg.fine hp hwm hkm (hg.three p hp) ht x y).2, if_pos hxy]
    refine ⟨p, Xq d (Xs s.recs), hp, hwm, by rw [hb], by rw [hb], by rw [hb, hn], fun x y => hg.put hp hwm hkm ht hv x y, fun x y => ?_, ?_, ?_⟩
    ·by_cases hxy : (x || y) = true
     ·right; rw [hb]; exact hput x y hxy
     ·left
      obtain ⟨rfl, rfl⟩ : x = false ∧ y = false := by simpa using hxy
      rw [Zb6 s.dk hg.fine]; intro _ _; rfl
    ·rw [hb]; exact hput true true rfl
    ·rw [hb, hdo];unfold Zii;rw [Bool.and_eq_true, List.all_eq_true];refine ⟨fun r hr => ?_, decide_eq_true ?_⟩
     ·unfold Zlb;rw [List.any_eq_true];refine ⟨r, ?_, (Zbz _ _).2 rfl⟩;obtain ⟨x, hx, rfl⟩ := List.mem_map.1 hr;rcases (Jt _ _ _).1 hx with rfl | hx
      ·exact List.mem_append_right _ (by simp)
      ·exact List.mem_append_left _ (List.mem_map_of_mem hx)
     ·show ((Xw _ s.idx).map Ent.rc).length = (s.recs ++ [_]).length;rw [List.length_map, Js, Zkp];simp [St.recs]
  ·rw [if_pos (by simpa using hr)] at he; exact absurd he hr
 ·rw [if_pos (by simpa using hw)] at he; exact absurd he hw
theorem Zqy {s : St} {d : Dd} (he : (s.begin d).e ≠ 0) : (s.begin d).st = s ∧ (s.begin d).n = 0 ∧ (Yn d = 0 → (s.begin d).e = (doR s.recs d).e ∧ (doR s.recs d).l = s.recs ∧ (doR s.recs d).n = 0) ∧ (Yn d ≠ 0 → (s.begin d).e = Yn d) := by
 unfold St.begin at he ⊢;by_cases hw : Yn d = 0
 ·rw [if_neg (by simpa using hw)] at he ⊢;by_cases hr : (doR s.recs d).e = 0
  ·rw [if_neg (by simpa using hr)] at he;exfalso;split at he <;> exact he rfl
  ·rw [if_pos (by simpa using hr)];refine ⟨rfl, rfl, fun _ => ⟨rfl, ?_⟩, fun h => absurd hw h⟩;unfold doR at hr ⊢;split
   ·split
    ·rename_i h3 _ i hf; rw [if_pos h3, hf] at hr; exact absurd rfl hr
    ·exact ⟨rfl, rfl⟩
   ·rename_i h3;split
    ·exact ⟨rfl, rfl⟩
    ·split
     ·exact ⟨rfl, rfl⟩
     ·rename_i h5 h6; rw [if_neg h3, if_neg h5, if_neg h6] at hr; exact absurd rfl hr
 ·rw [if_pos (by simpa using hw)];exact ⟨rfl, rfl, fun h => absurd h hw, fun _ => rfl⟩
theorem Zti {s : St} (h : s.Inv) (d : Dd) : (s.doS d).st.Inv := by
 have hat : (s.doS d).st.At := ⟨Zvy h.at'.ok, by rw [Zeo]; exact h.at'.low, by rw [Zeo]; exact h.at'.high⟩;by_cases he : (s.begin d).e = 0
 ·obtain ⟨p, r, H⟩ := Zni h he;have hst : (s.doS d).st = ⟨s.dk.half p r true true, (s.begin d).st.idx, (s.begin d).st.next⟩ := by
   unfold St.doS;rw [if_pos he, H.disk, Zin h.good.fine H.p6 H.right]
  have hg := H.good true true;rw [hst] at hat ⊢;exact ⟨hat, hg.three, H.whole.symm, hg.once⟩
 ·have hst : (s.doS d).st = s := by unfold St.doS; rw [if_neg he]; exact (Zqy he).1
  rw [hst]; exact h
theorem Zfp : Dk.new.Good := by
 have hside : ∀ a : Nat, a < 12 → Yf Dk.new (a : Int) = Rec.free ∧ Xd Dk.new (a : Int) = 0 := fun a ha => by
  refine Zrw ?_ Vd (by omega) (by omega);have h1 := Zu6 (a : Int) (by omega) (by omega);unfold Dk.get;rw [if_neg (by show ¬ ((a : Int) < 0 ∨ ((Dk.new.blocks.length : Nat) : Int) ≤ (a : Int)); rw [V5.len]; omega)];show some ((Qk [] _).getD _) = _;simp only [Qk];rw [← h1]; rfl
 have hfree : ∀ p, p < 6 → Kr Dk.new p ∧ (Dk.new.tell ((p : Nat) : Int)).kind = 1 := fun p hp => by
  have h0 := hside (2 * p) (by omega);have h1 := hside (2 * p + 1) (by omega);rw [show ((2 * p : Nat) : Int) = 2 * (p : Int) by omega] at h0;rw [show ((2 * p + 1 : Nat) : Int) = 2 * (p : Int) + 1 by omega] at h1;have k0 : (Yf Dk.new (2 * (p : Int))).kind = 1 := by rw [h0.1]; rfl
  have k1 : (Yf Dk.new (2 * (p : Int) + 1)).kind = 1 := by rw [h1.1]; rfl
  exact ⟨.inr (.inr ⟨k0, k1, by rw [h0.2, h1.2]; omega⟩), by rw [(Zc5 (Qz V5.len hp) k0 k1).1]; rfl⟩
 exact ⟨V5, fun p hp => (hfree p hp).1, fun p q hp _ hk => absurd (hfree p hp).2 hk⟩
theorem Zek : Xo.Inv := Zfp.mount
end Go.Proofs.YtikhknkpndhakabGreat
