import Derived.Test.YtgaecpdokgklpadGreatDoorInv3
import Derived.Lib.SlBytesConst
set_option maxHeartbeats 8000000
namespace Go.Proofs.YtgaecpdokgklpadGreatDoor
set_option maxRecDepth 100000
open Go.RowKit
open Plain Reg
def Zxt (p : Dd × Int) (v : Value) (w : World) : Prop := ∃ a c, v = .tuple #[.agg #[.int .i64 p.1.kind, .int .i64 p.1.key, .int .i64 p.1.num, .slice a p.1.data.length c], .int .i64 p.2] ∧ Bytes w (.slice a p.1.data.length c) p.1.data
def Zj2 (V : World → Prop) : Prop := ∀ (s : List UInt8) (w : World), V w → s.length ≤ 140737488355328 →
 Calls Tryz.prog 14 #[.string ⟨s.toArray⟩] w fun r w' => ∃ v, r = .returned v ∧ Zxt (Je s) v w' ∧ Zj w w'
theorem Jc (w : World) (v : Value) (l : List UInt8) (h : Bytes w v l) : (convert 38 9 v).run Tryz.prog w = .ok (.string ⟨l.toArray⟩) w := Zi8 w v l h
end Go.Proofs.YtgaecpdokgklpadGreatDoor
namespace Go.Proofs.YtgaecpdokgklpadGreatDoor
set_option maxRecDepth 100000
open Plain
theorem Ze5 {s : St} (h : s.At) {d : Dd} (he : (s.begin d).e = 0) {r : Rec} (hr : r ∈ s.recs) (hn : ¬ (d.kind = 3 ∧ d.key = r.key ∧ d.num = r.ver)) : r ∈ (s.begin d).st.recs := by
 obtain ⟨hw, hd⟩ := Zcv he;have hb : s.begin d = if d.kind = 3 then ⟨⟨s.dk.pairD (Zg2 d s.idx) Rec.free, Ji s.idx (Zg2 d s.idx), s.next⟩, (doR s.recs d).n, 0⟩ else ⟨⟨s.dk.pairD (Xy s.idx) (Xf d (doR s.recs d).n), Qh ⟨Xf d (doR s.recs d).n, (Xy s.idx : Nat)⟩ s.idx, s.next⟩, (doR s.recs d).n, 0⟩ := by
  unfold St.begin;rw [if_neg (by simpa using hw), if_neg (by simpa using hd)]
 obtain ⟨x, hx, rfl⟩ := List.mem_map.1 hr;rw [hb];by_cases hk : d.kind = 3
 ·rw [if_pos hk];obtain ⟨y, hf, ha⟩ := Zfy hk hd;rw [ha];refine List.mem_map.2 ⟨x, List.mem_filter.2 ⟨hx, decide_eq_true fun hp => ?_⟩, rfl⟩;have hy := List.mem_of_find?_eq_some hf;have hq : y.rc.key = d.key ∧ y.rc.ver = d.num := by
   have := List.find?_some (show s.idx.find? (fun x => decide (x.rc.key = d.key ∧ x.rc.ver = d.num)) = some y from hf);exact of_decide_eq_true this
  have hup := ((Y5 s.idx).1 h.ok.right).1;have hxy : x = y := by
   obtain ⟨i, hi, rfl⟩ := List.mem_iff_getElem.1 hx;obtain ⟨j, hj, rfl⟩ := List.mem_iff_getElem.1 hy;rcases Nat.lt_trichotomy i j with hl | hl | hl
   ·exact absurd hp (List.pairwise_iff_getElem.1 hup i j hi hj hl).2
   ·subst hl; rfl
   ·exact absurd hp.symm (List.pairwise_iff_getElem.1 hup j i hj hi hl).2
  subst hxy;exact hn ⟨hk, hq.1.symm, hq.2.symm⟩
 ·rw [if_neg hk];exact List.mem_map.2 ⟨x, (Vo _ _ _).2 (.inr hx), rfl⟩
theorem Zp2 {s : St} (h : s.Inv) {x : Sp} (hx : K2 s x = true) : (s.step x).st.recs = s.recs ∨ (x.kind = 1 ∨ x.kind = 2) ∧ (s.begin x.deed).e = 0 ∧ (s.step x).st.recs = (s.begin x.deed).st.recs := by
 have hg := h.good;have hi := Zc5 h hx;have same : (∀ q : Nat, q < 6 → (s.step x).st.dk.tell (q : Int) = s.dk.tell (q : Int)) → (s.step x).st.recs = s.recs := fun ht => by
  unfold St.recs;rw [hi.idx, h.idx, K6 6 ht]
 by_cases k1 : x.kind = 1
 ·have hs : s.step x = s.doS x.deed := by unfold St.step; rw [if_pos k1]
  rw [hs];by_cases he : (s.begin x.deed).e = 0
  ·exact .inr ⟨.inl k1, he, by unfold St.doS; rw [if_pos he]; rfl⟩
  ·left; unfold St.doS; rw [if_neg he, (Zeo he).1]
 ·by_cases k2 : x.kind = 2
  ·by_cases he : (s.begin x.deed).e = 0
   ·have hs : (s.step x).st = Xx ((s.begin x.deed).st.dk.keep x.n) := by unfold St.step; rw [if_neg k1, if_pos k2, if_neg (by simpa using he)]
    obtain ⟨p, r, H⟩ := Za3 h he;have hk : (s.begin x.deed).st.dk.keep x.n = s.dk.half p r (Qp x.n 0) (Qp x.n 1) := by rw [H.disk, Zhw h.good.fine H.p6 H.right]
    have hg2 := H.good (Qp x.n 0) (Qp x.n 1);rw [hs, hk];unfold St.recs;rw [hg2.mounted];rcases H.same (Qp x.n 0) (Qp x.n 1) with e | e
    ·left;show (Yf _ 6).map Ent.rc = _;rw [K6 6 e, h.idx]
    ·right;refine ⟨.inr k2, he, ?_⟩;show (Yf _ 6).map Ent.rc = _;rw [e]
   ·left;have hs : (s.step x).st = s := by unfold St.step; rw [if_neg k1, if_pos k2, if_pos he]
    rw [hs]
  ·left;by_cases k3 : x.kind = 3
   ·have hs : (s.step x).st.idx = s.idx := by
     unfold St.step;rw [if_neg k1, if_neg k2, if_pos k3];split <;> rfl
    unfold St.recs;rw [hs]
   ·by_cases k4 : x.kind = 4
    ·refine same fun q hq => ?_;have hs : (s.step x).st = s.scrub := by unfold St.step; rw [if_neg k1, if_neg k2, if_neg k3, if_pos k4]
     rw [hs];have c1 : ((s.next.toNat : Nat) : Int) = s.next := by have := h.at'.low; omega
     have := (hg.mend (p := s.next.toNat) (by have := h.at'.high; omega)).2 q hq;rw [c1] at this;exact this
    ·by_cases k5 : x.kind = 5
     ·refine same fun q hq => ?_;have hs : (s.step x).st = Xx s.dk.clean := by unfold St.step; rw [if_neg k1, if_neg k2, if_neg k3, if_neg k4, if_pos k5]
      obtain ⟨h1, h2⟩ := hg.cleaned;rw [hs, h1.mounted];exact h2 q hq
     ·by_cases k6 : x.kind = 6
      ·refine same fun q _ => ?_;have hs : (s.step x).st = Xx s.dk := by unfold St.step; rw [if_neg k1, if_neg k2, if_neg k3, if_neg k4, if_neg k5, if_pos k6]
       rw [hs, hg.mounted]
      ·have hs : (s.step x).st = s := by unfold St.step; rw [if_neg k1, if_neg k2, if_neg k3, if_neg k4, if_neg k5, if_neg k6]
       rw [hs]
theorem Zxb {s : St} {d : Dd} (hk : d.kind ≠ 3) (he : (s.doS d).e = 0) : Xf d (s.doS d).n ∈ (s.doS d).st.recs := by
 have he0 : (s.begin d).e = 0 := by
  unfold St.doS at he;by_cases hb : (s.begin d).e = 0
  ·exact hb
  ·rw [if_neg hb] at he; exact absurd he hb
 obtain ⟨hw, hd⟩ := Zcv he0;have hb : s.begin d = ⟨⟨s.dk.pairD (Xy s.idx) (Xf d (doR s.recs d).n), Qh ⟨Xf d (doR s.recs d).n, (Xy s.idx : Nat)⟩ s.idx, s.next⟩, (doR s.recs d).n, 0⟩ := by
  unfold St.begin;rw [if_neg (by simpa using hw), if_neg (by simpa using hd), if_neg hk]
 unfold St.doS;rw [if_pos he0, hb];exact List.mem_map.2 ⟨_, (Vo _ _ _).2 (.inl rfl), rfl⟩
end Go.Proofs.YtgaecpdokgklpadGreatDoor
namespace Go.Proofs.YtgaecpdokgklpadGreatDoor
set_option maxRecDepth 100000
open Go.RowKit
open Plain Reg
theorem Zwz : V9.idx = [] := by
 rw [Zb3.idx];cases h : Yf V9.dk 6 with
 | nil => rfl
 | cons x l =>
  exfalso;have hx : x ∈ Yf V9.dk 6 := by rw [h]; simp
  obtain ⟨p, hp, hk, -⟩ := (Qj _ _ 6).1 hx;have hd : V9.dk = Dk.new := by show Dk.new.keep 0 = _; exact Zk8.keep0
  rw [hd] at hk;have : ∀ q : Fin 6, (Dk.new.tell ((q.val : Nat) : Int)).kind = 1 := by decide +kernel
  exact hk (this ⟨p, hp⟩)
theorem Kk : V9.recs = [] := by unfold St.recs; rw [Zwz]; rfl
end Go.Proofs.YtgaecpdokgklpadGreatDoor
namespace Go.Proofs.YtgaecpdokgklpadGreatDoor
set_option maxRecDepth 100000
open Plain
theorem Zqg {s : St} (h : s.Inv) : s.recs.Pairwise fun a b => a.ver ≠ b.ver := by
 unfold St.recs;rw [List.pairwise_map];refine (Zpj h).imp_of_mem ?_;intro a b ha hb hu e;obtain ⟨p, hp, hk, rfl⟩ := (Zb4 h a).1 ha;obtain ⟨q, hq, hk', rfl⟩ := (Zb4 h b).1 hb;have := h.once p q hp hq hk hk' e;subst this;exact hu.2 rfl
theorem Zk6 {m : Int} : ∀ (l : List Rec) (n : Int), n ≤ m + 1 → (∀ r ∈ l, r.ver ≤ m) → l.foldl (fun n r => if n ≤ r.ver then r.ver + 1 else n) n ≤ m + 1
 | [], n, hn, _ => hn
 | x :: l, n, hn, h => by
  rw [List.foldl_cons];refine Zk6 l _ ?_ (fun r hr => h r (by simp [hr]));have := h x (by simp);split <;> omega
theorem Zjd {l : List Rec} {m : Int} (h0 : 0 ≤ m) (h : ∀ r ∈ l, r.ver ≤ m) : Xe l ≤ m + 1 := Zk6 l 1 (by omega) h
theorem Zhn {a b : List Rec} (h : J3 a b = true) : (∀ r ∈ a, r ∈ b) ∧ a.length = b.length := by
 unfold J3 at h;simp only [Bool.and_eq_true, List.all_eq_true, decide_eq_true_eq] at h;refine ⟨fun r hr => ?_, h.2⟩;have := h.1 r hr;unfold Zir at this;rw [List.any_eq_true] at this;obtain ⟨x, hx, he⟩ := this;rw [← (K7 _ _).1 he]; exact hx
theorem Zgu {s : St} {d : Dd} (h : (s.doS d).e = 0) : (s.begin d).e = 0 ∧ (s.doS d).st.recs = (s.begin d).st.recs := by
 by_cases he : (s.begin d).e = 0
 ·exact ⟨he, by unfold St.doS; rw [if_pos he]; rfl⟩
 ·unfold St.doS at h;rw [if_neg he] at h;exact absurd h he
structure Zb8 (s : St) (d : Dd) : Prop where
 e : (s.doS d).e = 0
 n : (s.doS d).n = Xe s.recs
 inv : (s.doS d).st.Inv
 mem : ∀ r, r ∈ (s.doS d).st.recs ↔ r = Xf d (Xe s.recs) ∨ r ∈ s.recs
 len : (s.doS d).st.recs.length = s.recs.length + 1
theorem Zi3 {s : St} (h : s.Inv) {d : Dd} (hw : Z3 d = 0) (hk : d.kind ≠ 3) (h5 : s.recs.length ≤ 5) (hn : Xe s.recs ≤ 60000) : Zb8 s d := by
 have hd : doR s.recs d = ⟨s.recs ++ [Xf d (Xe s.recs)], Xe s.recs, 0⟩ := by
  unfold doR;rw [if_neg hk, if_neg (by omega), if_neg (by omega)]
 obtain ⟨k1, k2, k3, -⟩ := Zl4 h hw;rw [hd] at k1 k2 k3;have k1' : (s.doS d).e = 0 := k1;have k2' : (s.doS d).n = Xe s.recs := k2;obtain ⟨m1, m2⟩ := Zhn k3;obtain ⟨b1, b2⟩ := Zgu k1';refine ⟨k1', k2', Zen h d, fun r => ⟨fun hr => ?_, fun hr => ?_⟩, by rw [m2]; simp⟩
 ·have := m1 r hr;simp only [List.mem_append, List.mem_singleton] at this;exact this.symm
 ·rcases hr with rfl | hr
  ·rw [← k2']; exact Zxb hk k1'
  ·rw [b2]; exact Ze5 h.at' b1 hr fun hh => hk hh.1
structure Zmd (s : St) (d : Dd) : Prop where
 e : (s.doS d).e = 0
 inv : (s.doS d).st.Inv
 mem : ∀ r, r ∈ (s.doS d).st.recs ↔ r ∈ s.recs ∧ r.ver ≠ d.num
 len : (s.doS d).st.recs.length + 1 = s.recs.length
theorem Zsu {s : St} (h : s.Inv) {d : Dd} (hw : Z3 d = 0) (hk : d.kind = 3) {r : Rec} (hr : r ∈ s.recs) (hkey : r.key = d.key) (hver : r.ver = d.num) : Zmd s d := by
 obtain ⟨i, hf⟩ : ∃ i, s.recs.findIdx? (Qz d) = some i := by
  cases hf : s.recs.findIdx? (Qz d) with
  | some i => exact ⟨i, rfl⟩
  | none =>
   have := List.findIdx?_eq_none_iff.1 hf r hr;unfold Qz at this;simp [hkey, hver] at this
 obtain ⟨hi, hfi, -⟩ := List.findIdx?_eq_some_iff_getElem.1 hf;have hiv : s.recs[i].ver = d.num := by
  unfold Qz at hfi;simp only [decide_eq_true_eq] at hfi;exact hfi.2
 have hd : doR s.recs d = ⟨s.recs.take i ++ s.recs.drop (i + 1), d.num, 0⟩ := by
  unfold doR;rw [if_pos hk, hf]
 obtain ⟨k1, k2, k3, -⟩ := Zl4 h hw;rw [hd] at k1 k2 k3;have k1' : (s.doS d).e = 0 := k1;obtain ⟨m1, m2⟩ := Zhn k3;obtain ⟨b1, b2⟩ := Zgu k1';have hp := List.pairwise_iff_getElem.1 (Zqg h);refine ⟨k1', Zen h d, fun x => ⟨fun hx => ?_, fun hx => ?_⟩, ?_⟩
 ·have hx' := m1 x hx;rcases List.mem_append.1 hx' with h1 | h1
  ·obtain ⟨j, hj, rfl⟩ := List.mem_iff_getElem.1 h1;rw [List.length_take] at hj;rw [List.getElem_take];exact ⟨List.getElem_mem _, fun e => hp j i (by omega) hi (by omega) (e.trans hiv.symm)⟩
  ·obtain ⟨j, hj, rfl⟩ := List.mem_iff_getElem.1 h1;rw [List.length_drop] at hj;rw [List.getElem_drop];exact ⟨List.getElem_mem _, fun e => hp i (i + 1 + j) hi (by omega) (by omega) (hiv.trans e.symm)⟩
 ·rw [b2];exact Ze5 h.at' b1 hx.1 fun hh => hx.2 hh.2.2.symm
 ·rw [m2];show (s.recs.take i ++ s.recs.drop (i + 1)).length + 1 = _;simp only [List.length_append, List.length_take, List.length_drop];omega
theorem Zv5 {s : St} (h : s.Inv) (d : Dd) (bits : Int) : (s.step ⟨2, bits, 0, d⟩).st.Inv ∧ ((s.step ⟨2, bits, 0, d⟩).st.recs = s.recs ∨ (s.doS d).e = 0 ∧ (s.step ⟨2, bits, 0, d⟩).st.recs = (s.doS d).st.recs) := by
 have hg : K2 s ⟨2, bits, 0, d⟩ = true := by unfold K2; rw [if_pos (.inl (show (2 : Int) ≠ 3 by decide))]
 refine ⟨Zc5 h hg, ?_⟩;rcases Zp2 h hg with e | ⟨-, he, e⟩
 ·exact .inl e
 ·have hz : (s.doS d).e = 0 := by unfold St.doS; rw [if_pos he]
  exact .inr ⟨hz, by rw [e, (Zgu hz).2]⟩
def Zgq (r : Rec) : Got := if r.kind = 3 then ⟨r.ver, 10, []⟩ else ⟨r.ver, 0, r.data⟩
theorem Zzk (r : Rec) : (Zgq r).n = r.ver := by unfold Zgq; split <;> rfl
theorem Zlp {r : Rec} : ∀ (l : List Rec), (∀ x ∈ l, x.key = r.key → x = r ∨ x.ver < r.ver) → l.foldl (Q3 r.key) (Zgq r) = Zgq r
 | [], _ => rfl
 | x :: l, h => by
  rw [List.foldl_cons];have hx : Q3 r.key (Zgq r) x = Zgq r := by
   unfold Q3;rw [if_pos];by_cases hk : x.key = r.key
   ·right;rw [Zzk];rcases h x (by simp) hk with rfl | h1
    ·exact Int.le_refl _
    ·omega
   ·exact .inl hk
  rw [hx];exact Zlp l fun y hy => h y (by simp [hy])
theorem Zlq {r : Rec} : ∀ (l : List Rec) (g : Got), g.n < r.ver → r ∈ l → (∀ x ∈ l, x.key = r.key → x = r ∨ x.ver < r.ver) → l.foldl (Q3 r.key) g = Zgq r
 | [], _, _, hr, _ => by cases hr
 | x :: l, g, hg, hr, h => by
  rw [List.foldl_cons];have hl : ∀ y ∈ l, y.key = r.key → y = r ∨ y.ver < r.ver := fun y hy => h y (by simp [hy])
  by_cases e : x = r
  ·subst e;have : Q3 x.key g x = Zgq x := by
    unfold Q3 Zgq;rw [if_neg (by omega)]
   rw [this];exact Zlp l hl
  ·have hr' : r ∈ l := by
    rcases List.mem_cons.1 hr with h1 | h1
    ·exact absurd h1.symm e
    ·exact h1
   refine Zlq l _ ?_ hr' hl;unfold Q3;split
   ·exact hg
   ·rename_i hn;have hxv : x.ver < r.ver := (h x (by simp) (by omega)).resolve_left e;split <;> exact hxv
theorem Zpm {l : List Rec} {r : Rec} (hr : r ∈ l) (h0 : 1 ≤ r.ver) (h : ∀ x ∈ l, x.key = r.key → x = r ∨ x.ver < r.ver) : Q4 l r.key = Zgq r := Zlq l ⟨0, 6, []⟩ (show (0 : Int) < r.ver by omega) hr h
theorem Zkc {s : St} {d : Dd} (h : Zb8 s d) (hk : d.kind ≠ 2) : Q4 (s.doS d).st.recs d.key = ⟨Xe s.recs, 0, d.data⟩ := by
 have hr : Xf d (Xe s.recs) ∈ (s.doS d).st.recs := (h.mem _).2 (.inl rfl);have := Zpm hr (Zav (l := s.recs)).1 fun x hx _ => ((h.mem x).1 hx).imp id fun h1 => (Zav (l := s.recs)).2 x h1
 rw [show (Xf d (Xe s.recs)).key = d.key from rfl] at this;rw [this];unfold Zgq;rw [if_neg (show ¬ ((Xf d (Xe s.recs)).kind = 3) from (show ¬ (1 + d.kind = 3) by omega))];rfl
structure Zd4 (s : St) (m : Nat) : Prop where
 inv : s.Inv
 vers : ∀ r ∈ s.recs, r.ver ≤ (m : Int) + 1
 low : 1 ≤ s.recs.length
 high : s.recs.length ≤ m + 1
theorem Zij {s : St} {m : Nat} (h : Zd4 s m) (hm : m ≤ 4) {d : Dd} (hw : Z3 d = 0) (hk : d.kind ≠ 3) : Zb8 s d := by
 have := Zjd (m := (m : Int) + 1) (by omega) h.vers;have := h.high;exact Zi3 h.inv hw hk (by omega) (by omega)
theorem Zrr {s : St} {m : Nat} (h : Zd4 s m) (hm : m ≤ 4) {d : Dd} (hw : Z3 d = 0) (hk : d.kind ≠ 3) : Zd4 (s.doS d).st (m + 1) := by
 have hM := Zij h hm hw hk;have hn := Zjd (m := (m : Int) + 1) (by omega) h.vers;refine ⟨hM.inv, fun r hr => ?_, by rw [hM.len]; omega, by rw [hM.len]; have := h.high; omega⟩;rcases (hM.mem r).1 hr with rfl | h1
 ·show Xe s.recs ≤ _;omega
 ·have := h.vers r h1; omega
theorem Zrq {s : St} {m : Nat} (h : Zd4 s m) (hm : m ≤ 4) {d : Dd} (hw : Z3 d = 0) (hk : d.kind ≠ 3) (bits : Int) : Zd4 (s.step ⟨2, bits, 0, d⟩).st (m + 1) := by
 obtain ⟨h1, h2⟩ := Zv5 h.inv d bits;rcases h2 with e | ⟨-, e⟩
 ·exact ⟨h1, fun r hr => by rw [e] at hr; have := h.vers r hr; omega, by rw [e]; exact h.low, by rw [e]; have := h.high; omega⟩
 ·have hd := Zrr h hm hw hk;exact ⟨h1, fun r hr => by rw [e] at hr; exact hd.vers r hr, by rw [e]; exact hd.low, by rw [e]; exact hd.high⟩
theorem Zoc {d : Dd} (hw : Z3 d = 0) (hk : d.kind ≠ 3) : Zd4 (V9.doS d).st 0 := by
 have hM : Zb8 V9 d := Zi3 Zb3 hw hk (by rw [Kk]; decide) (by rw [Kk]; decide);refine ⟨hM.inv, fun r hr => ?_, by rw [hM.len, Kk]; decide, by rw [hM.len, Kk]; decide⟩;rcases (hM.mem r).1 hr with rfl | h1
 ·show Xe V9.recs ≤ _;rw [Kk]; decide
 ·rw [Kk] at h1; cases h1
def Ziq (j : Nat) (b : List UInt8) : Rec := ⟨2, 7, (j : Int) + 1, b⟩
structure Kp (s : St) (bs : List (List UInt8)) : Prop where
 inv : s.Inv
 mem : ∀ r, r ∈ s.recs ↔ ∃ (j : Nat) (b : List UInt8), bs[j]? = some b ∧ r = Ziq j b
 len : s.recs.length = bs.length
theorem Zu9 : Kp V9 [] := ⟨Zb3, fun r => by rw [Kk]; simp, by rw [Kk]; rfl⟩
theorem Zr8 {s : St} {bs : List (List UInt8)} (h : Kp s bs) : Xe s.recs = (bs.length : Int) + 1 := by
 have h1 := Zjd (l := s.recs) (m := (bs.length : Int)) (by omega) fun r hr => by
  obtain ⟨j, b, hj, rfl⟩ := (h.mem r).1 hr;have := (List.getElem?_eq_some_iff.1 hj).1;show (j : Int) + 1 ≤ _;omega
 have h2 := Zav (l := s.recs);by_cases h0 : bs.length = 0
 ·have := h2.1; omega
 ·have := h2.2 (Ziq (bs.length - 1) bs[bs.length - 1]) ((h.mem _).2 ⟨bs.length - 1, _, List.getElem?_eq_getElem (by omega), rfl⟩);have e : (Ziq (bs.length - 1) bs[bs.length - 1]).ver = ((bs.length - 1 : Nat) : Int) + 1 := rfl;omega
theorem Zu8 {s : St} {bs : List (List UInt8)} (h : Kp s bs) (h5 : bs.length ≤ 5) {b : List UInt8} (hb : b.length ≤ 8) : (s.doS ⟨1, 7, 0, b⟩).e = 0 ∧ (s.doS ⟨1, 7, 0, b⟩).n = (bs.length : Int) + 1 ∧ Kp (s.doS ⟨1, 7, 0, b⟩).st (bs ++ [b]) := by
 have hw : Z3 ⟨1, 7, 0, b⟩ = 0 := by
  unfold Z3;simp only;rw [if_neg (by omega), if_neg (by simp), if_neg (by simp; omega)]
 have hv := Zr8 h;have hM : Zb8 s ⟨1, 7, 0, b⟩ := Zi3 h.inv hw (show (1 : Int) ≠ 3 by decide) (by rw [h.len]; exact h5) (by omega);refine ⟨hM.e, by rw [hM.n, hv], hM.inv, fun r => ?_, by rw [hM.len, h.len]; simp⟩;rw [hM.mem r, hv];have hmk : Xf ⟨1, 7, 0, b⟩ ((bs.length : Int) + 1) = Ziq bs.length b := rfl;rw [hmk];constructor
 ·rintro (rfl | hr)
  ·exact ⟨bs.length, b, by simp, rfl⟩
  ·obtain ⟨j, c, hj, rfl⟩ := (h.mem r).1 hr;exact ⟨j, c, by rw [List.getElem?_append_left (List.getElem?_eq_some_iff.1 hj).1]; exact hj, rfl⟩
 ·rintro ⟨j, c, hj, rfl⟩;by_cases hjl : j < bs.length
  ·rw [List.getElem?_append_left hjl] at hj;exact .inr ((h.mem _).2 ⟨j, c, hj, rfl⟩)
  ·have hjb := (List.getElem?_eq_some_iff.1 hj).1;simp only [List.length_append, List.length_cons, List.length_nil] at hjb;have : j = bs.length := by omega
   subst this;simp at hj;subst hj;exact .inl rfl
theorem Zr9 {s : St} {bs : List (List UInt8)} {b : List UInt8} (h : Kp s (bs ++ [b])) (h5 : bs.length ≤ 5) : (s.doS ⟨3, 7, (bs.length : Int) + 1, []⟩).e = 0 ∧ Kp (s.doS ⟨3, 7, (bs.length : Int) + 1, []⟩).st bs := by
 have hw : Z3 ⟨3, 7, (bs.length : Int) + 1, []⟩ = 0 := by
  unfold Z3;simp only;rw [if_neg (by omega), if_neg (by simp; omega), if_neg (by simp)]
 have hr : Ziq bs.length b ∈ s.recs := (h.mem _).2 ⟨bs.length, b, by simp, rfl⟩;have hT : Zmd s ⟨3, 7, (bs.length : Int) + 1, []⟩ := Zsu h.inv hw rfl hr rfl rfl;refine ⟨hT.e, hT.inv, fun r => ?_, by have := hT.len; rw [h.len] at this; simp at this; exact this⟩;rw [hT.mem r, h.mem r];constructor
 ·rintro ⟨⟨j, c, hj, rfl⟩, hn⟩;have hne : j ≠ bs.length := by
   rintro rfl;exact hn rfl
  have hjb := (List.getElem?_eq_some_iff.1 hj).1;simp only [List.length_append, List.length_cons, List.length_nil] at hjb;rw [List.getElem?_append_left (by omega)] at hj;exact ⟨j, c, hj, rfl⟩
 ·rintro ⟨j, c, hj, rfl⟩;have hjb := (List.getElem?_eq_some_iff.1 hj).1;refine ⟨⟨j, c, by rw [List.getElem?_append_left hjb]; exact hj, rfl⟩, ?_⟩;show (j : Int) + 1 ≠ (bs.length : Int) + 1;omega
theorem Zva {s : St} {bs : List (List UInt8)} {b : List UInt8} (h : Kp s (bs ++ [b])) : Q4 s.recs 7 = ⟨(bs.length : Int) + 1, 0, b⟩ := by
 have hr : Ziq bs.length b ∈ s.recs := (h.mem _).2 ⟨bs.length, b, by simp, rfl⟩;refine Zpm hr (show 1 ≤ (bs.length : Int) + 1 by omega) fun x hx _ => ?_;obtain ⟨j, c, hj, rfl⟩ := (h.mem x).1 hx;have hjb := (List.getElem?_eq_some_iff.1 hj).1;simp only [List.length_append, List.length_cons, List.length_nil] at hjb;by_cases e : j = bs.length
 ·subst e;simp at hj;subst hj;exact .inl rfl
 ·right;show (j : Int) + 1 < (bs.length : Int) + 1;omega
theorem Zsa {s : St} (h : Kp s []) : Q4 s.recs 7 = ⟨0, 6, []⟩ ∧ s.idx.length = 0 := by
 have hl : s.recs.length = 0 := h.len;have hn : s.recs = [] := List.eq_nil_of_length_eq_zero hl;refine ⟨by rw [hn]; rfl, ?_⟩;unfold St.recs at hl;rw [List.length_map] at hl;exact hl
end Go.Proofs.YtgaecpdokgklpadGreatDoor
namespace Go.Proofs.YtgaecpdokgklpadGreatDoor
set_option maxRecDepth 100000
open Go.RowKit
open Plain Reg
def Zc1 : Qb (List UInt8) where
 T := 9
 size := 1
 enc _ _ x cs := cs = [.string ⟨x.toArray⟩]
 len := by rintro S w x cs rfl; rfl
 keep := by rintro S w w' x cs rfl _; rfl
 mono := by rintro S S' w x cs rfl _; rfl
 cap := by rintro S w x cs rfl; rfl
 one := by
  rintro S w x cs rfl c hc;simp only [List.mem_cons, List.not_mem_nil, or_false] at hc;subst hc; rfl
theorem Zv3 {S : Nat → Prop} {w : World} {ao : Option Addr} {n cap : Nat} {l : List (List UInt8)} (h : Zy Zc1 S w (.slice ao n cap) l) (i : Nat) (hi : i < l.length) : ∃ b off, ao = some ⟨b, off, none⟩ ∧ w.cell? ⟨b, off + i, none⟩ = some (.string ⟨l[i].toArray⟩) := by
 obtain ⟨b, off, rfl, _, cs, hcs, hc⟩ := h.at i hi;have hcs' : cs = [.string ⟨l[i].toArray⟩] := hcs;subst hcs';have h0 : w.cell? ⟨b, off + i * 1 + 0, none⟩ = some (.string ⟨l[i].toArray⟩) := hc 0 _ rfl;exact ⟨b, off, rfl, by simpa using h0⟩
def Xp (ds : List Dd) : St := ds.foldl (fun s d => (s.doS d).st) V9
theorem Zl3 (ds : List Dd) {k : Nat} (h : k < ds.length) : Xp (ds.take (k + 1)) = ((Xp (ds.take k)).doS ds[k]).st := by
 unfold Xp;rw [List.take_succ_eq_append_getElem h, List.foldl_append]; rfl
theorem Zgt : ∀ (ds : List Dd) (s : St), s.Inv → (ds.foldl (fun s d => (s.doS d).st) s).Inv
 | [], _, h => h
 | d :: ds, _, h => Zgt ds _ (Zen h d)
structure Zg6 (ts : List (List UInt8)) (ds : List Dd) : Prop where
 len : ts.length = ds.length
 short : ∀ t ∈ ts, t.length ≤ 1000
 small : ∀ d ∈ ds, d.data.length ≤ 1000
 parse : ∀ (k : Nat) (t : List UInt8) (d : Dd), ts[k]? = some t → ds[k]? = some d → Je t = (d, 0)
 e : ∀ (k : Nat) (d : Dd), ds[k]? = some d → ((Xp (ds.take k)).doS d).e = 0
theorem Zom {w : World} {v : Value} {l : List UInt8} {P : Nat → Prop} (h : Bytes w v l) (hP : ∀ b off x, w.cell? ⟨b, off, none⟩ = some (.int .u8 x) → P b) : Z5 P w v l := by
 rcases h with h | ⟨b, off, cap, h1, h2, hc⟩
 ·exact .inl h
 ·by_cases h0 : l = []
  ·subst h0;exact .inl ⟨_, cap, h1, rfl, fun h => by cases h⟩
  ·exact .inr ⟨b, off, cap, hP b _ _ (hc 0 (List.length_pos_iff.2 h0)), h1, h2, hc⟩
theorem Zhy {w : World} {G : Nat} {a0 a1 a2 : Option Addr} {n0 n1 n2 c0 c1 c2 : Nat} {x : Int} {T : TypeId} {f : Nat × Nat} (h : w.heap[G]? = some (.cells #[.slice a0 n0 c0, .slice a1 n1 c1, .slice a2 n2 c2, .int .i64 x] T f)) {b off : Nat} {y : Int} (hb : w.cell? ⟨b, off, none⟩ = some (.int .u8 y)) : b ≠ G := by
 rintro rfl;have e : w.cell? ⟨b, off, none⟩ = (#[.slice a0 n0 c0, .slice a1 n1 c1, .slice a2 n2 c2, .int .i64 x] : Array Value)[off]? := by
  cases hx : (#[.slice a0 n0 c0, .slice a1 n1 c1, .slice a2 n2 c2, .int .i64 x] : Array Value)[off]? with
  | some u => exact Zf h off u hx
  | none =>
   exfalso;simp only [World.cell?, h] at hb;rw [hx] at hb;cases hb
 rw [e] at hb
 match off, hb with
 | 0, hb => cases hb
 | 1, hb => cases hb
 | 2, hb => cases hb
 | 3, hb => simp at hb
 | k + 4, hb => simp at hb
def Zbq (V : World → Prop) : Prop := ∀ (ts : List (List UInt8)) (ds : List Dd) (v : Value) (w : World), V w → Zy Zc1 (fun _ => True) w v ts → Zg6 ts ds → ts.length ≤ 100 →
 Calls Tryz.prog 7 #[v] w fun r w' => ∃ v', r = .returned (.tuple #[v', .bool true]) ∧ Zx (fun _ => True) (Xp ds) v' w' ∧ Zj w w'
theorem Zmw (V : World → Prop) (hV : ∀ w w', V w → Zj w w' → V w') (SN : Zvl) (PD : Zg4 [1]) (TR : Zj2 V) : Zbq V := by
 intro ts ds v w hVw hts hOk hm;have HOK : Hid (Zg6 ts ds) := hOk;have HLD : Hid (ts.length = ds.length) := hOk.len;clear hOk;obtain ⟨ao, cp, rfl⟩ := Zy.form hts;have g0 := Zd w Y6;have hR0 := Zk w #[.slice none 0 0, .slice none 0 0, .slice none 0 0, .int .i64 0] 30;obtain ⟨D, hD⟩ : ∃ D, D = Xp ds := ⟨_, rfl⟩;rw [← hD];have HD : Hid _ := hD;clear hD;go_enter Tryz.func7, Tryz.ntmps7;go_wp2_with fail;refine (SN (fun _ => False) (w.alloc Y6) (fun b h => h.elim)).mono ?_;have H0 : Hid (Xp (ds.take 0) = V9) := rfl;have HA0 : Hid ((Xp (ds.take 0)).Inv) := Zb3;rw [← H0.out];clear H0;obtain ⟨s0, hs0⟩ : ∃ s0, s0 = Xp (ds.take 0) := ⟨_, rfl⟩;rw [← hs0] at HA0 ⊢;have HS0 : Hid (Xp (ds.take 0) = s0) := hs0.symm;clear hs0;rintro r w1 ⟨v1, rfl, h1, g1⟩;obtain ⟨b1, e1, l1, m1, i1, j1, hv1, -, -, -⟩ := h1.form;subst hv1;rw [World.size_alloc] at h1;obtain ⟨G, hG⟩ : ∃ G, G = w1.heap.size := ⟨_, rfl⟩;have g2 := Zd w1 (.cells #[.slice b1 s0.dk.blocks.length e1, .slice l1 s0.dk.late.length m1, .slice i1 s0.idx.length j1, .int .i64 s0.next] 30);have hY2 := Zk w1 #[.slice b1 s0.dk.blocks.length e1, .slice l1 s0.dk.late.length m1, .slice i1 s0.idx.length j1, .int .i64 s0.next] 30;have hR2 := ((g1.trans g2).block _ (Za hR0)).trans hR0;have gw2 := g0.trans (g1.trans g2);have hwG : w.heap.size < G := by have := g1.size; rw [World.size_alloc] at this; omega
 have hS2 : Zx (fun b => b ≠ G ∧ b ≠ w.heap.size) s0 (.agg #[.slice b1 s0.dk.blocks.length e1, .slice l1 s0.dk.late.length m1, .slice i1 s0.idx.length j1, .int .i64 s0.next]) (w1.alloc (.cells #[.slice b1 s0.dk.blocks.length e1, .slice l1 s0.dk.late.length m1, .slice i1 s0.idx.length j1, .int .i64 s0.next] 30)) := (h1.capd.grow g2).mono (by
  rintro b ⟨h | h, hb⟩
  ·exact h.elim
  ·show b ≠ G ∧ b ≠ w.heap.size; omega)
 rw [← hG] at hY2;have HG : Hid _ := hG;clear h1 g0 g1 g2 hR0 hG;go_wp2_with fail;rw [← HG.out];clear HG;generalize World.alloc w1 _ = w2 at *;go_loopw [15] (fun i wr => ∃ (k : Nat) (s : St) (b1 : Option Addr) (e1 : Nat) (l1 : Option Addr) (m1 : Nat) (i1 : Option Addr) (j1 : Nat), k ≤ ts.length ∧ i = .int .i64 (k : Int) ∧ Hid (Xp (ds.take k) = s) ∧ Hid s.Inv ∧ wr.heap[w.heap.size]? = some Y6 ∧ wr.heap[G]? = some (.cells #[.slice b1 s.dk.blocks.length e1, .slice l1 s.dk.late.length m1, .slice i1 s.idx.length j1, .int .i64 s.next] 30 (0, 0)) ∧ Zx (fun b => b ≠ G ∧ b ≠ w.heap.size) s (.agg #[.slice b1 s.dk.blocks.length e1, .slice l1 s.dk.late.length m1, .slice i1 s.idx.length j1, .int .i64 s.next]) wr ∧ Zj w wr) (fun i _ => ts.length - (intOf i).toNat)
 case atStart => exact ⟨0, s0, b1, e1, l1, m1, i1, j1, by omega, rfl, HS0, HA0, hR2, hY2, hS2, gw2⟩
 case round =>
  clear hR2 hY2 hS2 gw2 HS0 HA0;obtain ⟨k, s, b1, e1, l1, m1, i1, j1, hk, rfl, HS, HA, hR, hY, hS, gw⟩ := hrel;by_cases hlt : k < ts.length
  ·obtain ⟨bt, ot, hao, q0⟩ := Zv3 (Zy.grow hts gw) k hlt;cases hao;have hkd : k < ds.length := by rw [← HLD.out]; exact hlt
   have HPA : Hid (Je ts[k] = (ds[k], 0)) := HOK.out.parse k _ _ (List.getElem?_eq_getElem hlt) (List.getElem?_eq_getElem hkd);have HEE : Hid ((s.doS ds[k]).e = 0) := by rw [← HS.out]; exact HOK.out.e k _ (List.getElem?_eq_getElem hkd)
   have HNX : Hid (Xp (ds.take (k + 1)) = (s.doS ds[k]).st) := by show _ = _; rw [Zl3 ds hkd, HS.out]
   have HTL : Hid (ts[k].length ≤ 1000) := HOK.out.short _ (List.getElem_mem hlt);have HDL : Hid (ds[k].data.length ≤ 1000) := HOK.out.small _ (List.getElem_mem hkd);generalize ts[k] = t at *;generalize ds[k] = d at *;clear hkd;go_wp2_with fail;refine (TR t wr (hV _ _ hVw gw) (by have := HTL.out; omega)).mono ?_;rw [HPA.out];rintro r w4 ⟨v4, rfl, ⟨ad, cd, hv4, hbd⟩, g4⟩;simp only at hv4 hbd;subst hv4;have g5 := Zd w4 (.cells #[.int .i64 d.kind, .int .i64 d.key, .int .i64 d.num, .slice ad d.data.length cd] 40);have hD5 := Zk w4 #[.int .i64 d.kind, .int .i64 d.key, .int .i64 d.num, .slice ad d.data.length cd] 40;have gg := g4.trans g5;have hR5 := (gg.block _ (Za hR)).trans hR;have hY5 := (gg.block _ (Za hY)).trans hY;have hS5 := hS.grow gg;have hb5 := Z2 hbd g5;have gw5 := gw.trans gg;clear hR hY hS gw hbd g4 g5 gg q0;obtain ⟨y0, y1, y2, y3⟩ := Z9 hY5 rfl rfl rfl rfl;obtain ⟨p0, p1, p2, p3⟩ := Z9 hD5 rfl rfl rfl rfl;go_wp2_with fail;clear y0 y1 y2 y3 p0 p1 p2 p3 hD5;generalize World.alloc w4 _ = w5 at *;have hG5 : G < w5.heap.size := Za hY5;refine (PD (fun b => (b ≠ G ∧ b ≠ w.heap.size) ∧ b < w5.heap.size) s ⟨1, 0, 0, d⟩ _ ad cd w5 (show (1 : Int) ∈ ([1] : List Int) by decide) (fun b h => h.2) hS5.capd (Zom hb5 (fun b off x hx => ⟨⟨Zhy hY5 hx, Zhy hR5 hx⟩, Zu hx⟩)) HA.out.at' (by have := HDL.out; show d.data.length ≤ _; omega)).mono ?_;rw [show s.step ⟨1, 0, 0, d⟩ = s.doS d from if_pos rfl];have HBI : Hid ((s.doS d).st.Inv) := Zen HA.out d;rw [HEE.out];clear HEE
   generalize s.doS d = B at *;rintro r w6 ⟨v6, rfl, h6, g6⟩;obtain ⟨b6, e6, l6, m6, i6, j6, hv6, -, -, -⟩ := h6.form;subst hv6;have h6' : Zx (fun b => b ≠ G ∧ b ≠ w.heap.size) B.st (.agg #[.slice b6 B.st.dk.blocks.length e6, .slice l6 B.st.dk.late.length m6, .slice i6 B.st.idx.length j6, .int .i64 B.st.next]) w6 := h6.mono (by
    rintro b (h | h)
    ·exact h.1
    ·show b ≠ G ∧ b ≠ w.heap.size; omega)
   have g7 := Zd w6 (.cells #[.slice b6 B.st.dk.blocks.length e6, .slice l6 B.st.dk.late.length m6, .slice i6 B.st.idx.length j6, .int .i64 B.st.next] 30);have hZ7 := Zk w6 #[.slice b6 B.st.dk.blocks.length e6, .slice l6 B.st.dk.late.length m6, .slice i6 B.st.idx.length j6, .int .i64 B.st.next] 30;have gg := g6.trans g7;have hR7 := (gg.block _ (Za hR5)).trans hR5;have hY7 := (gg.block _ (Za hY5)).trans hY5;have hS7 := h6'.grow g7;have gw7 := gw5.trans gg;have hG6 : G < w6.heap.size := Nat.lt_of_lt_of_le hG5 g6.size;clear h6 h6' g6 g7 gg hR5 hY5 hS5 gw5 hb5 hG5;go_upto_region 11 with fail
   obtain ⟨Z, hZ⟩ : ∃ Z, Z = w6.heap.size := ⟨_, rfl⟩;rw [← hZ] at hZ7 ⊢;clear hZ hG6;generalize World.alloc w6 _ = w7 at *;obtain ⟨hp1, hp2⟩ := Yg hY7 (.slice b6 B.st.dk.blocks.length e6) (.slice l6 B.st.dk.late.length m6) (.slice i6 B.st.idx.length j6) (.int .i64 B.st.next);have hR8 := (hp2.block _ (Za hR7) (by omega)).trans hR7;have hS8 := hS7.but hp2 (fun h => h.1 rfl);have gw8 := hp2.grow gw7 (by omega);obtain ⟨z0, z1, z2, z3⟩ := Z9 hZ7 rfl rfl rfl rfl;obtain ⟨y0, y1, y2, y3⟩ := Z9 hY7 rfl rfl rfl rfl;obtain ⟨f0, f1, f2, f3⟩ := Y0 hY7;have cs := Zv;clear hp2 hR7 hY7 hZ7 hS7 gw7;go_wp2_with fail;go_roundw
   case rel => exact ⟨k + 1, B.st, b6, e6, l6, m6, i6, j6, by omega, by go_num, HNX, HBI, hR8, hp1, hS8, gw8⟩
   case measure => simp [intOf]; omega
  ·have HE : Hid (Xp ds = s) := by
    show _ = _;rw [← HS.out, List.take_of_length_le (by rw [← HLD.out]; omega)]
   obtain rfl : D = s := by rw [HD.out, HE.out]
   clear HE HS;obtain ⟨hq1, hq2⟩ := Yg hR (.slice b1 D.dk.blocks.length e1) (.slice l1 D.dk.late.length m1) (.slice i1 D.idx.length j1) (.int .i64 D.next);obtain ⟨x0, x1, x2, x3⟩ := Z9 hq1 rfl rfl rfl rfl;obtain ⟨z0, z1, z2, z3⟩ := Z9 hR rfl rfl rfl rfl;obtain ⟨o0, o1, o2, o3⟩ := Y0 hR;obtain ⟨y0, y1, y2, y3⟩ := Z9 hY rfl rfl rfl rfl;have cs := Zv;have gE := hq2.grow gw (Nat.le_refl _);have hE := (hS.but hq2 (fun h => h.2 rfl)).any;clear hq1 hq2 hR hY hS gw;go_wp2_with fail;exact bodyPost_ret (v := .tuple #[.agg #[.slice b1 D.dk.blocks.length e1, .slice l1 D.dk.late.length m1, .slice i1 D.idx.length j1, .int .i64 D.next], .bool true]) (by simp [results, Tryz.results7, go_sem, x0, x1, x2, x3]) rfl ⟨_, rfl, hE, gE⟩
end Go.Proofs.YtgaecpdokgklpadGreatDoor
