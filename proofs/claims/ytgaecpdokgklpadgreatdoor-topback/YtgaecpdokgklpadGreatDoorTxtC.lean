import Derived.Test.YtgaecpdokgklpadGreatDoorInv3
import Derived.Lib.SlBytesConst
set_option maxHeartbeats 8000000
namespace Go.Proofs.YtgaecpdokgklpadGreatDoor
set_option maxRecDepth 100000
open Go.RowKit
open Plain Reg
def Zwi (p : Dd × Int) (v : Value) (w : World) : Prop := ∃ a c, v = .tuple #[.agg #[.int .i64 p.1.kind, .int .i64 p.1.key, .int .i64 p.1.num, .slice a p.1.data.length c], .int .i64 p.2] ∧ Bytes w (.slice a p.1.data.length c) p.1.data
def Zi8 (V : World → Prop) : Prop := ∀ (s : List UInt8) (w : World), V w → s.length ≤ 140737488355328 →
 Calls Tryz.prog 14 #[.string ⟨s.toArray⟩] w fun r w' => ∃ v, r = .returned v ∧ Zwi (Kw s) v w' ∧ Zj w w'
theorem Ku (w : World) (v : Value) (l : List UInt8) (h : Bytes w v l) : (convert 38 9 v).run Tryz.prog w = .ok (.string ⟨l.toArray⟩) w := Zih w v l h
end Go.Proofs.YtgaecpdokgklpadGreatDoor
namespace Go.Proofs.YtgaecpdokgklpadGreatDoor
set_option maxRecDepth 100000
open Plain
theorem Zek {s : St} (h : s.At) {d : Dd} (he : (s.begin d).e = 0) {r : Rec} (hr : r ∈ s.recs) (hn : ¬ (d.kind = 3 ∧ d.key = r.key ∧ d.num = r.ver)) : r ∈ (s.begin d).st.recs := by
 obtain ⟨hw, hd⟩ := Zci he;have hb : s.begin d = if d.kind = 3 then ⟨⟨s.dk.pairD (Zgg d s.idx) Rec.free, K0 s.idx (Zgg d s.idx), s.next⟩, (doR s.recs d).n, 0⟩ else ⟨⟨s.dk.pairD (Xr s.idx) (Xa d (doR s.recs d).n), X9 ⟨Xa d (doR s.recs d).n, (Xr s.idx : Nat)⟩ s.idx, s.next⟩, (doR s.recs d).n, 0⟩ := by
  unfold St.begin;rw [if_neg (by simpa using hw), if_neg (by simpa using hd)]
 obtain ⟨x, hx, rfl⟩ := List.mem_map.1 hr;rw [hb];by_cases hk : d.kind = 3
 ·rw [if_pos hk];obtain ⟨y, hf, ha⟩ := Zfe hk hd;rw [ha];refine List.mem_map.2 ⟨x, List.mem_filter.2 ⟨hx, decide_eq_true fun hp => ?_⟩, rfl⟩;have hy := List.mem_of_find?_eq_some hf;have hq : y.rc.key = d.key ∧ y.rc.ver = d.num := by
   have := List.find?_some (show s.idx.find? (fun x => decide (x.rc.key = d.key ∧ x.rc.ver = d.num)) = some y from hf);exact of_decide_eq_true this
  have hup := ((Yy s.idx).1 h.ok.right).1;have hxy : x = y := by
   obtain ⟨i, hi, rfl⟩ := List.mem_iff_getElem.1 hx;obtain ⟨j, hj, rfl⟩ := List.mem_iff_getElem.1 hy;rcases Nat.lt_trichotomy i j with hl | hl | hl
   ·exact absurd hp (List.pairwise_iff_getElem.1 hup i j hi hj hl).2
   ·subst hl; rfl
   ·exact absurd hp.symm (List.pairwise_iff_getElem.1 hup j i hj hi hl).2
  subst hxy;exact hn ⟨hk, hq.1.symm, hq.2.symm⟩
 ·rw [if_neg hk];exact List.mem_map.2 ⟨x, (Vd _ _ _).2 (.inr hx), rfl⟩
theorem Zo3 {s : St} (h : s.Inv) {x : Sp} (hx : Kk s x = true) : (s.step x).st.recs = s.recs ∨ (x.kind = 1 ∨ x.kind = 2) ∧ (s.begin x.deed).e = 0 ∧ (s.step x).st.recs = (s.begin x.deed).st.recs := by
 have hg := h.good;have hi := Zcs h hx;have same : (∀ q : Nat, q < 6 → (s.step x).st.dk.tell (q : Int) = s.dk.tell (q : Int)) → (s.step x).st.recs = s.recs := fun ht => by
  unfold St.recs;rw [hi.idx, h.idx, Kp 6 ht]
 by_cases k1 : x.kind = 1
 ·have hs : s.step x = s.doS x.deed := by unfold St.step; rw [if_pos k1]
  rw [hs];by_cases he : (s.begin x.deed).e = 0
  ·exact .inr ⟨.inl k1, he, by unfold St.doS; rw [if_pos he]; rfl⟩
  ·left; unfold St.doS; rw [if_neg he, (Zd4 he).1]
 ·by_cases k2 : x.kind = 2
  ·by_cases he : (s.begin x.deed).e = 0
   ·have hs : (s.step x).st = Xt ((s.begin x.deed).st.dk.keep x.n) := by unfold St.step; rw [if_neg k1, if_pos k2, if_neg (by simpa using he)]
    obtain ⟨p, r, H⟩ := Zaj h he;have hk : (s.begin x.deed).st.dk.keep x.n = s.dk.half p r (Qh x.n 0) (Qh x.n 1) := by rw [H.disk, Zg8 h.good.fine H.p6 H.right]
    have hg2 := H.good (Qh x.n 0) (Qh x.n 1);rw [hs, hk];unfold St.recs;rw [hg2.mounted];rcases H.same (Qh x.n 0) (Qh x.n 1) with e | e
    ·left;show (Yc _ 6).map Ent.rc = _;rw [Kp 6 e, h.idx]
    ·right;refine ⟨.inr k2, he, ?_⟩;show (Yc _ 6).map Ent.rc = _;rw [e]
   ·left;have hs : (s.step x).st = s := by unfold St.step; rw [if_neg k1, if_pos k2, if_pos he]
    rw [hs]
  ·left;by_cases k3 : x.kind = 3
   ·have hs : (s.step x).st.idx = s.idx := by
     unfold St.step;rw [if_neg k1, if_neg k2, if_pos k3];split <;> rfl
    unfold St.recs;rw [hs]
   ·by_cases k4 : x.kind = 4
    ·refine same fun q hq => ?_;have hs : (s.step x).st = s.scrub := by unfold St.step; rw [if_neg k1, if_neg k2, if_neg k3, if_pos k4]
     rw [hs];have c1 : ((s.next.toNat : Nat) : Int) = s.next := by have := h.at'.low; omega
     have := (hg.mend (p := s.next.toNat) (by have := h.at'.high; omega)).2 q hq;rw [c1] at this;exact this
    ·by_cases k5 : x.kind = 5
     ·refine same fun q hq => ?_;have hs : (s.step x).st = Xt s.dk.clean := by unfold St.step; rw [if_neg k1, if_neg k2, if_neg k3, if_neg k4, if_pos k5]
      obtain ⟨h1, h2⟩ := hg.cleaned;rw [hs, h1.mounted];exact h2 q hq
     ·by_cases k6 : x.kind = 6
      ·refine same fun q _ => ?_;have hs : (s.step x).st = Xt s.dk := by unfold St.step; rw [if_neg k1, if_neg k2, if_neg k3, if_neg k4, if_neg k5, if_pos k6]
       rw [hs, hg.mounted]
      ·have hs : (s.step x).st = s := by unfold St.step; rw [if_neg k1, if_neg k2, if_neg k3, if_neg k4, if_neg k5, if_neg k6]
       rw [hs]
theorem Zv1 {s : St} {d : Dd} (hk : d.kind ≠ 3) (he : (s.doS d).e = 0) : Xa d (s.doS d).n ∈ (s.doS d).st.recs := by
 have he0 : (s.begin d).e = 0 := by
  unfold St.doS at he;by_cases hb : (s.begin d).e = 0
  ·exact hb
  ·rw [if_neg hb] at he; exact absurd he hb
 obtain ⟨hw, hd⟩ := Zci he0;have hb : s.begin d = ⟨⟨s.dk.pairD (Xr s.idx) (Xa d (doR s.recs d).n), X9 ⟨Xa d (doR s.recs d).n, (Xr s.idx : Nat)⟩ s.idx, s.next⟩, (doR s.recs d).n, 0⟩ := by
  unfold St.begin;rw [if_neg (by simpa using hw), if_neg (by simpa using hd), if_neg hk]
 unfold St.doS;rw [if_pos he0, hb];exact List.mem_map.2 ⟨_, (Vd _ _ _).2 (.inl rfl), rfl⟩
end Go.Proofs.YtgaecpdokgklpadGreatDoor
namespace Go.Proofs.YtgaecpdokgklpadGreatDoor
set_option maxRecDepth 100000
open Go.RowKit
open Plain Reg
theorem Zvs : Vv.idx = [] := by
 rw [Zbm.idx];cases h : Yc Vv.dk 6 with
 | nil => rfl
 | cons x l =>
  exfalso;have hx : x ∈ Yc Vv.dk 6 := by rw [h]; simp
  obtain ⟨p, hp, hk, -⟩ := (Qb _ _ 6).1 hx;have hd : Vv.dk = Dk.new := by show Dk.new.keep 0 = _; exact Zkf.keep0
  rw [hd] at hk;have : ∀ q : Fin 6, (Dk.new.tell ((q.val : Nat) : Int)).kind = 1 := by decide +kernel
  exact hk (this ⟨p, hp⟩)
theorem V5 : Vv.recs = [] := by unfold St.recs; rw [Zvs]; rfl
end Go.Proofs.YtgaecpdokgklpadGreatDoor
namespace Go.Proofs.YtgaecpdokgklpadGreatDoor
set_option maxRecDepth 100000
open Plain
theorem Zph {s : St} (h : s.Inv) : s.recs.Pairwise fun a b => a.ver ≠ b.ver := by
 unfold St.recs;rw [List.pairwise_map];refine (Zoi h).imp_of_mem ?_;intro a b ha hb hu e;obtain ⟨p, hp, hk, rfl⟩ := (Zbo h a).1 ha;obtain ⟨q, hq, hk', rfl⟩ := (Zbo h b).1 hb;have := h.once p q hp hq hk hk' e;subst this;exact hu.2 rfl
theorem Zkd {m : Int} : ∀ (l : List Rec) (n : Int), n ≤ m + 1 → (∀ r ∈ l, r.ver ≤ m) → l.foldl (fun n r => if n ≤ r.ver then r.ver + 1 else n) n ≤ m + 1
 | [], n, hn, _ => hn
 | x :: l, n, hn, h => by
  rw [List.foldl_cons];refine Zkd l _ ?_ (fun r hr => h r (by simp [hr]));have := h x (by simp);split <;> omega
theorem Zik {l : List Rec} {m : Int} (h0 : 0 ≤ m) (h : ∀ r ∈ l, r.ver ≤ m) : Y9 l ≤ m + 1 := Zkd l 1 (by omega) h
theorem Zgz {a b : List Rec} (h : Jl a b = true) : (∀ r ∈ a, r ∈ b) ∧ a.length = b.length := by
 unfold Jl at h;simp only [Bool.and_eq_true, List.all_eq_true, decide_eq_true_eq] at h;refine ⟨fun r hr => ?_, h.2⟩;have := h.1 r hr;unfold Zh0 at this;rw [List.any_eq_true] at this;obtain ⟨x, hx, he⟩ := this;rw [← (Jw _ _).1 he]; exact hx
theorem Zga {s : St} {d : Dd} (h : (s.doS d).e = 0) : (s.begin d).e = 0 ∧ (s.doS d).st.recs = (s.begin d).st.recs := by
 by_cases he : (s.begin d).e = 0
 ·exact ⟨he, by unfold St.doS; rw [if_pos he]; rfl⟩
 ·unfold St.doS at h;rw [if_neg he] at h;exact absurd h he
structure Zbt (s : St) (d : Dd) : Prop where
 e : (s.doS d).e = 0
 n : (s.doS d).n = Y9 s.recs
 inv : (s.doS d).st.Inv
 mem : ∀ r, r ∈ (s.doS d).st.recs ↔ r = Xa d (Y9 s.recs) ∨ r ∈ s.recs
 len : (s.doS d).st.recs.length = s.recs.length + 1
theorem Zic {s : St} (h : s.Inv) {d : Dd} (hw : Z1 d = 0) (hk : d.kind ≠ 3) (h5 : s.recs.length ≤ 5) (hn : Y9 s.recs ≤ 60000) : Zbt s d := by
 have hd : doR s.recs d = ⟨s.recs ++ [Xa d (Y9 s.recs)], Y9 s.recs, 0⟩ := by
  unfold doR;rw [if_neg hk, if_neg (by omega), if_neg (by omega)]
 obtain ⟨k1, k2, k3, -⟩ := Zlb h hw;rw [hd] at k1 k2 k3;have k1' : (s.doS d).e = 0 := k1;have k2' : (s.doS d).n = Y9 s.recs := k2;obtain ⟨m1, m2⟩ := Zgz k3;obtain ⟨b1, b2⟩ := Zga k1';refine ⟨k1', k2', Zd3 h d, fun r => ⟨fun hr => ?_, fun hr => ?_⟩, by rw [m2]; simp⟩
 ·have := m1 r hr;simp only [List.mem_append, List.mem_singleton] at this;exact this.symm
 ·rcases hr with rfl | hr
  ·rw [← k2']; exact Zv1 hk k1'
  ·rw [b2]; exact Zek h.at' b1 hr fun hh => hk hh.1
structure Zll (s : St) (d : Dd) : Prop where
 e : (s.doS d).e = 0
 inv : (s.doS d).st.Inv
 mem : ∀ r, r ∈ (s.doS d).st.recs ↔ r ∈ s.recs ∧ r.ver ≠ d.num
 len : (s.doS d).st.recs.length + 1 = s.recs.length
theorem Zrt {s : St} (h : s.Inv) {d : Dd} (hw : Z1 d = 0) (hk : d.kind = 3) {r : Rec} (hr : r ∈ s.recs) (hkey : r.key = d.key) (hver : r.ver = d.num) : Zll s d := by
 obtain ⟨i, hf⟩ : ∃ i, s.recs.findIdx? (Qq d) = some i := by
  cases hf : s.recs.findIdx? (Qq d) with
  | some i => exact ⟨i, rfl⟩
  | none =>
   have := List.findIdx?_eq_none_iff.1 hf r hr;unfold Qq at this;simp [hkey, hver] at this
 obtain ⟨hi, hfi, -⟩ := List.findIdx?_eq_some_iff_getElem.1 hf;have hiv : s.recs[i].ver = d.num := by
  unfold Qq at hfi;simp only [decide_eq_true_eq] at hfi;exact hfi.2
 have hd : doR s.recs d = ⟨s.recs.take i ++ s.recs.drop (i + 1), d.num, 0⟩ := by
  unfold doR;rw [if_pos hk, hf]
 obtain ⟨k1, k2, k3, -⟩ := Zlb h hw;rw [hd] at k1 k2 k3;have k1' : (s.doS d).e = 0 := k1;obtain ⟨m1, m2⟩ := Zgz k3;obtain ⟨b1, b2⟩ := Zga k1';have hp := List.pairwise_iff_getElem.1 (Zph h);refine ⟨k1', Zd3 h d, fun x => ⟨fun hx => ?_, fun hx => ?_⟩, ?_⟩
 ·have hx' := m1 x hx;rcases List.mem_append.1 hx' with h1 | h1
  ·obtain ⟨j, hj, rfl⟩ := List.mem_iff_getElem.1 h1;rw [List.length_take] at hj;rw [List.getElem_take];exact ⟨List.getElem_mem _, fun e => hp j i (by omega) hi (by omega) (e.trans hiv.symm)⟩
  ·obtain ⟨j, hj, rfl⟩ := List.mem_iff_getElem.1 h1;rw [List.length_drop] at hj;rw [List.getElem_drop];exact ⟨List.getElem_mem _, fun e => hp i (i + 1 + j) hi (by omega) (by omega) (hiv.trans e.symm)⟩
 ·rw [b2];exact Zek h.at' b1 hx.1 fun hh => hx.2 hh.2.2.symm
 ·rw [m2];show (s.recs.take i ++ s.recs.drop (i + 1)).length + 1 = _;simp only [List.length_append, List.length_take, List.length_drop];omega
theorem Zuy {s : St} (h : s.Inv) (d : Dd) (bits : Int) : (s.step ⟨2, bits, 0, d⟩).st.Inv ∧ ((s.step ⟨2, bits, 0, d⟩).st.recs = s.recs ∨ (s.doS d).e = 0 ∧ (s.step ⟨2, bits, 0, d⟩).st.recs = (s.doS d).st.recs) := by
 have hg : Kk s ⟨2, bits, 0, d⟩ = true := by unfold Kk; rw [if_pos (.inl (show (2 : Int) ≠ 3 by decide))]
 refine ⟨Zcs h hg, ?_⟩;rcases Zo3 h hg with e | ⟨-, he, e⟩
 ·exact .inl e
 ·have hz : (s.doS d).e = 0 := by unfold St.doS; rw [if_pos he]
  exact .inr ⟨hz, by rw [e, (Zga hz).2]⟩
def Zf4 (r : Rec) : Got := if r.kind = 3 then ⟨r.ver, 10, []⟩ else ⟨r.ver, 0, r.data⟩
theorem Zx9 (r : Rec) : (Zf4 r).n = r.ver := by unfold Zf4; split <;> rfl
theorem Zkw {r : Rec} : ∀ (l : List Rec), (∀ x ∈ l, x.key = r.key → x = r ∨ x.ver < r.ver) → l.foldl (Qu r.key) (Zf4 r) = Zf4 r
 | [], _ => rfl
 | x :: l, h => by
  rw [List.foldl_cons];have hx : Qu r.key (Zf4 r) x = Zf4 r := by
   unfold Qu;rw [if_pos];by_cases hk : x.key = r.key
   ·right;rw [Zx9];rcases h x (by simp) hk with rfl | h1
    ·exact Int.le_refl _
    ·omega
   ·exact .inl hk
  rw [hx];exact Zkw l fun y hy => h y (by simp [hy])
theorem Zkx {r : Rec} : ∀ (l : List Rec) (g : Got), g.n < r.ver → r ∈ l → (∀ x ∈ l, x.key = r.key → x = r ∨ x.ver < r.ver) → l.foldl (Qu r.key) g = Zf4 r
 | [], _, _, hr, _ => by cases hr
 | x :: l, g, hg, hr, h => by
  rw [List.foldl_cons];have hl : ∀ y ∈ l, y.key = r.key → y = r ∨ y.ver < r.ver := fun y hy => h y (by simp [hy])
  by_cases e : x = r
  ·subst e;have : Qu x.key g x = Zf4 x := by
    unfold Qu Zf4;rw [if_neg (by omega)]
   rw [this];exact Zkw l hl
  ·have hr' : r ∈ l := by
    rcases List.mem_cons.1 hr with h1 | h1
    ·exact absurd h1.symm e
    ·exact h1
   refine Zkx l _ ?_ hr' hl;unfold Qu;split
   ·exact hg
   ·rename_i hn;have hxv : x.ver < r.ver := (h x (by simp) (by omega)).resolve_left e;split <;> exact hxv
theorem Zol {l : List Rec} {r : Rec} (hr : r ∈ l) (h0 : 1 ≤ r.ver) (h : ∀ x ∈ l, x.key = r.key → x = r ∨ x.ver < r.ver) : Qv l r.key = Zf4 r := Zkx l ⟨0, 6, []⟩ (show (0 : Int) < r.ver by omega) hr h
theorem Zji {s : St} {d : Dd} (h : Zbt s d) (hk : d.kind ≠ 2) : Qv (s.doS d).st.recs d.key = ⟨Y9 s.recs, 0, d.data⟩ := by
 have hr : Xa d (Y9 s.recs) ∈ (s.doS d).st.recs := (h.mem _).2 (.inl rfl);have := Zol hr (Zaa (l := s.recs)).1 fun x hx _ => ((h.mem x).1 hx).imp id fun h1 => (Zaa (l := s.recs)).2 x h1
 rw [show (Xa d (Y9 s.recs)).key = d.key from rfl] at this;rw [this];unfold Zf4;rw [if_neg (show ¬ ((Xa d (Y9 s.recs)).kind = 3) from (show ¬ (1 + d.kind = 3) by omega))];rfl
structure Zdo (s : St) (m : Nat) : Prop where
 inv : s.Inv
 vers : ∀ r ∈ s.recs, r.ver ≤ (m : Int) + 1
 low : 1 ≤ s.recs.length
 high : s.recs.length ≤ m + 1
theorem Zhs {s : St} {m : Nat} (h : Zdo s m) (hm : m ≤ 4) {d : Dd} (hw : Z1 d = 0) (hk : d.kind ≠ 3) : Zbt s d := by
 have := Zik (m := (m : Int) + 1) (by omega) h.vers;have := h.high;exact Zic h.inv hw hk (by omega) (by omega)
theorem Zqt {s : St} {m : Nat} (h : Zdo s m) (hm : m ≤ 4) {d : Dd} (hw : Z1 d = 0) (hk : d.kind ≠ 3) : Zdo (s.doS d).st (m + 1) := by
 have hM := Zhs h hm hw hk;have hn := Zik (m := (m : Int) + 1) (by omega) h.vers;refine ⟨hM.inv, fun r hr => ?_, by rw [hM.len]; omega, by rw [hM.len]; have := h.high; omega⟩;rcases (hM.mem r).1 hr with rfl | h1
 ·show Y9 s.recs ≤ _;omega
 ·have := h.vers r h1; omega
theorem Zqs {s : St} {m : Nat} (h : Zdo s m) (hm : m ≤ 4) {d : Dd} (hw : Z1 d = 0) (hk : d.kind ≠ 3) (bits : Int) : Zdo (s.step ⟨2, bits, 0, d⟩).st (m + 1) := by
 obtain ⟨h1, h2⟩ := Zuy h.inv d bits;rcases h2 with e | ⟨-, e⟩
 ·exact ⟨h1, fun r hr => by rw [e] at hr; have := h.vers r hr; omega, by rw [e]; exact h.low, by rw [e]; have := h.high; omega⟩
 ·have hd := Zqt h hm hw hk;exact ⟨h1, fun r hr => by rw [e] at hr; exact hd.vers r hr, by rw [e]; exact hd.low, by rw [e]; exact hd.high⟩
theorem Znf {d : Dd} (hw : Z1 d = 0) (hk : d.kind ≠ 3) : Zdo (Vv.doS d).st 0 := by
 have hM : Zbt Vv d := Zic Zbm hw hk (by rw [V5]; decide) (by rw [V5]; decide);refine ⟨hM.inv, fun r hr => ?_, by rw [hM.len, V5]; decide, by rw [hM.len, V5]; decide⟩;rcases (hM.mem r).1 hr with rfl | h1
 ·show Y9 Vv.recs ≤ _;rw [V5]; decide
 ·rw [V5] at h1; cases h1
def Zhz (j : Nat) (b : List UInt8) : Rec := ⟨2, 7, (j : Int) + 1, b⟩
structure V9 (s : St) (bs : List (List UInt8)) : Prop where
 inv : s.Inv
 mem : ∀ r, r ∈ s.recs ↔ ∃ (j : Nat) (b : List UInt8), bs[j]? = some b ∧ r = Zhz j b
 len : s.recs.length = bs.length
theorem Zt4 : V9 Vv [] := ⟨Zbm, fun r => by rw [V5]; simp, by rw [V5]; rfl⟩
theorem Zq9 {s : St} {bs : List (List UInt8)} (h : V9 s bs) : Y9 s.recs = (bs.length : Int) + 1 := by
 have h1 := Zik (l := s.recs) (m := (bs.length : Int)) (by omega) fun r hr => by
  obtain ⟨j, b, hj, rfl⟩ := (h.mem r).1 hr;have := (List.getElem?_eq_some_iff.1 hj).1;show (j : Int) + 1 ≤ _;omega
 have h2 := Zaa (l := s.recs);by_cases h0 : bs.length = 0
 ·have := h2.1; omega
 ·have := h2.2 (Zhz (bs.length - 1) bs[bs.length - 1]) ((h.mem _).2 ⟨bs.length - 1, _, List.getElem?_eq_getElem (by omega), rfl⟩);have e : (Zhz (bs.length - 1) bs[bs.length - 1]).ver = ((bs.length - 1 : Nat) : Int) + 1 := rfl;omega
theorem Zt3 {s : St} {bs : List (List UInt8)} (h : V9 s bs) (h5 : bs.length ≤ 5) {b : List UInt8} (hb : b.length ≤ 8) : (s.doS ⟨1, 7, 0, b⟩).e = 0 ∧ (s.doS ⟨1, 7, 0, b⟩).n = (bs.length : Int) + 1 ∧ V9 (s.doS ⟨1, 7, 0, b⟩).st (bs ++ [b]) := by
 have hw : Z1 ⟨1, 7, 0, b⟩ = 0 := by
  unfold Z1;simp only;rw [if_neg (by omega), if_neg (by simp), if_neg (by simp; omega)]
 have hv := Zq9 h;have hM : Zbt s ⟨1, 7, 0, b⟩ := Zic h.inv hw (show (1 : Int) ≠ 3 by decide) (by rw [h.len]; exact h5) (by omega);refine ⟨hM.e, by rw [hM.n, hv], hM.inv, fun r => ?_, by rw [hM.len, h.len]; simp⟩;rw [hM.mem r, hv];have hmk : Xa ⟨1, 7, 0, b⟩ ((bs.length : Int) + 1) = Zhz bs.length b := rfl;rw [hmk];constructor
 ·rintro (rfl | hr)
  ·exact ⟨bs.length, b, by simp, rfl⟩
  ·obtain ⟨j, c, hj, rfl⟩ := (h.mem r).1 hr;exact ⟨j, c, by rw [List.getElem?_append_left (List.getElem?_eq_some_iff.1 hj).1]; exact hj, rfl⟩
 ·rintro ⟨j, c, hj, rfl⟩;by_cases hjl : j < bs.length
  ·rw [List.getElem?_append_left hjl] at hj;exact .inr ((h.mem _).2 ⟨j, c, hj, rfl⟩)
  ·have hjb := (List.getElem?_eq_some_iff.1 hj).1;simp only [List.length_append, List.length_cons, List.length_nil] at hjb;have : j = bs.length := by omega
   subst this;simp at hj;subst hj;exact .inl rfl
theorem Zra {s : St} {bs : List (List UInt8)} {b : List UInt8} (h : V9 s (bs ++ [b])) (h5 : bs.length ≤ 5) : (s.doS ⟨3, 7, (bs.length : Int) + 1, []⟩).e = 0 ∧ V9 (s.doS ⟨3, 7, (bs.length : Int) + 1, []⟩).st bs := by
 have hw : Z1 ⟨3, 7, (bs.length : Int) + 1, []⟩ = 0 := by
  unfold Z1;simp only;rw [if_neg (by omega), if_neg (by simp; omega), if_neg (by simp)]
 have hr : Zhz bs.length b ∈ s.recs := (h.mem _).2 ⟨bs.length, b, by simp, rfl⟩;have hT : Zll s ⟨3, 7, (bs.length : Int) + 1, []⟩ := Zrt h.inv hw rfl hr rfl rfl;refine ⟨hT.e, hT.inv, fun r => ?_, by have := hT.len; rw [h.len] at this; simp at this; exact this⟩;rw [hT.mem r, h.mem r];constructor
 ·rintro ⟨⟨j, c, hj, rfl⟩, hn⟩;have hne : j ≠ bs.length := by
   rintro rfl;exact hn rfl
  have hjb := (List.getElem?_eq_some_iff.1 hj).1;simp only [List.length_append, List.length_cons, List.length_nil] at hjb;rw [List.getElem?_append_left (by omega)] at hj;exact ⟨j, c, hj, rfl⟩
 ·rintro ⟨j, c, hj, rfl⟩;have hjb := (List.getElem?_eq_some_iff.1 hj).1;refine ⟨⟨j, c, by rw [List.getElem?_append_left hjb]; exact hj, rfl⟩, ?_⟩;show (j : Int) + 1 ≠ (bs.length : Int) + 1;omega
theorem Zt5 {s : St} {bs : List (List UInt8)} {b : List UInt8} (h : V9 s (bs ++ [b])) : Qv s.recs 7 = ⟨(bs.length : Int) + 1, 0, b⟩ := by
 have hr : Zhz bs.length b ∈ s.recs := (h.mem _).2 ⟨bs.length, b, by simp, rfl⟩;refine Zol hr (show 1 ≤ (bs.length : Int) + 1 by omega) fun x hx _ => ?_;obtain ⟨j, c, hj, rfl⟩ := (h.mem x).1 hx;have hjb := (List.getElem?_eq_some_iff.1 hj).1;simp only [List.length_append, List.length_cons, List.length_nil] at hjb;by_cases e : j = bs.length
 ·subst e;simp at hj;subst hj;exact .inl rfl
 ·right;show (j : Int) + 1 < (bs.length : Int) + 1;omega
theorem Zrb {s : St} (h : V9 s []) : Qv s.recs 7 = ⟨0, 6, []⟩ ∧ s.idx.length = 0 := by
 have hl : s.recs.length = 0 := h.len;have hn : s.recs = [] := List.eq_nil_of_length_eq_zero hl;refine ⟨by rw [hn]; rfl, ?_⟩;unfold St.recs at hl;rw [List.length_map] at hl;exact hl
end Go.Proofs.YtgaecpdokgklpadGreatDoor
