import Derived.Test.YtpdnapbchcdhladGreatDoorTxt
set_option maxHeartbeats 8000000
namespace Go.Proofs.YtpdnapbchcdhladGreatDoor
set_option maxRecDepth 100000
open Plain
variable {bs : List (List UInt8)} {d : Dd} {l : List Rec} {r : Rec}
theorem Zrc {s : St} (h : s.Inv) : s.recs.Pairwise fun a b => a.ver ≠ b.ver := by
 unfold St.recs;rw [List.pairwise_map];refine (Zp9 h).imp_of_mem ?_;intro a b ha hb hu e;obtain ⟨p, hp, hk, rfl⟩ := (Zb0 h a).1 ha;obtain ⟨q, hq, hk', rfl⟩ := (Zb0 h b).1 hb;have := h.once p q hp hq hk hk' e;subst this;exact hu.2 rfl
theorem Zuq {s : St} (h : s.Inv) {a : Rec} (ha : a ∈ s.recs) : 1 ≤ a.ver := by
 obtain ⟨x, hx, rfl⟩ := List.mem_map.1 ha;obtain ⟨hg, hk, -⟩ := ((Yr s.idx).1 h.at'.ok.right).2 x hx;have := Zai x.rc;obtain ⟨-, -, h3, -⟩ := this.1 hg;unfold Xa at h3;rw [if_neg hk] at h3;simp at h3;omega
theorem Zlm {m : Int} : ∀ (l : List Rec) (n : Int), n ≤ m + 1 → (∀ r ∈ l, r.ver ≤ m) → l.foldl (fun n r => if n ≤ r.ver then r.ver + 1 else n) n ≤ m + 1
 | [], n, hn, _ => hn
 | x :: l, n, hn, h => by
  rw [List.foldl_cons];refine Zlm l _ ?_ (fun r hr => h r (by simp [hr]));have := h x (by simp);split <;> omega
theorem Zby {m : Int} (h0 : 0 ≤ m) (h : ∀ r ∈ l, r.ver ≤ m) : Yw l ≤ m + 1 := Zlm l 1 (by omega) h
theorem Zh1 {a b : List Rec} (h : Xv a b = true) : (∀ r ∈ a, r ∈ b) ∧ a.length = b.length := by
 unfold Xv at h;simp only [Bool.and_eq_true, List.all_eq_true, decide_eq_true_eq] at h;refine ⟨fun r hr => ?_, h.2⟩;have := h.1 r hr;unfold Zay at this;rw [List.any_eq_true] at this;obtain ⟨x, hx, he⟩ := this;rw [← (J8 _ _).1 he]; exact hx
theorem Zg3 {s : St} (h : (s.doS d).e = 0) : (s.begin d).e = 0 ∧ (s.doS d).st.recs = (s.begin d).st.recs := by
 by_cases he : (s.begin d).e = 0
 ·exact ⟨he, by unfold St.doS; rw [if_pos he]; rfl⟩
 ·unfold St.doS at h;rw [if_neg he] at h;exact absurd h he
structure Zb5 (s : St) (d : Dd) : Prop where
 e : (s.doS d).e = 0
 n : (s.doS d).n = Yw s.recs
 inv : (s.doS d).st.Inv
 mem : ∀ r, r ∈ (s.doS d).st.recs ↔ r = Y5 d (Yw s.recs) ∨ r ∈ s.recs
 len : (s.doS d).st.recs.length = s.recs.length + 1
theorem Zc7 {s : St} (h : s.Inv) (hw : Z1 d = 0) (hk : d.kind ≠ 3) (h5 : s.recs.length ≤ 5) (hn : Yw s.recs ≤ 60000) : Zb5 s d := by
 have hd : doR s.recs d = ⟨s.recs ++ [Y5 d (Yw s.recs)], Yw s.recs, 0⟩ := by
  unfold doR;rw [if_neg hk, if_neg (by omega), if_neg (by omega)]
 obtain ⟨k1, k2, k3, -⟩ := Zg2 h hw;rw [hd] at k1 k2 k3;have k1' : (s.doS d).e = 0 := k1;have k2' : (s.doS d).n = Yw s.recs := k2;obtain ⟨m1, m2⟩ := Zh1 k3;obtain ⟨b1, b2⟩ := Zg3 k1';refine ⟨k1', k2', Zen h d, fun r => ⟨fun hr => ?_, fun hr => ?_⟩, by rw [m2]; simp⟩
 ·have := m1 r hr;simp only [List.mem_append, List.mem_singleton] at this;exact this.symm
 ·rcases hr with rfl | hr
  ·rw [← k2']; exact Zyk hk k1'
  ·rw [b2]; exact Ze7 h.at' b1 hr fun hh => hk hh.1
structure Zm2 (s : St) (d : Dd) : Prop where
 e : (s.doS d).e = 0
 inv : (s.doS d).st.Inv
 mem : ∀ r, r ∈ (s.doS d).st.recs ↔ r ∈ s.recs ∧ r.ver ≠ d.num
 len : (s.doS d).st.recs.length + 1 = s.recs.length
theorem Ztz {s : St} (h : s.Inv) (hw : Z1 d = 0) (hk : d.kind = 3) (hr : r ∈ s.recs) (hkey : r.key = d.key) (hver : r.ver = d.num) : Zm2 s d := by
 obtain ⟨i, hf⟩ : ∃ i, s.recs.findIdx? (Qi d) = some i := by
  cases hf : s.recs.findIdx? (Qi d) with
  | some i => exact ⟨i, rfl⟩
  | none =>
   have := List.findIdx?_eq_none_iff.1 hf r hr;unfold Qi at this;simp [hkey, hver] at this
 obtain ⟨hi, hfi, -⟩ := List.findIdx?_eq_some_iff_getElem.1 hf;have hiv : s.recs[i].ver = d.num := by
  unfold Qi at hfi;simp only [decide_eq_true_eq] at hfi;exact hfi.2
 have hd : doR s.recs d = ⟨s.recs.take i ++ s.recs.drop (i + 1), d.num, 0⟩ := by
  unfold doR;rw [if_pos hk, hf]
 obtain ⟨k1, k2, k3, -⟩ := Zg2 h hw;rw [hd] at k1 k2 k3;have k1' : (s.doS d).e = 0 := k1;obtain ⟨m1, m2⟩ := Zh1 k3;obtain ⟨b1, b2⟩ := Zg3 k1';have hp := List.pairwise_iff_getElem.1 (Zrc h);refine ⟨k1', Zen h d, fun x => ⟨fun hx => ?_, fun hx => ?_⟩, ?_⟩
 ·have hx' := m1 x hx;rcases List.mem_append.1 hx' with h1 | h1
  ·obtain ⟨j, hj, rfl⟩ := List.mem_iff_getElem.1 h1;rw [List.length_take] at hj;rw [List.getElem_take];exact ⟨List.getElem_mem _, fun e => hp j i (by omega) hi (by omega) (e.trans hiv.symm)⟩
  ·obtain ⟨j, hj, rfl⟩ := List.mem_iff_getElem.1 h1;rw [List.length_drop] at hj;rw [List.getElem_drop];exact ⟨List.getElem_mem _, fun e => hp i (i + 1 + j) hi (by omega) (by omega) (hiv.trans e.symm)⟩
 ·rw [b2];exact Ze7 h.at' b1 hx.1 fun hh => hx.2 hh.2.2.symm
 ·rw [m2];show (s.recs.take i ++ s.recs.drop (i + 1)).length + 1 = _;simp only [List.length_append, List.length_take, List.length_drop];omega
theorem Zpq {s : St} (h : s.Inv) (d : Dd) (bits : Int) : (s.step ⟨2, bits, 0, d⟩).st.Inv ∧ ((s.step ⟨2, bits, 0, d⟩).st.recs = s.recs ∨ (s.doS d).e = 0 ∧ (s.step ⟨2, bits, 0, d⟩).st.recs = (s.doS d).st.recs) := by
 have hg : Xe s ⟨2, bits, 0, d⟩ = true := by unfold Xe; rw [if_pos (.inl (show (2 : Int) ≠ 3 by decide))]
 refine ⟨Za7 h hg, ?_⟩;rcases Zhy h hg with e | ⟨-, he, e⟩
 ·exact .inl e
 ·have hz : (s.doS d).e = 0 := by unfold St.doS; rw [if_pos he]
  exact .inr ⟨hz, by rw [e, (Zg3 hz).2]⟩
def Zfa (r : Rec) : Got := if r.kind = 3 then ⟨r.ver, 10, []⟩ else ⟨r.ver, 0, r.data⟩
theorem Z02 (r : Rec) : (Zfa r).n = r.ver := by unfold Zfa; split <;> rfl
theorem Zl8 : ∀ (l : List Rec), (∀ x ∈ l, x.key = r.key → x = r ∨ x.ver < r.ver) → l.foldl (X7 r.key) (Zfa r) = Zfa r
 | [], _ => rfl
 | x :: l, h => by
  rw [List.foldl_cons];have hx : X7 r.key (Zfa r) x = Zfa r := by
   unfold X7;rw [if_pos];by_cases hk : x.key = r.key
   ·right;rw [Z02];rcases h x (by simp) hk with rfl | h1
    ·exact Int.le_refl _
    ·omega
   ·exact .inl hk
  rw [hx];exact Zl8 l fun y hy => h y (by simp [hy])
theorem Zl9 : ∀ (l : List Rec) (g : Got), g.n < r.ver → r ∈ l → (∀ x ∈ l, x.key = r.key → x = r ∨ x.ver < r.ver) → l.foldl (X7 r.key) g = Zfa r
 | [], _, _, hr, _ => by cases hr
 | x :: l, g, hg, hr, h => by
  rw [List.foldl_cons];have hl : ∀ y ∈ l, y.key = r.key → y = r ∨ y.ver < r.ver := fun y hy => h y (by simp [hy])
  by_cases e : x = r
  ·subst e;have : X7 x.key g x = Zfa x := by
    unfold X7 Zfa;rw [if_neg (by omega)]
   rw [this];exact Zl8 l hl
  ·have hr' : r ∈ l := by
    rcases List.mem_cons.1 hr with h1 | h1
    ·exact absurd h1.symm e
    ·exact h1
   refine Zl9 l _ ?_ hr' hl;unfold X7;split
   ·exact hg
   ·rename_i hn;have hxv : x.ver < r.ver := (h x (by simp) (by omega)).resolve_left e;split <;> exact hxv
theorem Zjy (hr : r ∈ l) (h0 : 1 ≤ r.ver) (h : ∀ x ∈ l, x.key = r.key → x = r ∨ x.ver < r.ver) : X6 l r.key = Zfa r := Zl9 l ⟨0, 6, []⟩ (show (0 : Int) < r.ver by omega) hr h
theorem Zma : ∀ (l : List Rec) (key : Int) (g : Got), (∀ x ∈ l, x.key ≠ key) → l.foldl (X7 key) g = g
 | [], _, _, _ => rfl
 | x :: l, key, g, h => by
  rw [List.foldl_cons];have : X7 key g x = g := by unfold X7; rw [if_pos (.inl (h x (by simp)))]
  rw [this];exact Zma l key g fun y hy => h y (by simp [hy])
theorem Zkq {s : St} (h : Zb5 s d) (hk : d.kind ≠ 2) : X6 (s.doS d).st.recs d.key = ⟨Yw s.recs, 0, d.data⟩ := by
 have hr : Y5 d (Yw s.recs) ∈ (s.doS d).st.recs := (h.mem _).2 (.inl rfl);have := Zjy hr (Jo (l := s.recs)).1 fun x hx _ => ((h.mem x).1 hx).imp id fun h1 => (Jo (l := s.recs)).2 x h1
 rw [show (Y5 d (Yw s.recs)).key = d.key from rfl] at this;rw [this];unfold Zfa;rw [if_neg (show ¬ ((Y5 d (Yw s.recs)).kind = 3) from (show ¬ (1 + d.kind = 3) by omega))];rfl
structure Zd7 (s : St) (m : Nat) : Prop where
 inv : s.Inv
 vers : ∀ r ∈ s.recs, r.ver ≤ (m : Int) + 1
 low : 1 ≤ s.recs.length
 high : s.recs.length ≤ m + 1
theorem Zi0 {s : St} {m : Nat} (h : Zd7 s m) (hm : m ≤ 4) (hw : Z1 d = 0) (hk : d.kind ≠ 3) : Zb5 s d := by
 have := Zby (m := (m : Int) + 1) (by omega) h.vers;have := h.high;exact Zc7 h.inv hw hk (by omega) (by omega)
theorem Zss {s : St} {m : Nat} (h : Zd7 s m) (hm : m ≤ 4) (hw : Z1 d = 0) (hk : d.kind ≠ 3) : Zd7 (s.doS d).st (m + 1) := by
 have hM := Zi0 h hm hw hk;have hn := Zby (m := (m : Int) + 1) (by omega) h.vers;refine ⟨hM.inv, fun r hr => ?_, by rw [hM.len]; omega, by rw [hM.len]; have := h.high; omega⟩;rcases (hM.mem r).1 hr with rfl | h1
 ·show Yw s.recs ≤ _;omega
 ·have := h.vers r h1; omega
theorem Zsr {s : St} {m : Nat} (h : Zd7 s m) (hm : m ≤ 4) (hw : Z1 d = 0) (hk : d.kind ≠ 3) (bits : Int) : Zd7 (s.step ⟨2, bits, 0, d⟩).st (m + 1) := by
 obtain ⟨h1, h2⟩ := Zpq h.inv d bits;rcases h2 with e | ⟨-, e⟩
 ·exact ⟨h1, fun r hr => by rw [e] at hr; have := h.vers r hr; omega, by rw [e]; exact h.low, by rw [e]; have := h.high; omega⟩
 ·have hd := Zss h hm hw hk;exact ⟨h1, fun r hr => by rw [e] at hr; exact hd.vers r hr, by rw [e]; exact hd.low, by rw [e]; exact hd.high⟩
theorem Zo1 (hw : Z1 d = 0) (hk : d.kind ≠ 3) : Zd7 (Qg.doS d).st 0 := by
 have hM : Zb5 Qg d := Zc7 Jp hw hk (by rw [Qz]; decide) (by rw [Qz]; decide);refine ⟨hM.inv, fun r hr => ?_, by rw [hM.len, Qz]; decide, by rw [hM.len, Qz]; decide⟩;rcases (hM.mem r).1 hr with rfl | h1
 ·show Yw Qg.recs ≤ _;rw [Qz]; decide
 ·rw [Qz] at h1; cases h1
def Zi9 (j : Nat) (b : List UInt8) : Rec := ⟨2, 7, (j : Int) + 1, b⟩
structure Kl (s : St) (bs : List (List UInt8)) : Prop where
 inv : s.Inv
 mem : ∀ r, r ∈ s.recs ↔ ∃ (j : Nat) (b : List UInt8), bs[j]? = some b ∧ r = Zi9 j b
 len : s.recs.length = bs.length
theorem Zwi : Kl Qg [] := ⟨Jp, fun r => by rw [Qz]; simp, by rw [Qz]; rfl⟩
theorem Ztb {s : St} (h : Kl s bs) : Yw s.recs = (bs.length : Int) + 1 := by
 have h1 := Zby (l := s.recs) (m := (bs.length : Int)) (by omega) fun r hr => by
  obtain ⟨j, b, hj, rfl⟩ := (h.mem r).1 hr;have := (List.getElem?_eq_some_iff.1 hj).1;show (j : Int) + 1 ≤ _;omega
 have h2 := Jo (l := s.recs);by_cases h0 : bs.length = 0
 ·have := h2.1; omega
 ·have := h2.2 (Zi9 (bs.length - 1) bs[bs.length - 1]) ((h.mem _).2 ⟨bs.length - 1, _, List.getElem?_eq_getElem (by omega), rfl⟩);have e : (Zi9 (bs.length - 1) bs[bs.length - 1]).ver = ((bs.length - 1 : Nat) : Int) + 1 := rfl;omega
theorem Zwh {s : St} (h : Kl s bs) (h5 : bs.length ≤ 5) {b : List UInt8} (hb : b.length ≤ 8) : (s.doS ⟨1, 7, 0, b⟩).e = 0 ∧ (s.doS ⟨1, 7, 0, b⟩).n = (bs.length : Int) + 1 ∧ Kl (s.doS ⟨1, 7, 0, b⟩).st (bs ++ [b]) := by
 have hw : Z1 ⟨1, 7, 0, b⟩ = 0 := by
  unfold Z1;simp only;rw [if_neg (by omega), if_neg (by simp), if_neg (by simp; omega)]
 have hv := Ztb h;have hM : Zb5 s ⟨1, 7, 0, b⟩ := Zc7 h.inv hw (show (1 : Int) ≠ 3 by decide) (by rw [h.len]; exact h5) (by omega);refine ⟨hM.e, by rw [hM.n, hv], hM.inv, fun r => ?_, by rw [hM.len, h.len]; simp⟩;rw [hM.mem r, hv];have hmk : Y5 ⟨1, 7, 0, b⟩ ((bs.length : Int) + 1) = Zi9 bs.length b := rfl;rw [hmk];constructor
 ·rintro (rfl | hr)
  ·exact ⟨bs.length, b, by simp, rfl⟩
  ·obtain ⟨j, c, hj, rfl⟩ := (h.mem r).1 hr;exact ⟨j, c, by rw [List.getElem?_append_left (List.getElem?_eq_some_iff.1 hj).1]; exact hj, rfl⟩
 ·rintro ⟨j, c, hj, rfl⟩;by_cases hjl : j < bs.length
  ·rw [List.getElem?_append_left hjl] at hj;exact .inr ((h.mem _).2 ⟨j, c, hj, rfl⟩)
  ·have hjb := (List.getElem?_eq_some_iff.1 hj).1;simp only [List.length_append, List.length_cons, List.length_nil] at hjb;have : j = bs.length := by omega
   subst this;simp at hj;subst hj;exact .inl rfl
theorem Ztc {s : St} {b : List UInt8} (h : Kl s (bs ++ [b])) (h5 : bs.length ≤ 5) : (s.doS ⟨3, 7, (bs.length : Int) + 1, []⟩).e = 0 ∧ Kl (s.doS ⟨3, 7, (bs.length : Int) + 1, []⟩).st bs := by
 have hw : Z1 ⟨3, 7, (bs.length : Int) + 1, []⟩ = 0 := by
  unfold Z1;simp only;rw [if_neg (by omega), if_neg (by simp; omega), if_neg (by simp)]
 have hr : Zi9 bs.length b ∈ s.recs := (h.mem _).2 ⟨bs.length, b, by simp, rfl⟩;have hT : Zm2 s ⟨3, 7, (bs.length : Int) + 1, []⟩ := Ztz h.inv hw rfl hr rfl rfl;refine ⟨hT.e, hT.inv, fun r => ?_, by have := hT.len; rw [h.len] at this; simp at this; exact this⟩;rw [hT.mem r, h.mem r];constructor
 ·rintro ⟨⟨j, c, hj, rfl⟩, hn⟩;have hne : j ≠ bs.length := by
   rintro rfl;exact hn rfl
  have hjb := (List.getElem?_eq_some_iff.1 hj).1;simp only [List.length_append, List.length_cons, List.length_nil] at hjb;rw [List.getElem?_append_left (by omega)] at hj;exact ⟨j, c, hj, rfl⟩
 ·rintro ⟨j, c, hj, rfl⟩;have hjb := (List.getElem?_eq_some_iff.1 hj).1;refine ⟨⟨j, c, by rw [List.getElem?_append_left hjb]; exact hj, rfl⟩, ?_⟩;show (j : Int) + 1 ≠ (bs.length : Int) + 1;omega
theorem Zwj {s : St} {b : List UInt8} (h : Kl s (bs ++ [b])) : X6 s.recs 7 = ⟨(bs.length : Int) + 1, 0, b⟩ := by
 have hr : Zi9 bs.length b ∈ s.recs := (h.mem _).2 ⟨bs.length, b, by simp, rfl⟩;refine Zjy hr (show 1 ≤ (bs.length : Int) + 1 by omega) fun x hx _ => ?_;obtain ⟨j, c, hj, rfl⟩ := (h.mem x).1 hx;have hjb := (List.getElem?_eq_some_iff.1 hj).1;simp only [List.length_append, List.length_cons, List.length_nil] at hjb;by_cases e : j = bs.length
 ·subst e;simp at hj;subst hj;exact .inl rfl
 ·right;show (j : Int) + 1 < (bs.length : Int) + 1;omega
theorem Ztd {s : St} (h : Kl s []) : X6 s.recs 7 = ⟨0, 6, []⟩ ∧ s.idx.length = 0 := by
 have hl : s.recs.length = 0 := h.len;have hn : s.recs = [] := List.eq_nil_of_length_eq_zero hl;refine ⟨by rw [hn]; rfl, ?_⟩;unfold St.recs at hl;rw [List.length_map] at hl;exact hl
end Go.Proofs.YtpdnapbchcdhladGreatDoor
namespace Go.Proofs.YtpdnapbchcdhladGreatDoor
set_option maxRecDepth 100000
open Go.RowKit
open Plain Reg
variable {w : World}
def Zc5 : Xz (List UInt8) where
 T := 9
 size := 1
 enc _ _ x cs := cs = [.string ⟨x.toArray⟩]
 len := by rintro S w x cs rfl; rfl
 keep := by rintro S w w' x cs rfl _; rfl
 mono := by rintro S S' w x cs rfl _; rfl
 cap := by rintro S w x cs rfl; rfl
 one := by
  rintro S w x cs rfl c hc;simp only [List.mem_cons, List.not_mem_nil, or_false] at hc;subst hc; rfl
theorem Zxc {S : Nat → Prop} {ao : Option Addr} {n cap : Nat} {l : List (List UInt8)} (h : Zv Zc5 S w (.slice ao n cap) l) (i : Nat) (hi : i < l.length) : ∃ b off, ao = some ⟨b, off, none⟩ ∧ w.cell? ⟨b, off + i, none⟩ = some (.string ⟨l[i].toArray⟩) := by
 obtain ⟨b, off, rfl, _, cs, hcs, hc⟩ := h.at i hi;have hcs' : cs = [.string ⟨l[i].toArray⟩] := hcs;subst hcs';have h0 : w.cell? ⟨b, off + i * 1 + 0, none⟩ = some (.string ⟨l[i].toArray⟩) := hc 0 _ rfl;exact ⟨b, off, rfl, by simpa using h0⟩
def Xl (ds : List Dd) : St := ds.foldl (fun s d => (s.doS d).st) Qg
theorem Zmq (ds : List Dd) {k : Nat} (h : k < ds.length) : Xl (ds.take (k + 1)) = ((Xl (ds.take k)).doS ds[k]).st := by
 unfold Xl;rw [List.take_succ_eq_append_getElem h, List.foldl_append]; rfl
theorem Zg1 : ∀ (ds : List Dd) (s : St), s.Inv → (ds.foldl (fun s d => (s.doS d).st) s).Inv
 | [], _, h => h
 | d :: ds, _, h => Zg1 ds _ (Zen h d)
structure Zhe (ts : List (List UInt8)) (ds : List Dd) : Prop where
 len : ts.length = ds.length
 short : ∀ t ∈ ts, t.length ≤ 1000
 small : ∀ d ∈ ds, d.data.length ≤ 1000
 parse : ∀ (k : Nat) (t : List UInt8) (d : Dd), ts[k]? = some t → ds[k]? = some d → K6 t = (d, 0)
 e : ∀ (k : Nat) (d : Dd), ds[k]? = some d → ((Xl (ds.take k)).doS d).e = 0
theorem Zpb {v : Value} {l : List UInt8} {P : Nat → Prop} (h : Bytes w v l) (hP : ∀ b off x, w.cell? ⟨b, off, none⟩ = some (.int .u8 x) → P b) : Z0 P w v l := by
 rcases h with h | ⟨b, off, cap, h1, h2, hc⟩
 ·exact .inl h
 ·by_cases h0 : l = []
  ·subst h0;exact .inl ⟨_, cap, h1, rfl, fun h => by cases h⟩
  ·exact .inr ⟨b, off, cap, hP b _ _ (hc 0 (List.length_pos_iff.2 h0)), h1, h2, hc⟩
theorem Zid {G : Nat} {a0 a1 a2 : Option Addr} {n0 n1 n2 c0 c1 c2 : Nat} {x : Int} {T : TypeId} {f : Nat × Nat} (h : w.heap[G]? = some (.cells #[.slice a0 n0 c0, .slice a1 n1 c1, .slice a2 n2 c2, .int .i64 x] T f)) {b off : Nat} {y : Int} (hb : w.cell? ⟨b, off, none⟩ = some (.int .u8 y)) : b ≠ G := by
 rintro rfl;have e : w.cell? ⟨b, off, none⟩ = (#[.slice a0 n0 c0, .slice a1 n1 c1, .slice a2 n2 c2, .int .i64 x] : Array Value)[off]? := by
  cases hx : (#[.slice a0 n0 c0, .slice a1 n1 c1, .slice a2 n2 c2, .int .i64 x] : Array Value)[off]? with
  | some u => exact Ze h off u hx
  | none =>
   exfalso;simp only [World.cell?, h] at hb;rw [hx] at hb;cases hb
 rw [e] at hb
 match off, hb with
 | 0, hb => cases hb
 | 1, hb => cases hb
 | 2, hb => cases hb
 | 3, hb => simp at hb
 | k + 4, hb => simp at hb
def Zbj (V : World → Prop) : Prop := ∀ (ts : List (List UInt8)) (ds : List Dd) (v : Value) (w : World), V w → Zv Zc5 (fun _ => True) w v ts → Zhe ts ds → ts.length ≤ 100 →
 Calls Tryz.prog 8 #[v] w fun r w' => ∃ v', r = .returned (.tuple #[v', .bool true]) ∧ Zw (fun _ => True) (Xl ds) v' w' ∧ Zj w w'
theorem Znn (V : World → Prop) (hV : ∀ w w', V w → Zj w w' → V w') (SN : Zqh) (PD : Ze8 [1]) (TR : Zkg V) : Zbj V := by
 intro ts ds v w hVw hts hOk hm;have HOK : Hid (Zhe ts ds) := hOk;have HLD : Hid (ts.length = ds.length) := hOk.len;clear hOk;obtain ⟨ao, cp, rfl⟩ := Zv.form hts;have g0 := Zd w Yy;have hR0 := Zk w #[.slice none 0 0, .slice none 0 0, .slice none 0 0, .int .i64 0] 30;obtain ⟨D, hD⟩ : ∃ D, D = Xl ds := ⟨_, rfl⟩;rw [← hD];have HD : Hid _ := hD;clear hD;go_enter Tryz.func8, Tryz.ntmps8;go_wp2_with fail;refine (SN (fun _ => False) (w.alloc Yy) (fun b h => h.elim)).mono ?_;have H0 : Hid (Xl (ds.take 0) = Qg) := rfl;have HA0 : Hid ((Xl (ds.take 0)).Inv) := Jp;rw [← H0.out];clear H0;obtain ⟨s0, hs0⟩ : ∃ s0, s0 = Xl (ds.take 0) := ⟨_, rfl⟩;rw [← hs0] at HA0 ⊢;have HS0 : Hid (Xl (ds.take 0) = s0) := hs0.symm;clear hs0;rintro r w1 ⟨v1, rfl, h1, g1⟩;obtain ⟨b1, e1, l1, m1, i1, j1, hv1, -, -, -⟩ := h1.form;subst hv1;rw [World.size_alloc] at h1;obtain ⟨G, hG⟩ : ∃ G, G = w1.heap.size := ⟨_, rfl⟩;have g2 := Zd w1 (.cells #[.slice b1 s0.dk.blocks.length e1, .slice l1 s0.dk.late.length m1, .slice i1 s0.idx.length j1, .int .i64 s0.next] 30);have hY2 := Zk w1 #[.slice b1 s0.dk.blocks.length e1, .slice l1 s0.dk.late.length m1, .slice i1 s0.idx.length j1, .int .i64 s0.next] 30;have hR2 := ((g1.trans g2).block _ (Za hR0)).trans hR0;have gw2 := g0.trans (g1.trans g2);have hwG : w.heap.size < G := by have := g1.size; rw [World.size_alloc] at this; omega
 have hS2 : Zw (fun b => b ≠ G ∧ b ≠ w.heap.size) s0 (.agg #[.slice b1 s0.dk.blocks.length e1, .slice l1 s0.dk.late.length m1, .slice i1 s0.idx.length j1, .int .i64 s0.next]) (w1.alloc (.cells #[.slice b1 s0.dk.blocks.length e1, .slice l1 s0.dk.late.length m1, .slice i1 s0.idx.length j1, .int .i64 s0.next] 30)) := (h1.capd.grow g2).mono (by
  rintro b ⟨h | h, hb⟩
  ·exact h.elim
  ·show b ≠ G ∧ b ≠ w.heap.size; omega)
 rw [← hG] at hY2;have HG : Hid _ := hG;clear h1 g0 g1 g2 hR0 hG;go_wp2_with fail;rw [← HG.out];clear HG;generalize World.alloc w1 _ = w2 at *;go_loopw [15] (fun i wr => ∃ (k : Nat) (s : St) (b1 : Option Addr) (e1 : Nat) (l1 : Option Addr) (m1 : Nat) (i1 : Option Addr) (j1 : Nat), k ≤ ts.length ∧ i = .int .i64 (k : Int) ∧ Hid (Xl (ds.take k) = s) ∧ Hid s.Inv ∧ wr.heap[w.heap.size]? = some Yy ∧ wr.heap[G]? = some (.cells #[.slice b1 s.dk.blocks.length e1, .slice l1 s.dk.late.length m1, .slice i1 s.idx.length j1, .int .i64 s.next] 30 (0, 0)) ∧ Zw (fun b => b ≠ G ∧ b ≠ w.heap.size) s (.agg #[.slice b1 s.dk.blocks.length e1, .slice l1 s.dk.late.length m1, .slice i1 s.idx.length j1, .int .i64 s.next]) wr ∧ Zj w wr) (fun i _ => ts.length - (intOf i).toNat)
 case atStart => exact ⟨0, s0, b1, e1, l1, m1, i1, j1, by omega, rfl, HS0, HA0, hR2, hY2, hS2, gw2⟩
 case round =>
  clear hR2 hY2 hS2 gw2 HS0 HA0;obtain ⟨k, s, b1, e1, l1, m1, i1, j1, hk, rfl, HS, HA, hR, hY, hS, gw⟩ := hrel;by_cases hlt : k < ts.length
  ·obtain ⟨bt, ot, hao, q0⟩ := Zxc (Zv.grow hts gw) k hlt;cases hao;have hkd : k < ds.length := by rw [← HLD.out]; exact hlt
   have HPA : Hid (K6 ts[k] = (ds[k], 0)) := HOK.out.parse k _ _ (List.getElem?_eq_getElem hlt) (List.getElem?_eq_getElem hkd);have HEE : Hid ((s.doS ds[k]).e = 0) := by rw [← HS.out]; exact HOK.out.e k _ (List.getElem?_eq_getElem hkd)
   have HNX : Hid (Xl (ds.take (k + 1)) = (s.doS ds[k]).st) := by show _ = _; rw [Zmq ds hkd, HS.out]
   have HTL : Hid (ts[k].length ≤ 1000) := HOK.out.short _ (List.getElem_mem hlt);have HDL : Hid (ds[k].data.length ≤ 1000) := HOK.out.small _ (List.getElem_mem hkd);generalize ts[k] = t at *;generalize ds[k] = d at *;clear hkd;go_wp2_with fail;refine (TR t wr (hV _ _ hVw gw) (by have := HTL.out; omega)).mono ?_;rw [HPA.out];rintro r w4 ⟨v4, rfl, ⟨ad, cd, hv4, hbd⟩, g4⟩;simp only at hv4 hbd;subst hv4;have g5 := Zd w4 (.cells #[.int .i64 d.kind, .int .i64 d.key, .int .i64 d.num, .slice ad d.data.length cd] 40);have hD5 := Zk w4 #[.int .i64 d.kind, .int .i64 d.key, .int .i64 d.num, .slice ad d.data.length cd] 40;have gg := g4.trans g5;have hR5 := (gg.block _ (Za hR)).trans hR;have hY5 := (gg.block _ (Za hY)).trans hY;have hS5 := hS.grow gg;have hb5 := Z2 hbd g5;have gw5 := gw.trans gg;clear hR hY hS gw hbd g4 g5 gg q0;obtain ⟨y0, y1, y2, y3⟩ := Z4 hY5 rfl rfl rfl rfl;obtain ⟨p0, p1, p2, p3⟩ := Z4 hD5 rfl rfl rfl rfl;go_wp2_with fail;clear y0 y1 y2 y3 p0 p1 p2 p3 hD5;generalize World.alloc w4 _ = w5 at *;have hG5 : G < w5.heap.size := Za hY5;refine (PD (fun b => (b ≠ G ∧ b ≠ w.heap.size) ∧ b < w5.heap.size) s ⟨1, 0, 0, d⟩ _ ad cd w5 (show (1 : Int) ∈ ([1] : List Int) by decide) (fun b h => h.2) hS5.capd (Zpb hb5 (fun b off x hx => ⟨⟨Zid hY5 hx, Zid hR5 hx⟩, Zr hx⟩)) HA.out.at' (by have := HDL.out; show d.data.length ≤ _; omega)).mono ?_;rw [show s.step ⟨1, 0, 0, d⟩ = s.doS d from if_pos rfl];have HBI : Hid ((s.doS d).st.Inv) := Zen HA.out d;rw [HEE.out];clear HEE
   generalize s.doS d = B at *;rintro r w6 ⟨v6, rfl, h6, g6⟩;obtain ⟨b6, e6, l6, m6, i6, j6, hv6, -, -, -⟩ := h6.form;subst hv6;have h6' : Zw (fun b => b ≠ G ∧ b ≠ w.heap.size) B.st (.agg #[.slice b6 B.st.dk.blocks.length e6, .slice l6 B.st.dk.late.length m6, .slice i6 B.st.idx.length j6, .int .i64 B.st.next]) w6 := h6.mono (by
    rintro b (h | h)
    ·exact h.1
    ·show b ≠ G ∧ b ≠ w.heap.size; omega)
   have g7 := Zd w6 (.cells #[.slice b6 B.st.dk.blocks.length e6, .slice l6 B.st.dk.late.length m6, .slice i6 B.st.idx.length j6, .int .i64 B.st.next] 30);have hZ7 := Zk w6 #[.slice b6 B.st.dk.blocks.length e6, .slice l6 B.st.dk.late.length m6, .slice i6 B.st.idx.length j6, .int .i64 B.st.next] 30;have gg := g6.trans g7;have hR7 := (gg.block _ (Za hR5)).trans hR5;have hY7 := (gg.block _ (Za hY5)).trans hY5;have hS7 := h6'.grow g7;have gw7 := gw5.trans gg;have hG6 : G < w6.heap.size := Nat.lt_of_lt_of_le hG5 g6.size;clear h6 h6' g6 g7 gg hR5 hY5 hS5 gw5 hb5 hG5;go_upto_region 11 with fail
   obtain ⟨Z, hZ⟩ : ∃ Z, Z = w6.heap.size := ⟨_, rfl⟩;rw [← hZ] at hZ7 ⊢;clear hZ hG6;generalize World.alloc w6 _ = w7 at *;obtain ⟨hp1, hp2⟩ := Yc hY7 (.slice b6 B.st.dk.blocks.length e6) (.slice l6 B.st.dk.late.length m6) (.slice i6 B.st.idx.length j6) (.int .i64 B.st.next);have hR8 := (hp2.block _ (Za hR7) (by omega)).trans hR7;have hS8 := hS7.but hp2 (fun h => h.1 rfl);have gw8 := hp2.grow gw7 (by omega);obtain ⟨z0, z1, z2, z3⟩ := Z4 hZ7 rfl rfl rfl rfl;obtain ⟨y0, y1, y2, y3⟩ := Z4 hY7 rfl rfl rfl rfl;obtain ⟨f0, f1, f2, f3⟩ := Yp hY7;have cs := Zu;clear hp2 hR7 hY7 hZ7 hS7 gw7;go_wp2_with fail;go_roundw
   case rel => exact ⟨k + 1, B.st, b6, e6, l6, m6, i6, j6, by omega, by go_num, HNX, HBI, hR8, hp1, hS8, gw8⟩
   case measure => simp [intOf]; omega
  ·have HE : Hid (Xl ds = s) := by
    show _ = _;rw [← HS.out, List.take_of_length_le (by rw [← HLD.out]; omega)]
   obtain rfl : D = s := by rw [HD.out, HE.out]
   clear HE HS;obtain ⟨hq1, hq2⟩ := Yc hR (.slice b1 D.dk.blocks.length e1) (.slice l1 D.dk.late.length m1) (.slice i1 D.idx.length j1) (.int .i64 D.next);obtain ⟨x0, x1, x2, x3⟩ := Z4 hq1 rfl rfl rfl rfl;obtain ⟨z0, z1, z2, z3⟩ := Z4 hR rfl rfl rfl rfl;obtain ⟨o0, o1, o2, o3⟩ := Yp hR;obtain ⟨y0, y1, y2, y3⟩ := Z4 hY rfl rfl rfl rfl;have cs := Zu;have gE := hq2.grow gw (Nat.le_refl _);have hE := (hS.but hq2 (fun h => h.2 rfl)).any;clear hq1 hq2 hR hY hS gw;go_wp2_with fail;exact bodyPost_ret (v := .tuple #[.agg #[.slice b1 D.dk.blocks.length e1, .slice l1 D.dk.late.length m1, .slice i1 D.idx.length j1, .int .i64 D.next], .bool true]) (by simp [results, Tryz.results8, go_sem, x0, x1, x2, x3]) rfl ⟨_, rfl, hE, gE⟩
end Go.Proofs.YtpdnapbchcdhladGreatDoor
