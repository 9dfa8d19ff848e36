import Derived.Test.YtpdnapbchcdhlabGreatSDo
import Derived.ProofKit
import Derived.OpenShut
import Derived.SizedLaws
import Derived.Lib.SmallJoins
import Derived.Deep.SlicePairs
set_option maxHeartbeats 8000000
namespace Go.Proofs.YtpdnapbchcdhlabGreat
set_option maxRecDepth 100000
open Go.RowKit Go.Deep
open Plain Reg
variable {ds : List Int} {fr : Int} {l : List Rec}
theorem Zqs {r : Rec} (h : Yd r = 0) (hk : r.kind ≠ 1) : 1 ≤ r.key ∧ r.key ≤ 255 := by
 obtain ⟨h1, h2, h3, -⟩ := (Zfx r).1 h;unfold Xi at h3;simp [hk] at h3;omega
def Zsr (l : List Rec) (fr : Int) (r : Rec) : Bool := decide (fr ≤ r.key ∧ (Q8 l r.key).e = 0)
def Qd (l : List Rec) (fr : Int) (k : Nat) : List Int := ((l.take k).filter (Zsr l fr)).map Rec.key
theorem Zl2 (l : List Rec) (fr : Int) {k : Nat} (hk : k < l.length) : Qd l fr (k + 1) = if fr ≤ l[k].key ∧ (Q8 l l[k].key).e = 0 then Qd l fr k ++ [l[k].key] else Qd l fr k := by
 unfold Qd;rw [List.take_succ_eq_append_getElem hk, List.filter_append, List.map_append];by_cases h : fr ≤ l[k].key ∧ (Q8 l l[k].key).e = 0
 ·rw [if_pos h, List.filter_cons_of_pos (by exact decide_eq_true h)]; rfl
 ·rw [if_neg h, List.filter_cons_of_neg (by show ¬ Zsr l fr l[k] = true; unfold Zsr; rw [decide_eq_true_eq]; exact h)]; simp
theorem Zg5 (l : List Rec) (fr : Int) (k : Nat) : (Qd l fr k).length ≤ l.length := by
 unfold Qd;rw [List.length_map];exact Nat.le_trans (List.length_filter_le _ _) (by rw [List.length_take]; omega)
theorem Zrq {s : St} (h : Qg s.idx = true) (fr : Int) (k : Nat) : (Qd s.recs fr k).Pairwise (· ≤ ·) := by
 have h1 := ((Xb s.idx).1 h).1;have h2 : s.recs.Pairwise (fun a b => a.key ≤ b.key) := by
  unfold St.recs;rw [List.pairwise_map];refine h1.imp ?_;rintro a b ⟨hl, -⟩;unfold Y1 at hl;by_cases e : a.rc.key = b.rc.key
  ·omega
  ·rw [if_neg e, decide_eq_true_eq] at hl; omega
 unfold Qd;rw [List.pairwise_map];exact (h2.sublist (List.take_sublist _ _)).sublist List.filter_sublist
theorem Zum : ∀ (a b : List Int), a.Pairwise (· < ·) → b.Pairwise (· < ·) → (∀ x, x ∈ a ↔ x ∈ b) → a = b
 | [], [], _, _, _ => rfl
 | [], y :: b, _, _, h => absurd ((h y).2 (by simp)) (by simp)
 | x :: a, [], _, _, h => absurd ((h x).1 (by simp)) (by simp)
 | x :: a, y :: b, ha, hb, h => by
  obtain ⟨ha1, ha2⟩ := List.pairwise_cons.1 ha;obtain ⟨hb1, hb2⟩ := List.pairwise_cons.1 hb;have hxy : x = y := by
   rcases List.mem_cons.1 ((h x).1 (by simp)) with h1 | h1
   ·exact h1
   ·rcases List.mem_cons.1 ((h y).2 (by simp)) with h2 | h2
    ·exact h2.symm
    ·have := ha1 y h2; have := hb1 x h1; omega
  subst hxy;rw [Zum a b ha2 hb2 fun z => ?_];constructor
  ·intro hz;rcases List.mem_cons.1 ((h z).1 (by simp [hz])) with rfl | h2
   ·have := ha1 z hz; omega
   ·exact h2
  ·intro hz;rcases List.mem_cons.1 ((h z).2 (by simp [hz])) with rfl | h2
   ·have := hb1 z hz; omega
   ·exact h2
theorem Zi1 (l : List Rec) (x : Int) (h0 : 1 ≤ x) (he : (Q8 l x).e = 0) : ∀ k : Nat, x ≤ (k : Int) → x ∈ Jp l k
 | 0, h => by omega
 | k + 1, h => by
  unfold Jp;by_cases e : x = (k : Int) + 1
  ·subst e; rw [if_pos he]; simp
  ·have := Zi1 l x h0 he k (by omega);split
   ·exact List.mem_append_left _ this
   ·exact this
theorem Zrp (hr : ∀ r ∈ l, 1 ≤ r.key ∧ r.key ≤ 255) (hu : ds.Pairwise (· < ·)) (hm : ∀ x, x ∈ ds ↔ x ∈ Qd l fr l.length) : ds = (Jp l 255).filter fun x => decide (fr ≤ x) := by
 obtain ⟨h1, h2⟩ := Zdx l 255;refine Zum _ _ hu (h2.sublist List.filter_sublist) fun x => ?_;rw [hm, List.mem_filter, decide_eq_true_eq];unfold Qd;rw [List.take_length, List.mem_map];constructor
 ·rintro ⟨r, h, rfl⟩;obtain ⟨h3, h4⟩ := List.mem_filter.1 h;have h5 := of_decide_eq_true h4;have := hr r h3;exact ⟨Zi1 l _ this.1 h5.2 255 (by have := this.2; omega), h5.1⟩
 ·rintro ⟨h3, h4⟩;have h5 := (h1 x h3).2.2;rcases Zj4 x l ⟨0, 6, []⟩ h5 with h6 | ⟨r, h6, rfl⟩
  ·cases h6
  ·exact ⟨r, List.mem_filter.2 ⟨h6, decide_eq_true ⟨h4, h5⟩⟩, rfl⟩
theorem Zg0 (l : List Rec) (fr most : Int) (h : most < 0) : ∀ k, Xr l fr most k = []
 | 0 => rfl
 | k + 1 => by
  unfold Xr;rw [Zg0 l fr most h k, if_neg (fun h3 => by have := h3.2.2; simp at this; omega)]
def Zdb (most : Int) (n : Nat) : Nat := min most.toNat n
theorem Zrj (hr : ∀ r ∈ l, 1 ≤ r.key ∧ r.key ≤ 255) {most : Int} (hu : ds.Pairwise (· < ·)) (hm : ∀ x, x ∈ ds ↔ x ∈ Qd l fr l.length) : ds.take (Zdb most ds.length) = Xr l fr most 255 := by
 unfold Zdb;by_cases h : most < 0
 ·rw [Zg0 l fr most h, show most.toNat = 0 by omega]; simp
 ·rw [Zco l fr most (by omega), ← Zrp hr hu hm, ← List.take_eq_take_min]
theorem Zt4 {w : World} {B n cap : Nat} {T : TypeId} {ao : Option Addr} {xs : List Value} (h : w.ownsRow B T 1 (.slice ao n cap) n xs) {m : Nat} (hm : m ≤ n) : w.ownsRow B T 1 (.slice ao m cap) m (xs.take m) := by
 have hl := h.1;refine ⟨by rw [List.length_take]; omega, ?_⟩;rcases h.2 with ⟨e, h0⟩ | ⟨q, cap', cur, e, hb, hh, hnc, hcm, hsz, ht⟩
 ·cases e; exact .inl ⟨by rw [show m = 0 by omega], by omega⟩
 ·cases e;refine .inr ⟨q, cap, cur, rfl, hb, hh, by omega, hcm, hsz, ?_⟩;rw [← ht, List.take_take, Nat.min_eq_left (by omega), Nat.mul_one]
theorem Zq0 (S : Nat → Prop) (s : St) (fr most : Int) (v : Value) (w : World) (hs : Z5 S s v w) (hri : Qg s.idx = true) (h6 : s.idx.length ≤ 6) :
  Calls Tryz.prog 21 #[v, .int .i64 fr, .int .i64 most] w fun r w' => ∃ v', r = .returned v' ∧ w'.ownsRow w.heap.size 3 1 v' (Xr s.recs fr most 255).length ((Xr s.recs fr most 255).map (Value.int .i64)) ∧ Zo w w' := by
 obtain ⟨i0, hif, hz0, hz1, hz2⟩ := info_parts Zi5;have HS : Hid _ := hs;obtain ⟨ab, cb, al, cl, ai, ci, rfl, -, -, hi⟩ := hs.form;have g0 := Zd w (.cells #[.slice ab s.dk.blocks.length cb, .slice al s.dk.late.length cl, .slice ai s.idx.length ci, .int .i64 s.next] 33);have hx := Zj w #[.slice ab s.dk.blocks.length cb, .slice al s.dk.late.length cl, .slice ai s.idx.length ci, .int .i64 s.next] 33;have s2 := Ze hx 2 _ rfl;have hln : s.recs.length = s.idx.length := List.length_map ..;have HLN : Hid _ := hln;have HBD : Hid (∀ r ∈ s.recs, 1 ≤ r.key ∧ r.key ≤ 255) := fun r hr => by
  obtain ⟨x, hx, rfl⟩ := List.mem_map.1 hr;have h1 := ((Xb s.idx).1 hri).2 x hx;exact Zqs h1.1 h1.2.1
 clear hs hln;obtain ⟨L, hL⟩ : ∃ L, L = Xr s.recs fr most 255 := ⟨_, rfl⟩;rw [← hL];have HL : Hid _ := hL;clear hL;go_enter Tryz.func21, Tryz.ntmps21;go_wp2_with fail;generalize World.alloc w _ = W at *;clear s2;go_loopw [7, 16] (fun o i wr => ∃ k : Nat, k ≤ s.idx.length ∧ i = .int .i64 (k : Int) ∧ wr.ownsRow (w.heap.size + 1) 3 1 o (Qd s.recs fr k).length ((Qd s.recs fr k).map (Value.int .i64)) ∧ Zo w wr ∧ wr.heap[w.heap.size]? = some (.cells #[.slice ab s.dk.blocks.length cb, .slice al s.dk.late.length cl, .slice ai s.idx.length ci, .int .i64 s.next] 33 (0, 0))) (fun _ i _ => s.idx.length - (intOf i).toNat)
 case atStart => exact ⟨0, Nat.zero_le _, rfl, World.ownsRow_nil _ _ _ _, g0, hx⟩
 case round =>
  clear g0 hx;obtain ⟨k, hk, rfl, hR, hg, hx⟩ := hrel;by_cases hlt : k < s.idx.length
  ·obtain ⟨b, off, a1, c1, hv1, q0, q1, q2, q3, q4, hu⟩ := Vp (hi.grow hg) k hlt;cases hv1;have hrk : k < s.recs.length := by rw [HLN.out]; exact hlt
   have HK : Hid (Qd s.recs fr (k + 1) = if fr ≤ s.idx[k].rc.key ∧ (Q8 s.recs s.idx[k].rc.key).e = 0 then Qd s.recs fr k ++ [s.idx[k].rc.key] else Qd s.recs fr k) := by
    have := Zl2 s.recs fr hrk;rw [show s.recs[k] = s.idx[k].rc by simp [St.recs]] at this;exact this
   have hxl : (Qd s.recs fr k).length ≤ 6 := Nat.le_trans (Zg5 _ _ _) (by rw [HLN.out]; exact h6);generalize s.idx[k] = x at *;generalize Qd s.recs fr k = xs at *;obtain ⟨a0, c0, rfl⟩ := Z4 hR;have g1 := Zd wr (.cells #[.int .i64 x.rc.kind, .int .i64 x.rc.key, .int .i64 x.rc.ver, .slice a1 x.rc.data.length c1, .int .i64 x.pair] 54);have hX1 := Zj wr #[.int .i64 x.rc.kind, .int .i64 x.rc.key, .int .i64 x.rc.ver, .slice a1 x.rc.data.length c1, .int .i64 x.pair] 54;have hR1 := Z6 hR g1;have gw1 := hg.trans g1;have hx1 := (g1.block _ (Za hx)).trans hx;clear hu hR hg hx g1;have x1 := Ze hX1 1 _ rfl;obtain ⟨s0, s1, s2, s3⟩ := Z7 hx1 rfl rfl rfl rfl;clear hX1;obtain ⟨G, hG⟩ : ∃ G, G = Q8 s.recs x.rc.key := ⟨_, rfl⟩;rw [← hG] at HK;have HG : Hid _ := hG;clear hG;go_wp2_with fail;refine (Ziw S s x.rc.key _ _ (Z5.grow HS.out gw1) hri h6).mono ?_;rw [← HG.out];rintro r w2 ⟨u2, rfl, hu2, g2⟩;obtain ⟨a2, c2, rfl⟩ := hu2.form;have hR3 := Z6 hR1 g2;have gw3 := gw1.trans g2;have hs3 := (g2.block _ (Za hx1)).trans hx1;clear hu2 hR1 gw1 hx1 g2 q0 q1 q2 q3 q4 x1 s0 s1 s2 s3 HG;by_cases hf : fr ≤ x.rc.key
   ·by_cases he : G.e = 0
    ·have dE : (G.e == 0) = true := by simp [he]
     have HK2 : Hid (Qd s.recs fr (k + 1) = xs ++ [x.rc.key]) := by show _ = _; rw [HK.out, if_pos ⟨hf, he⟩]
     have HSZ : Hid (w.heap.size + 1 ≤ w2.heap.size) := Za hs3;have hnew : ∀ (t : Nat) u, ([.int .i64 x.rc.key] : List Value)[t]? = some u → (w2.alloc (.cells #[.int .i64 x.rc.key] 3)).cell? ((⟨w2.heap.size, 0, none⟩ : Addr).add t) = some u := by
      intro t u ht
      match t, ht with
      | 0, ht => simp at ht; subst ht; simp [Addr.add]
      | t + 1, ht => simp at ht
     clear HK he;go_wp2_with (at_builtin; refine wpList_append_own _ rfl (.tmp 36) (.tmp 38) 36 rfl (w.heap.size + 1) 3 i0 (.int .i64 0) 1 8 Tryz.underlying36 hif hz0 hz1 hz2 rfl (by decide) (.slice a0 xs.length c0) _ _ rfl (hR3.alloc _) ⟨w2.heap.size, 0, none⟩ 1 1 [.int .i64 x.rc.key] rfl rfl hnew (by intro u hu; simp at hu; subst hu; rfl) (by unfold maxLen; omega) (by omega) (by have := HSZ.out; simp; omega) ?_; intro v4 w4 hown4 hgrow4 _; have g6 : Zo w w4 := Z8 (gw3.trans (Zd _ _)) hgrow4 (fun k hk => by have := (hR3.lt k hk).1; omega); have hs6 := (X4 hR3 hgrow4 (Kc hR3 (by omega)) (Za hs3)).trans hs3; have hR6 : w4.ownsRow (w.heap.size + 1) 3 1 v4 (xs ++ [x.rc.key]).length ((xs ++ [x.rc.key]).map (Value.int .i64)) := (by rw [List.length_append, List.map_append]; exact hown4); have hsl := Z4 hown4; obtain ⟨a4, c4, hv4⟩ := hsl; subst hv4; clear hgrow4 hown4 hR3 hnew gw3 hs3);go_roundw
     case rel => exact ⟨k + 1, by omega, by go_num, by rw [HK2.out]; exact hR6, g6, hs6⟩
     case measure => simp [intOf]; omega
    ·have dE : (G.e == 0) = false := by simp [he]
     have HK2 : Hid (Qd s.recs fr (k + 1) = xs) := by show _ = _; rw [HK.out, if_neg (fun h => he h.2)]
     clear HK he;go_wp2_with fail;go_roundw
     case rel => exact ⟨k + 1, by omega, by go_num, by rw [HK2.out]; exact hR3, gw3, hs3⟩
     case measure => simp [intOf]; omega
   ·have HK2 : Hid (Qd s.recs fr (k + 1) = xs) := by show _ = _; rw [HK.out, if_neg (fun h => hf h.1)]
    have df : ¬ (x.rc.key ≥ fr) := hf;clear HK;go_wp2_with fail;go_roundw
    case rel => exact ⟨k + 1, by omega, by go_num, by rw [HK2.out]; exact hR3, gw3, hs3⟩
    case measure => simp [intOf]; omega
  ·have HKL : Hid (Qd s.recs fr k = Qd s.recs fr s.recs.length) := by show _ = _; rw [HLN.out, show k = s.idx.length by omega]
   rw [HKL.out] at hR;have hup := Zrq hri fr s.recs.length;have hxl : (Qd s.recs fr s.recs.length).length ≤ 6 := Nat.le_trans (Zg5 _ _ _) (by rw [HLN.out]; exact h6);have HLT : Hid (∀ ds : List Int, ds.Pairwise (· < ·) → (∀ x, x ∈ ds ↔ x ∈ Qd s.recs fr s.recs.length) → ds.take (Zdb most ds.length) = L) := fun ds h1 h2 => by rw [HL.out]; exact Zrj HBD.out h1 h2
   generalize Qd s.recs fr s.recs.length = xs at *;clear HL;obtain ⟨a0, c0, rfl⟩ := Z4 hR;clear hx hi HKL;go_wp2_with fail;refine (Zql xs a0 c0 wr hxl hup (Zt6 hR)).mono ?_;rintro r w1 ⟨rfl, g1⟩;have hR1 := Z6 hR g1;have gw1 := hg.trans g1;clear hR hg g1;go_wp2_with fail;refine (Zmo (w.heap.size + 1) w xs a0 c0 w1 (by omega) hup (by omega) gw1 hR1).mono ?_;rintro r w2 ⟨v2, ds, rfl, hR2, hu2, hm2, gE⟩;obtain ⟨a2, c2, rfl⟩ := Z4 hR2;have HE : Hid _ := HLT.out ds hu2 hm2;have hcap : ds.length ≤ c2 := by
    rcases hR2.2 with ⟨e, h0⟩ | ⟨q, cap', cur, e, hb, hh, hnc, hcm, _⟩
    ·injection e with _ e1 e2; omega
    ·injection e with _ _ e2; omega
   have HR3 : Hid (∀ m, m ≤ ds.length → w2.ownsRow w.heap.size 3 1 (.slice a2 m c2) m ((ds.map (Value.int .i64)).take m)) := fun m hm => Yf (Zt4 hR2 hm) (Nat.le_succ w.heap.size)
   clear hR1 gw1 hR2 hu2 hm2 HLT hup hxl;have HMO : Hid (Zdb most ds.length = min most.toNat ds.length) := rfl;have hml : Zdb most ds.length ≤ ds.length := by unfold Zdb; omega
   generalize Zdb most ds.length = M at *;have HF : Hid (∀ m, m = M → w2.ownsRow w.heap.size 3 1 (.slice a2 m c2) L.length (L.map (Value.int .i64))) := by
    rintro m rfl;rw [← HE.out, List.length_take, Nat.min_eq_left hml, List.map_take];exact HR3.out _ hml
   clear HR3 HE hml;by_cases h0 : most ≤ 0
   ·go_wp2_with fail;all_goals
     go_ret;exact ⟨_, rfl, HF.out _ (by have := HMO.out; omega), gE⟩
   ·by_cases h1 : most ≤ (ds.length : Int)
    ·obtain ⟨t, rfl⟩ : ∃ t : Nat, most = (t : Int) := ⟨most.toNat, by omega⟩;go_wp2_with fail;all_goals
      go_ret;exact ⟨_, rfl, HF.out _ (by have := HMO.out; omega), gE⟩
    ·go_wp2_with fail;all_goals
      go_ret;exact ⟨_, rfl, HF.out _ (by have := HMO.out; omega), gE⟩
end Go.Proofs.YtpdnapbchcdhlabGreat
namespace Go.Proofs.YtpdnapbchcdhlabGreat
set_option maxRecDepth 100000
open Go.RowKit
open Plain Reg
theorem Zwj : Zvj := fun S w hS => Zqy S w hS
theorem Zwi : Zvi := fun S s v w hS hs hA => Ziu S 0 s v w hS hs hA.ok.disk (by omega) hA.ok.right
theorem Zei : Zd7 := fun S d v w hS hd hF => Zgk S 2 d v w hS hd.p hF (by omega)
theorem Zao : Za4 := fun S s v w _ hs hA => (Za9 S s v w hs (by have := hA.ok.len; omega) (fun r hr => (V2 (Zek hA.ok.right hA.ok.len)).2 r hr |>.2.2)).mono fun _ _ ⟨v', _, h1, h2, h3⟩ => ⟨v', h1, h2.recs S, h3⟩
theorem Zge : Zfu := fun S s d v ad c w hS hs hd hA hdl => Zgm S 0 s d v ad c w hS hs hd hA.ok (by omega) hdl
theorem sDo : Zxr := fun S s d v ad c w hS hs hd hA hdl => Zt2 S 0 s d v ad c w hS hs hd hA.ok (by omega) hdl
theorem Zti : Zp7 := fun S s key v w _ hs hA => Ziw S s key v w hs hA.ok.right hA.ok.len
theorem Zk3 : Zki := fun S s fr most v w _ hs hA => Zq0 S s fr most v w hs hA.ok.right hA.ok.len
end Go.Proofs.YtpdnapbchcdhlabGreat
namespace Go.Proofs.YtpdnapbchcdhlabGreat
set_option maxRecDepth 100000
open Go.RowKit Go.ChangeShapes Go.WideShapes Go.ChangeAt
open Plain Reg
theorem Zv0 {n : Int} (h : (Lit.int .u8 n).wf = true) : 0 ≤ n ∧ n < 256 := by
 have : 0 ≤ n ∧ n ≤ 255 := by simpa [Lit.wf, IntKind.min, IntKind.max, IntKind.signed, IntKind.bits] using h
 omega
def J2 (zs : List Int) : List UInt8 := zs.map fun n => UInt8.ofNat n.toNat
theorem Zr8 {w : World} {x : Addr} {len cap : Nat} {zs : List Int} (hl : len ≤ cap) (hz : zs.length = cap)
  (hc : ∀ i, i < zs.length → w.cell? (x.add i) = some (.int .u8 (zs.getD i 0))) (hw : ∀ n ∈ zs, (Lit.int .u8 n).wf = true) :
  Bytes w (.slice (some x) len cap) (J2 (zs.take len)) := by
 have e : (J2 (zs.take len)).length = len := by simp [J2]; omega
 by_cases h0 : len = 0
 ·subst h0;exact .inl ⟨some x, cap, rfl, by simp [J2], fun h => by cases h⟩
 ·obtain ⟨b, off, rfl, hc'⟩ := ints_at hc (by omega);refine .inr ⟨b, off, cap, by rw [e], by omega, fun i hi => ?_⟩;have hi' : i < zs.length := by omega
  rw [hc' i hi'];have h1 : zs.getD i 0 = zs[i] := by rw [List.getD_eq_getElem?_getD, List.getElem?_eq_getElem hi']; rfl
  have h2 := Zv0 (hw zs[i] (List.getElem_mem hi'));have h3 : ((J2 (zs.take len))[i].toNat : Int) = zs[i] := by
   simp only [J2, List.getElem_map, List.getElem_take];rw [UInt8.toNat_ofNat'];omega
  rw [h1, h3]
end Go.Proofs.YtpdnapbchcdhlabGreat
namespace Go.Proofs.YtpdnapbchcdhlabGreat
set_option maxRecDepth 100000
open Go.RowKit Go.ChangeShapes Go.WideShapes Go.ChangeAt Go.Deep
open Plain Reg
section
variable {H : Type} {enc : TypeId × Value → H} {W : World}
theorem Kr {P : Program} {ts : List TypeId} {ds : List (DataW H)} (h : (DataW.weightsEach P ts ds).all (· ≤ reachBytes) = true) {j : Nat} {t : TypeId} {d : DataW H} (ht : ts[j]? = some t) (hd : ds[j]? = some d) : (d.weights P t).all (· ≤ reachBytes) = true := by
 rw [List.all_eq_true] at h ⊢;exact fun n hn => h n (DataW.weights_mem_each ht hd n hn)
theorem Zgp {fuel : Nat} {v : Value} {x : DataW H × List MemPlace} (h : DataW.trod enc Tryz.prog W 0 (fun _ => true) true fuel 23 [v] = some x) (hs : (x.1.weights Tryz.prog 23).all (· ≤ reachBytes) = true) :
  ∃ l, Bytes W v l ∧ l.length ≤ 140737488351232 := by
 rcases open_ints Tryz.underlying23 Tryz.underlying5 (by kernel_rfl) h with ⟨hcs, _⟩ | ⟨a, len, cap, zs, hcs, _, hl, hm, hz, hx, hcell, hwz⟩
 ·simp only [List.cons.injEq, and_true] at hcs;subst hcs;exact ⟨[], .inl ⟨none, 0, rfl, rfl, fun _ => rfl⟩, by simp⟩
 ·simp only [List.cons.injEq, and_true] at hcs;subst hcs;have hzz : zs.length = cap := by simpa using hz
  subst hx;have hs2 : (lits (H := H) .u8 (zs.take len)).length + (lits (H := H) .u8 (zs.drop len)).length ≤ reachBytes := by
   have h3 := (List.all_eq_true.1 hs) (((lits (H := H) .u8 (zs.take len)).length + (lits (H := H) .u8 (zs.drop len)).length) * Tryz.prog.bytesOf 5) (by simp [DataW.weights, Tryz.underlying23]);rw [show Tryz.prog.bytesOf 5 = 1 from by kernel_rfl, Nat.mul_one] at h3;simpa using h3
  simp only [lits, List.length_map, List.length_take, List.length_drop, reachBytes] at hs2;refine ⟨J2 (zs.take len), Zr8 hl hzz hcell hwz, ?_⟩;simp [J2]; omega
end
end Go.Proofs.YtpdnapbchcdhlabGreat
namespace Go.Proofs.YtpdnapbchcdhlabGreat
set_option maxRecDepth 100000
open Go.RowKit Go.ChangeShapes Go.WideShapes Go.ChangeAt Go.Deep
open Plain Reg
section
variable {H : Type} {enc : TypeId × Value → H} {W : World}
theorem Zn2 {a : Addr} {u : Value} (h : W.cell? (a.add 0) = some u) : ∃ b off, a = ⟨b, off, none⟩ := by
 obtain ⟨b, off, spot⟩ := a;cases spot with
 | none => exact ⟨b, off, rfl⟩
 | some s =>
  exfalso;unfold World.cell? Addr.add at h;simp only [if_true] at h;split at h <;> simp_all
theorem Ziv (b off i : Nat) : (⟨b, off, none⟩ : Addr).add i = ⟨b, off + i, none⟩ := by
 unfold Addr.add;split
 ·rename_i h; rw [h]; rfl
 ·rfl
end
section
variable {H : Type} {enc : TypeId × Value → H} {W : World}
end
section
variable {H : Type} {enc : TypeId × Value → H} {W : World}
theorem Zet {r : Reach} {b0 : Nat} {v : Value} {d : DataW H} {p : List MemPlace} (hok : Value.okWide Tryz.prog W r b0 25 v) (h : DataW.Trod enc Tryz.prog W 0 (fun _ => true) true 25 v d p)
  (hs : (d.weights Tryz.prog 25).all (· ≤ reachBytes) = true) :
  ∃ (e : Dd) (a : Option Addr) (c : Nat), v = .agg #[.int .i64 e.kind, .int .i64 e.key, .int .i64 e.num, .slice a e.data.length c] ∧ Z1 (fun b => b < W.heap.size) W (.slice a e.data.length c) e.data ∧ e.data.length ≤ 140737488351232 := by
 obtain ⟨cs, rfl, hsz⟩ := okWide_struct Tryz.underlying25 hok;have hc4 : Tryz.prog.cellsOf 25 = 4 := by kernel_rfl
 obtain ⟨c0, c1, c2, c3, rfl⟩ := Go.Joins.array4 (hsz.trans hc4);obtain ⟨fuel, hf⟩ := h;obtain ⟨y0, y1, y2, y3, m, hx, _, h0, h1, h2, h3⟩ := Go.Joins.trod_struct4 Tryz.underlying25 hf;have t0 : Tryz.prog.cellsOf 3 = 1 := by kernel_rfl
 have t1 : Tryz.prog.cellsOf 23 = 1 := by kernel_rfl
 simp only [Value.cells, t0, t1, List.drop_zero, List.drop_succ_cons, List.take_succ_cons, List.take_zero] at h0 h1 h2 h3;obtain ⟨a0, e0, f0, -⟩ := DataW.trod_int Tryz.underlying3 h0;obtain ⟨a1, e1, f1, -⟩ := DataW.trod_int Tryz.underlying3 h1;obtain ⟨a2, e2, f2, -⟩ := DataW.trod_int Tryz.underlying3 h2;simp only [List.cons.injEq, and_true] at e0 e1 e2;subst e0; subst e1; subst e2;simp only [Prod.mk.injEq] at hx;obtain ⟨rfl, -⟩ := hx;have hw3 : (y3.1.weights Tryz.prog 23).all (· ≤ reachBytes) = true := by
  simp only [DataW.weights, Tryz.underlying25] at hs;exact Kr (j := 3) hs rfl rfl
 obtain ⟨l, hb, hl⟩ := Zgp h3 hw3;obtain ⟨a, c, rfl⟩ := (Zd4 hb).form;exact ⟨⟨a0, a1, a2, l⟩, a, c, rfl, Zd4 hb, hl⟩
end
variable {cs : List Value} {fuel : Nat} {v : Value}
section
variable {H : Type} {enc : TypeId × Value → H} {W : World}
theorem Zfz {P : Program} {e : TypeId} : ∀ {l : List (DataW H)} {d : DataW H}, d ∈ l → ∀ n ∈ d.weights P e, n ∈ DataW.weightsAll P e l
 | c :: r, d, h, n, hn => by
  rw [DataW.weightsAll, List.mem_append];rcases List.mem_cons.1 h with rfl | h
  ·exact .inl hn
  ·exact .inr (Zfz h n hn)
theorem Zn6 {α : Type} (i0 : Inhabited α) (sh : Qr α) (Q : α → Prop) {t : TypeId} {fuel : Nat} {v : Value} {x : DataW H × List MemPlace} (ht : Tryz.prog.underlying t = some (.slice sh.T)) (hc : Tryz.prog.cellsOf sh.T = sh.size) (hz : 0 < sh.size) {by_ : Nat} (hby : Tryz.prog.bytesOf sh.T = by_)
  (hopen : ∀ (fuel : Nat) (cs : List Value) (y : DataW H × List MemPlace), DataW.trod enc Tryz.prog W 0 (fun _ => true) true fuel sh.T cs = some y → (y.1.weights Tryz.prog sh.T).all (· ≤ reachBytes) = true → ∃ z : α, sh.enc (fun b => b < W.heap.size) W z cs ∧ Q z)
  (h : DataW.trod enc Tryz.prog W 0 (fun _ => true) true fuel t [v] = some x) (hs : (x.1.weights Tryz.prog t).all (· ≤ reachBytes) = true) :
  ∃ xs, Z3 sh (fun b => b < W.heap.size) W v xs ∧ xs.length * by_ ≤ 140737488351232 ∧ ∀ z ∈ xs, Q z := by
 rcases open_slice ht h with ⟨hcs, _⟩ | ⟨a, len, cap, m, n, D, Pl, hcs, _, hl, hm, hmm, hx, hV⟩
 ·simp only [List.cons.injEq, and_true] at hcs;subst hcs;exact ⟨[], .inl ⟨none, 0, rfl, rfl, fun _ => rfl⟩, by simp, by simp⟩
 ·simp only [List.cons.injEq, and_true] at hcs;subst hcs;have hmc : m = cap := by simpa using hmm
  subst hmc;subst hx;have hex : ∀ i, i < len → ∃ z : α, ∃ cs, (sh.enc (fun b => b < W.heap.size) W z cs ∧ Q z) ∧ ∀ (j : Nat) (u : Value), cs[j]? = some u → W.cell? (a.add (i * sh.size + j)) = some u := by
   intro i hi;obtain ⟨cs, h1, h2⟩ := hV i (by omega);rw [hc] at h1;obtain ⟨_, hlen, hcell⟩ := World.cells?_some h1;have hwt : ((D i).weights Tryz.prog sh.T).all (· ≤ reachBytes) = true := by
    rw [List.all_eq_true] at hs ⊢;intro k hk;refine hs k ?_;have := Zfz (P := Tryz.prog) (e := sh.T) (l := (List.range len).map D) (List.mem_map.2 ⟨i, List.mem_range.2 hi, rfl⟩) k hk;simp only [DataW.weights, ht];exact List.mem_cons_of_mem _ (List.mem_append_left _ this)
   obtain ⟨z, hz⟩ := hopen _ _ _ h2 hwt;refine ⟨z, cs, hz, fun j u hj => ?_⟩;have hjl := (List.getElem?_eq_some_iff.1 hj).1;have := hcell j (by omega);rw [add_add] at this;rw [this]; exact hj
  obtain ⟨f, hf⟩ := choose_lt hex;have hw : len * by_ ≤ reachBytes := by
   have h3 := (List.all_eq_true.1 hs) ((((List.range len).map D).length + ((List.range (m - len)).map fun j => D (len + j)).length) * Tryz.prog.bytesOf sh.T) (by simp [DataW.weights, ht]);rw [hby] at h3;simp only [List.length_map, List.length_range, decide_eq_true_eq] at h3;exact Nat.le_trans (Nat.mul_le_mul_right _ (by omega)) h3
  refine ⟨(List.range len).map f, ?_, by simp [reachBytes] at hw ⊢; omega, fun z hz => by
   obtain ⟨i, hi, rfl⟩ := List.mem_map.1 hz;obtain ⟨_, k1, _⟩ := hf i (List.mem_range.1 hi);exact k1.2⟩
  by_cases h0 : len = 0
  ·subst h0;exact .inl ⟨some a, m, rfl, by simp, fun h => by cases h⟩
  ·obtain ⟨cs0, e1, e2⟩ := hf 0 (by omega);have hl0 := sh.len e1.1;have e3 := e2 0 cs0[0] (List.getElem?_eq_getElem (by omega));rw [Nat.zero_mul, Nat.zero_add] at e3;obtain ⟨b, off, rfl⟩ := Zn2 e3;refine .inr ⟨b, off, m, ?_, by simp, by simpa using hl, fun i hi => ?_⟩
   ·rw [Ziv] at e3;exact Zs e3
   ·obtain ⟨cs, k1, k2⟩ := hf i (by simpa using hi);refine ⟨cs, by simpa using k1.1, fun j u hj => ?_⟩;have := k2 j u hj;rw [Ziv] at this;rw [Nat.add_assoc]; exact this
theorem Zoq {x : DataW H × List MemPlace} (h : DataW.trod enc Tryz.prog W 0 (fun _ => true) true fuel 25 cs = some x) (hs : (x.1.weights Tryz.prog 25).all (· ≤ reachBytes) = true) :
  ∃ (e : Dd) (u : Value), cs = [.int .i64 e.kind, .int .i64 e.key, .int .i64 e.num, u] ∧ Bytes W u e.data ∧ e.data.length ≤ 140737488351232 := by
 obtain ⟨y0, y1, y2, y3, m, hx, hl, h0, h1, h2, h3⟩ := Go.Joins.trod_struct4 Tryz.underlying25 h;have hc4 : Tryz.prog.cellsOf 25 = 4 := by kernel_rfl
 have t0 : Tryz.prog.cellsOf 3 = 1 := by kernel_rfl
 have t1 : Tryz.prog.cellsOf 23 = 1 := by kernel_rfl
 rw [hc4] at hl;subst hx;have hw3 : (y3.1.weights Tryz.prog 23).all (· ≤ reachBytes) = true := by
  simp only [DataW.weights, Tryz.underlying25] at hs;exact Kr (j := 3) hs rfl rfl
 match cs, hl with
 | [c0, c1, c2, c3], _ =>
  simp only [t0, t1, List.drop_zero, List.drop_succ_cons, List.take_succ_cons, List.take_zero] at h0 h1 h2 h3;obtain ⟨a0, e0, f0, -⟩ := DataW.trod_int Tryz.underlying3 h0;obtain ⟨a1, e1, f1, -⟩ := DataW.trod_int Tryz.underlying3 h1;obtain ⟨a2, e2, f2, -⟩ := DataW.trod_int Tryz.underlying3 h2;simp only [List.cons.injEq, and_true] at e0 e1 e2;subst e0; subst e1; subst e2;obtain ⟨l, hb, hlb⟩ := Zgp h3 hw3;exact ⟨⟨a0, a1, a2, l⟩, c3, rfl, hb, hlb⟩
theorem Znb {x : DataW H × List MemPlace} (h : DataW.trod enc Tryz.prog W 0 (fun _ => true) true fuel 70 cs = some x) (hs : (x.1.weights Tryz.prog 70).all (· ≤ reachBytes) = true) :
  ∃ (e : Sp) (u : Value), cs = [.int .i64 e.kind, .int .i64 e.n, .int .i64 e.m, .int .i64 e.deed.kind, .int .i64 e.deed.key, .int .i64 e.deed.num, u] ∧ Bytes W u e.deed.data ∧ e.deed.data.length ≤ 140737488351232 := by
 obtain ⟨y0, y1, y2, y3, m, hx, hl, h0, h1, h2, h3⟩ := Go.Joins.trod_struct4 Tryz.underlying70 h;have hc7 : Tryz.prog.cellsOf 70 = 7 := by kernel_rfl
 have hc4 : Tryz.prog.cellsOf 25 = 4 := by kernel_rfl
 have t0 : Tryz.prog.cellsOf 3 = 1 := by kernel_rfl
 rw [hc7] at hl;subst hx;have hw3 : (y3.1.weights Tryz.prog 25).all (· ≤ reachBytes) = true := by
  simp only [DataW.weights, Tryz.underlying70] at hs;exact Kr (j := 3) hs rfl rfl
 match cs, hl with
 | [c0, c1, c2, c3, c4, c5, c6], _ =>
  simp only [t0, hc4, List.drop_zero, List.drop_succ_cons, List.take_succ_cons, List.take_zero] at h0 h1 h2 h3;obtain ⟨a0, e0, f0, -⟩ := DataW.trod_int Tryz.underlying3 h0;obtain ⟨a1, e1, f1, -⟩ := DataW.trod_int Tryz.underlying3 h1;obtain ⟨a2, e2, f2, -⟩ := DataW.trod_int Tryz.underlying3 h2;simp only [List.cons.injEq, and_true] at e0 e1 e2;subst e0; subst e1; subst e2;obtain ⟨d, u, e3, hb, hlb⟩ := Zoq h3 hw3;simp only [List.cons.injEq, and_true] at e3;obtain ⟨rfl, rfl, rfl, rfl⟩ := e3;exact ⟨⟨a0, a1, a2, d⟩, c6, rfl, hb, hlb⟩
theorem Zba {x : DataW H × List MemPlace} (h : DataW.trod enc Tryz.prog W 0 (fun _ => true) true fuel 22 [v] = some x) (hs : (x.1.weights Tryz.prog 22).all (· ≤ reachBytes) = true) : ∃ l, K7 (fun b => b < W.heap.size) W v l ∧ l.length ≤ 140737488351232 ∧ ∀ z ∈ l, z.deed.data.length ≤ 140737488351232 := by
 obtain ⟨l, h1, h2, h3⟩ := Zn6 ⟨⟨0, 0, 0, ⟨0, 0, 0, []⟩⟩⟩ Zpi (fun z => z.deed.data.length ≤ 140737488351232) Tryz.underlying22 (by kernel_rfl) (by decide) (by_ := 72) (by kernel_rfl) (fun _ cs _ h hw => by
  obtain ⟨e, u, rfl, hb, hl⟩ := Znb h hw;exact ⟨e, ⟨u, rfl, Zd4 hb⟩, hl⟩) h hs
 exact ⟨l, h1, by omega, h3⟩
end
end Go.Proofs.YtpdnapbchcdhlabGreat
