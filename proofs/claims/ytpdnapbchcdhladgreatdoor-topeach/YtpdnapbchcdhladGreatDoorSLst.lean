import Derived.Test.YtpdnapbchcdhladGreatDoorSCpt
import Derived.Test.YtpdnapbchcdhladGreatDoorPages
set_option maxHeartbeats 8000000
namespace Go.Proofs.YtpdnapbchcdhladGreatDoor
set_option maxRecDepth 100000
open Go.RowKit Go.Deep
open Plain Reg
variable {ds : List Int} {fr : Int} {l : List Rec}
theorem Zrb {r : Rec} (h : Z6 r = 0) (hk : r.kind ≠ 1) : 1 ≤ r.key ∧ r.key ≤ 255 := by
 obtain ⟨h1, h2, h3, -⟩ := (Zai r).1 h;unfold Xa at h3;simp [hk] at h3;omega
def Ztt (l : List Rec) (fr : Int) (r : Rec) : Bool := decide (fr ≤ r.key ∧ (X6 l r.key).e = 0)
def Xp (l : List Rec) (fr : Int) (k : Nat) : List Int := ((l.take k).filter (Ztt l fr)).map Rec.key
theorem Zlz (l : List Rec) (fr : Int) {k : Nat} (hk : k < l.length) : Xp l fr (k + 1) = if fr ≤ l[k].key ∧ (X6 l l[k].key).e = 0 then Xp l fr k ++ [l[k].key] else Xp l fr k := by
 unfold Xp;rw [List.take_succ_eq_append_getElem hk, List.filter_append, List.map_append];by_cases h : fr ≤ l[k].key ∧ (X6 l l[k].key).e = 0
 ·rw [if_pos h, List.filter_cons_of_pos (by exact decide_eq_true h)]; rfl
 ·rw [if_neg h, List.filter_cons_of_neg (by show ¬ Ztt l fr l[k] = true; unfold Ztt; rw [decide_eq_true_eq]; exact h)]; simp
theorem Zgq (l : List Rec) (fr : Int) (k : Nat) : (Xp l fr k).length ≤ l.length := by
 unfold Xp;rw [List.length_map];exact Nat.le_trans (List.length_filter_le _ _) (by rw [List.length_take]; omega)
theorem Zse {s : St} (h : Xr s.idx = true) (fr : Int) (k : Nat) : (Xp s.recs fr k).Pairwise (· ≤ ·) := by
 have h1 := ((Yr s.idx).1 h).1;have h2 : s.recs.Pairwise (fun a b => a.key ≤ b.key) := by
  unfold St.recs;rw [List.pairwise_map];refine h1.imp ?_;rintro a b ⟨hl, -⟩;unfold Yv at hl;by_cases e : a.rc.key = b.rc.key
  ·omega
  ·rw [if_neg e, decide_eq_true_eq] at hl; omega
 unfold Xp;rw [List.pairwise_map];exact (h2.sublist (List.take_sublist _ _)).sublist List.filter_sublist
theorem Zvt : ∀ (a b : List Int), a.Pairwise (· < ·) → b.Pairwise (· < ·) → (∀ x, x ∈ a ↔ x ∈ b) → a = b
 | [], [], _, _, _ => rfl
 | [], y :: b, _, _, h => absurd ((h y).2 (by simp)) (by simp)
 | x :: a, [], _, _, h => absurd ((h x).1 (by simp)) (by simp)
 | x :: a, y :: b, ha, hb, h => by
  obtain ⟨ha1, ha2⟩ := List.pairwise_cons.1 ha;obtain ⟨hb1, hb2⟩ := List.pairwise_cons.1 hb;have hxy : x = y := by
   rcases List.mem_cons.1 ((h x).1 (by simp)) with h1 | h1
   ·exact h1
   ·rcases List.mem_cons.1 ((h y).2 (by simp)) with h2 | h2
    ·exact h2.symm
    ·have := ha1 y h2; have := hb1 x h1; omega
  subst hxy;rw [Zvt a b ha2 hb2 fun z => ?_];constructor
  ·intro hz;rcases List.mem_cons.1 ((h z).1 (by simp [hz])) with rfl | h2
   ·have := ha1 z hz; omega
   ·exact h2
  ·intro hz;rcases List.mem_cons.1 ((h z).2 (by simp [hz])) with rfl | h2
   ·have := hb1 z hz; omega
   ·exact h2
theorem Zin (l : List Rec) (x : Int) (h0 : 1 ≤ x) (he : (X6 l x).e = 0) : ∀ k : Nat, x ≤ (k : Int) → x ∈ Kg l k
 | 0, h => by omega
 | k + 1, h => by
  unfold Kg;by_cases e : x = (k : Int) + 1
  ·subst e; rw [if_pos he]; simp
  ·have := Zin l x h0 he k (by omega);split
   ·exact List.mem_append_left _ this
   ·exact this
theorem Zsd (hr : ∀ r ∈ l, 1 ≤ r.key ∧ r.key ≤ 255) (hu : ds.Pairwise (· < ·)) (hm : ∀ x, x ∈ ds ↔ x ∈ Xp l fr l.length) : ds = (Kg l 255).filter fun x => decide (fr ≤ x) := by
 obtain ⟨h1, h2⟩ := Zgn l 255;refine Zvt _ _ hu (h2.sublist List.filter_sublist) fun x => ?_;rw [hm, List.mem_filter, decide_eq_true_eq];unfold Xp;rw [List.take_length, List.mem_map];constructor
 ·rintro ⟨r, h, rfl⟩;obtain ⟨h3, h4⟩ := List.mem_filter.1 h;have h5 := of_decide_eq_true h4;have := hr r h3;exact ⟨Zin l _ this.1 h5.2 255 (by have := this.2; omega), h5.1⟩
 ·rintro ⟨h3, h4⟩;have h5 := (h1 x h3).2.2;rcases Zqc x l ⟨0, 6, []⟩ h5 with h6 | ⟨r, h6, rfl⟩
  ·cases h6
  ·exact ⟨r, List.mem_filter.2 ⟨h6, decide_eq_true ⟨h4, h5⟩⟩, rfl⟩
theorem Zgm (l : List Rec) (fr most : Int) (h : most < 0) : ∀ k, Qo l fr most k = []
 | 0 => rfl
 | k + 1 => by
  unfold Qo;rw [Zgm l fr most h k, if_neg (fun h3 => by have := h3.2.2; simp at this; omega)]
def Zcp (most : Int) (n : Nat) : Nat := min most.toNat n
theorem Zr9 (hr : ∀ r ∈ l, 1 ≤ r.key ∧ r.key ≤ 255) {most : Int} (hu : ds.Pairwise (· < ·)) (hm : ∀ x, x ∈ ds ↔ x ∈ Xp l fr l.length) : ds.take (Zcp most ds.length) = Qo l fr most 255 := by
 unfold Zcp;by_cases h : most < 0
 ·rw [Zgm l fr most h, show most.toNat = 0 by omega]; simp
 ·rw [Zel l fr most (by omega), ← Zsd hr hu hm, ← List.take_eq_take_min]
theorem Zve {w : World} {B n cap : Nat} {T : TypeId} {ao : Option Addr} {xs : List Value} (h : w.ownsRow B T 1 (.slice ao n cap) n xs) {m : Nat} (hm : m ≤ n) : w.ownsRow B T 1 (.slice ao m cap) m (xs.take m) := by
 have hl := h.1;refine ⟨by rw [List.length_take]; omega, ?_⟩;rcases h.2 with ⟨e, h0⟩ | ⟨q, cap', cur, e, hb, hh, hnc, hcm, hsz, ht⟩
 ·cases e; exact .inl ⟨by rw [show m = 0 by omega], by omega⟩
 ·cases e;refine .inr ⟨q, cap, cur, rfl, hb, hh, by omega, hcm, hsz, ?_⟩;rw [← ht, List.take_take, Nat.min_eq_left (by omega), Nat.mul_one]
theorem Zrg (S : Nat → Prop) (s : St) (fr most : Int) (v : Value) (w : World) (hs : Zw S s v w) (hri : Xr s.idx = true) (h6 : s.idx.length ≤ 6) :
  Calls Tryz.prog 15 #[v, .int .i64 fr, .int .i64 most] w fun r w' => ∃ v', r = .returned v' ∧ w'.ownsRow w.heap.size 3 1 v' (Qo s.recs fr most 255).length ((Qo s.recs fr most 255).map (Value.int .i64)) ∧ Zj w w' := by
 obtain ⟨i0, hif, hz0, hz1, hz2⟩ := info_parts Zis;have HS : Hid _ := hs;obtain ⟨ab, cb, al, cl, ai, ci, rfl, -, -, hi⟩ := hs.form;have g0 := Zd w (.cells #[.slice ab s.dk.blocks.length cb, .slice al s.dk.late.length cl, .slice ai s.idx.length ci, .int .i64 s.next] 30);have hx := Zk w #[.slice ab s.dk.blocks.length cb, .slice al s.dk.late.length cl, .slice ai s.idx.length ci, .int .i64 s.next] 30;have s2 := Ze hx 2 _ rfl;have hln : s.recs.length = s.idx.length := List.length_map ..;have HLN : Hid _ := hln;have HBD : Hid (∀ r ∈ s.recs, 1 ≤ r.key ∧ r.key ≤ 255) := fun r hr => by
  obtain ⟨x, hx, rfl⟩ := List.mem_map.1 hr;have h1 := ((Yr s.idx).1 hri).2 x hx;exact Zrb h1.1 h1.2.1
 clear hs hln;obtain ⟨L, hL⟩ : ∃ L, L = Qo s.recs fr most 255 := ⟨_, rfl⟩;rw [← hL];have HL : Hid _ := hL;clear hL;go_enter Tryz.func15, Tryz.ntmps15;go_wp2_with fail;generalize World.alloc w _ = W at *;clear s2;go_loopw [7, 16] (fun o i wr => ∃ k : Nat, k ≤ s.idx.length ∧ i = .int .i64 (k : Int) ∧ wr.ownsRow (w.heap.size + 1) 3 1 o (Xp s.recs fr k).length ((Xp s.recs fr k).map (Value.int .i64)) ∧ Zj w wr ∧ wr.heap[w.heap.size]? = some (.cells #[.slice ab s.dk.blocks.length cb, .slice al s.dk.late.length cl, .slice ai s.idx.length ci, .int .i64 s.next] 30 (0, 0))) (fun _ i _ => s.idx.length - (intOf i).toNat)
 case atStart => exact ⟨0, Nat.zero_le _, rfl, World.ownsRow_nil _ _ _ _, g0, hx⟩
 case round =>
  clear g0 hx;obtain ⟨k, hk, rfl, hR, hg, hx⟩ := hrel;by_cases hlt : k < s.idx.length
  ·obtain ⟨b, off, a1, c1, hv1, q0, q1, q2, q3, q4, hu⟩ := Zb3 (hi.grow hg) k hlt;cases hv1;have hrk : k < s.recs.length := by rw [HLN.out]; exact hlt
   have HK : Hid (Xp s.recs fr (k + 1) = if fr ≤ s.idx[k].rc.key ∧ (X6 s.recs s.idx[k].rc.key).e = 0 then Xp s.recs fr k ++ [s.idx[k].rc.key] else Xp s.recs fr k) := by
    have := Zlz s.recs fr hrk;rw [show s.recs[k] = s.idx[k].rc by simp [St.recs]] at this;exact this
   have hxl : (Xp s.recs fr k).length ≤ 6 := Nat.le_trans (Zgq _ _ _) (by rw [HLN.out]; exact h6);generalize s.idx[k] = x at *;generalize Xp s.recs fr k = xs at *;obtain ⟨a0, c0, rfl⟩ := Ye hR;have g1 := Zd wr (.cells #[.int .i64 x.rc.kind, .int .i64 x.rc.key, .int .i64 x.rc.ver, .slice a1 x.rc.data.length c1, .int .i64 x.pair] 66);have hX1 := Zk wr #[.int .i64 x.rc.kind, .int .i64 x.rc.key, .int .i64 x.rc.ver, .slice a1 x.rc.data.length c1, .int .i64 x.pair] 66;have hR1 := Z5 hR g1;have gw1 := hg.trans g1;have hx1 := (g1.block _ (Za hx)).trans hx;clear hu hR hg hx g1;have x1 := Ze hX1 1 _ rfl;obtain ⟨s0, s1, s2, s3⟩ := Z4 hx1 rfl rfl rfl rfl;clear hX1;obtain ⟨G, hG⟩ : ∃ G, G = X6 s.recs x.rc.key := ⟨_, rfl⟩;rw [← hG] at HK;have HG : Hid _ := hG;clear hG;go_wp2_with fail;refine (Zia S s x.rc.key _ _ (Zw.grow HS.out gw1) hri h6).mono ?_;rw [← HG.out];rintro r w2 ⟨u2, rfl, hu2, g2⟩;obtain ⟨a2, c2, rfl⟩ := hu2.form;have hR3 := Z5 hR1 g2;have gw3 := gw1.trans g2;have hs3 := (g2.block _ (Za hx1)).trans hx1;clear hu2 hR1 gw1 hx1 g2 q0 q1 q2 q3 q4 x1 s0 s1 s2 s3 HG;by_cases hf : fr ≤ x.rc.key
   ·by_cases he : G.e = 0
    ·have dE : (G.e == 0) = true := by simp [he]
     have HK2 : Hid (Xp s.recs fr (k + 1) = xs ++ [x.rc.key]) := by show _ = _; rw [HK.out, if_pos ⟨hf, he⟩]
     have HSZ : Hid (w.heap.size + 1 ≤ w2.heap.size) := Za hs3;have hnew : ∀ (t : Nat) u, ([.int .i64 x.rc.key] : List Value)[t]? = some u → (w2.alloc (.cells #[.int .i64 x.rc.key] 3)).cell? ((⟨w2.heap.size, 0, none⟩ : Addr).add t) = some u := by
      intro t u ht
      match t, ht with
      | 0, ht => simp at ht; subst ht; simp [Addr.add]
      | t + 1, ht => simp at ht
     clear HK he;go_wp2_with (at_builtin; refine wpList_append_own _ rfl (.tmp 36) (.tmp 38) 22 rfl (w.heap.size + 1) 3 i0 (.int .i64 0) 1 8 Tryz.underlying22 hif hz0 hz1 hz2 rfl (by decide) (.slice a0 xs.length c0) _ _ rfl (hR3.alloc _) ⟨w2.heap.size, 0, none⟩ 1 1 [.int .i64 x.rc.key] rfl rfl hnew (by intro u hu; simp at hu; subst hu; rfl) (by unfold maxLen; omega) (by omega) (by have := HSZ.out; simp; omega) ?_; intro v4 w4 hown4 hgrow4 _; have g6 : Zj w w4 := Yl (gw3.trans (Zd _ _)) hgrow4 (fun k hk => by have := (hR3.lt k hk).1; omega); have hs6 := (Zap hR3 hgrow4 (Zf1 hR3 (by omega)) (Za hs3)).trans hs3; have hR6 : w4.ownsRow (w.heap.size + 1) 3 1 v4 (xs ++ [x.rc.key]).length ((xs ++ [x.rc.key]).map (Value.int .i64)) := (by rw [List.length_append, List.map_append]; exact hown4); have hsl := Ye hown4; obtain ⟨a4, c4, hv4⟩ := hsl; subst hv4; clear hgrow4 hown4 hR3 hnew gw3 hs3);go_roundw
     case rel => exact ⟨k + 1, by omega, by go_num, by rw [HK2.out]; exact hR6, g6, hs6⟩
     case measure => simp [intOf]; omega
    ·have dE : (G.e == 0) = false := by simp [he]
     have HK2 : Hid (Xp s.recs fr (k + 1) = xs) := by show _ = _; rw [HK.out, if_neg (fun h => he h.2)]
     clear HK he;go_wp2_with fail;go_roundw
     case rel => exact ⟨k + 1, by omega, by go_num, by rw [HK2.out]; exact hR3, gw3, hs3⟩
     case measure => simp [intOf]; omega
   ·have HK2 : Hid (Xp s.recs fr (k + 1) = xs) := by show _ = _; rw [HK.out, if_neg (fun h => hf h.1)]
    have df : ¬ (x.rc.key ≥ fr) := hf;clear HK;go_wp2_with fail;go_roundw
    case rel => exact ⟨k + 1, by omega, by go_num, by rw [HK2.out]; exact hR3, gw3, hs3⟩
    case measure => simp [intOf]; omega
  ·have HKL : Hid (Xp s.recs fr k = Xp s.recs fr s.recs.length) := by show _ = _; rw [HLN.out, show k = s.idx.length by omega]
   rw [HKL.out] at hR;have hup := Zse hri fr s.recs.length;have hxl : (Xp s.recs fr s.recs.length).length ≤ 6 := Nat.le_trans (Zgq _ _ _) (by rw [HLN.out]; exact h6);have HLT : Hid (∀ ds : List Int, ds.Pairwise (· < ·) → (∀ x, x ∈ ds ↔ x ∈ Xp s.recs fr s.recs.length) → ds.take (Zcp most ds.length) = L) := fun ds h1 h2 => by rw [HL.out]; exact Zr9 HBD.out h1 h2
   generalize Xp s.recs fr s.recs.length = xs at *;clear HL;obtain ⟨a0, c0, rfl⟩ := Ye hR;clear hx hi HKL;go_wp2_with fail;refine (Zqz xs a0 c0 wr hxl hup (Zvf hR)).mono ?_;rintro r w1 ⟨rfl, g1⟩;have hR1 := Z5 hR g1;have gw1 := hg.trans g1;clear hR hg g1;go_wp2_with fail;refine (Zmu (w.heap.size + 1) w xs a0 c0 w1 (by omega) hup (by omega) gw1 hR1).mono ?_;rintro r w2 ⟨v2, ds, rfl, hR2, hu2, hm2, gE⟩;obtain ⟨a2, c2, rfl⟩ := Ye hR2;have HE : Hid _ := HLT.out ds hu2 hm2;have hcap : ds.length ≤ c2 := by
    rcases hR2.2 with ⟨e, h0⟩ | ⟨q, cap', cur, e, hb, hh, hnc, hcm, _⟩
    ·injection e with _ e1 e2; omega
    ·injection e with _ _ e2; omega
   have HR3 : Hid (∀ m, m ≤ ds.length → w2.ownsRow w.heap.size 3 1 (.slice a2 m c2) m ((ds.map (Value.int .i64)).take m)) := fun m hm => Yh (Zve hR2 hm) (Nat.le_succ w.heap.size)
   clear hR1 gw1 hR2 hu2 hm2 HLT hup hxl;have HMO : Hid (Zcp most ds.length = min most.toNat ds.length) := rfl;have hml : Zcp most ds.length ≤ ds.length := by unfold Zcp; omega
   generalize Zcp most ds.length = M at *;have HF : Hid (∀ m, m = M → w2.ownsRow w.heap.size 3 1 (.slice a2 m c2) L.length (L.map (Value.int .i64))) := by
    rintro m rfl;rw [← HE.out, List.length_take, Nat.min_eq_left hml, List.map_take];exact HR3.out _ hml
   clear HR3 HE hml;by_cases h0 : most ≤ 0
   ·go_wp2_with fail;all_goals
     go_ret;exact ⟨_, rfl, HF.out _ (by have := HMO.out; omega), gE⟩
   ·by_cases h1 : most ≤ (ds.length : Int)
    ·obtain ⟨t, rfl⟩ : ∃ t : Nat, most = (t : Int) := ⟨most.toNat, by omega⟩;go_wp2_with fail;all_goals
      go_ret;exact ⟨_, rfl, HF.out _ (by have := HMO.out; omega), gE⟩
    ·go_wp2_with fail;all_goals
      go_ret;exact ⟨_, rfl, HF.out _ (by have := HMO.out; omega), gE⟩
end Go.Proofs.YtpdnapbchcdhladGreatDoor
namespace Go.Proofs.YtpdnapbchcdhladGreatDoor
set_option maxRecDepth 100000
open Go.RowKit
open Plain Reg
theorem Zzn : Zqh := fun S w hS => Zh7 S w hS
theorem Zf0 : Zjb := fun S s v w _ hs hA => (Zak S s v w hs (by have := hA.ok.len; omega) (fun r hr => (Qm (Zbt hA.ok.right hA.ok.len)).2 r hr |>.2.2)).mono fun _ _ ⟨v', _, h1, h2, h3⟩ => ⟨v', h1, h2.recs S, h3⟩
theorem Zxu : Zm3 := fun S s key v w _ hs hA => Zia S s key v w hs hA.ok.right hA.ok.len
theorem Zy1 : Zph := fun S s fr most v w _ hs hA => Zrg S s fr most v w hs hA.ok.right hA.ok.len
variable {j : Nat} {v x : Value} {w : World}
theorem Zro {base p i size : Nat} {e : TypeId} {n : Nat} {xs : List Value} (h : w.ownsRow base e size v n xs) (hp : v.ownBlock ≠ some p) : (w.setCell ⟨p, i, none⟩ x).ownsRow base e size v n xs := by
 refine ⟨h.1, Xh h.2 (fun x => x) fun ⟨q, cap, cur, h1, h2, h3, r⟩ => ⟨q, cap, cur, h1, h2, ?_, r⟩⟩;rw [Below.heap_setCell _ _ _ _ (by rintro rfl; subst h1; exact hp rfl)];exact h3
theorem Vc.turn {B p cp m j : Nat} {bs : List (List UInt8)} {us : List Value} {lt : List UInt8} {x : Value} (h : Vc B v bs us w) (ha : Zje us) (hm : m < bs.length) (hu : us[m]? = some (.slice (some ⟨p, 0, none⟩) bs[m].length cp))
  (hlt : lt.length = bs[m].length) (hx : (bs[m].map bv).set j x = lt.map bv) : Vc B v (bs.set m lt) us (w.setCell ⟨p, j, none⟩ x) := by
 have hrow : w.ownsRow B 5 1 (.slice (some ⟨p, 0, none⟩) bs[m].length cp) bs[m].length (bs[m].map bv) := by
  obtain ⟨y, h1, h2⟩ := h.each m hm;rw [hu] at h1; cases h1; exact h2
 obtain ⟨cur, hcur⟩ := Vj hrow;refine ⟨by rw [List.length_set]; exact h.len, by rw [List.length_set]; exact Zej h.row hcur (by decide), fun i hi => ?_⟩;rw [List.length_set] at hi;by_cases e : m = i
 ·subst e;refine ⟨_, hu, ?_⟩;simp only [List.getElem_set_self];rw [hlt, ← hx];exact (hrow.stored j x).1
 ·obtain ⟨y, h1, h2⟩ := h.each i hi;refine ⟨y, h1, ?_⟩;rw [List.getElem_set_ne e];refine Zro h2 fun hp => ?_;rcases Nat.lt_or_gt_of_ne e with h' | h'
  ·exact ha m i _ _ p h' hu h1 rfl hp
  ·exact ha i m _ _ p h' h1 hu hp rfl
theorem Qa.turn {C p : Nat} {ws : List Wr} (h : Qa C v ws w) (hp : p < C) : Qa C v ws (w.setCell ⟨p, j, none⟩ x) := by
 obtain ⟨us, h⟩ := h;exact ⟨us, h.len, Xq h.row hp _, fun i hi => (h.each i hi).imp fun _ hu => ⟨hu.1, Xq hu.2 hp _⟩⟩
theorem Zy6 (c : UInt8) (y : Int) : bits .xor .u8 (c.toNat : Int) (y % 256) = ((c ^^^ lo y).toNat : Int) := by
 have hc : c.toNat < 256 := UInt8.toNat_lt _;have hx : c.toNat ^^^ (lo y).toNat < 2 ^ 8 := Nat.xor_lt_two_pow hc (UInt8.toNat_lt _);have e1 : (BitVec.ofInt 8 (c.toNat : Int)).toNat = c.toNat := by
  rw [BitVec.ofInt_natCast, BitVec.toNat_ofNat]; exact Nat.mod_eq_of_lt (by omega)
 have e2 : (BitVec.ofInt 8 ((lo y).toNat : Int)).toNat = (lo y).toNat := by
  rw [BitVec.ofInt_natCast, BitVec.toNat_ofNat]; exact Nat.mod_eq_of_lt (UInt8.toNat_lt _)
 rw [← J0 y];show IntKind.u8.wrap ((BitVec.ofInt 8 (c.toNat : Int) ^^^ BitVec.ofInt 8 ((lo y).toNat : Int)).toNat : Int) = _;rw [BitVec.toNat_xor, e1, e2, IntKind.wrap_u8, UInt8.toNat_xor];omega
theorem Znx (d : Dk) (a n y : Int) (vb vl : Value) (w : World) (hb : Xn w vb d.blocks) (hl : Vd w vl d.late) (hlen : d.blocks.length ≤ 256) (hm : d.late.length ≤ 1000) (hb16 : ∀ x ∈ d.blocks, x.length ≤ 1000) (hl16 : ∀ x ∈ d.late, x.2.length ≤ 1000) :
  Calls Tryz.prog 39 #[.agg #[vb, vl], .int .i64 a, .int .i64 n, .int .i64 y] w fun e w' => ∃ v, e = .returned v ∧ Qd w.heap.size (d.spoil a n y) v w' ∧ Zj w w' := by
 obtain ⟨ab, cb, rfl⟩ := hb.form;obtain ⟨al, cl, rfl⟩ := hl.form;have gW := Zx w (.cells #[.slice ab d.blocks.length cb, .slice al d.late.length cl] 27) (.cells #[.slice none 0 0, .slice none 0 0] 27);have hy := hy1 w #[.slice ab d.blocks.length cb, .slice al d.late.length cl] #[.slice none 0 0, .slice none 0 0];go_enter Tryz.func39, Tryz.ntmps39;go_wp2_with fail;refine (Ke d _ _ _ (hb.grow gW) (hl.grow gW) hlen hm hb16 hl16).mono ?_;rintro e w1 ⟨v1, rfl, hA, g1⟩;obtain ⟨vb1, vl1, us, C, rfl, hU, hap, hah, hC, hlt⟩ := hA;obtain ⟨a5, c5, rfl⟩ := hU.p.form;obtain ⟨a8, c8, rfl⟩ := hlt.form;have g2 := Zd w1 (.cells #[.slice a5 d.blocks.length c5, .slice a8 d.late.length c8] 27);have hxg := Zk w1 #[.slice a5 d.blocks.length c5, .slice a8 d.late.length c8] 27;replace hyw := ((g1.trans g2).block _ (Za hy)).trans hy;replace gW3 := gW.trans (g1.trans g2);replace hU := (hU.grow g2).mono (B' := w.heap.size + 1 + 1) (by simp);replace hlt := hlt.grow g2;replace hC : w.heap.size + 1 + 1 ≤ C := by simp at hC; exact hC
 clear g1 g2 gW hy hb hl;go_wp2_with fail;refine (Zds d.blocks.length a _ _ _ _ _ _).mono ?_;rintro e w2 ⟨rfl, g3⟩;replace hxg := (g3.block _ (Za hxg)).trans hxg;replace hyw := (g3.block _ (Za hyw)).trans hyw;replace gW3 := gW3.trans g3;replace hU := hU.grow g3;replace hlt := hlt.grow g3;clear g3;generalize w1.heap.size = g at *;by_cases hin : 0 ≤ a ∧ a < (d.blocks.length : Int)
 ·have hh : Kj d.blocks.length a = true := by unfold Kj; simp [hin]
  rw [hh];have hsp : d.spoil a n y = ⟨d.blocks.set a.toNat (turned (d.blocks.getD a.toNat []) n y), d.late⟩ := by unfold Dk.spoil; rw [if_pos hin]
  obtain ⟨m, rfl⟩ := Int.eq_ofNat_of_zero_le hin.1;have hm1 : m < d.blocks.length := by omega
  rw [Int.toNat_natCast, V9 _ _ _ hm1] at hsp;obtain ⟨q, cq, e5⟩ := Zee hU (by omega);cases e5;obtain ⟨u, hu1, hu2⟩ := hU.each m hm1;have cq := (hU.row.cellAt m (by omega)).trans hu1;obtain ⟨au, cu, rfl⟩ := Ye hu2;obtain ⟨y0, y1⟩ := Q8 hxg rfl rfl;by_cases hn : 0 ≤ n ∧ n < ((d.blocks[m]).length : Int)
  ·obtain ⟨j, rfl⟩ := Int.eq_ofNat_of_zero_le hn.1;have hj : j < (d.blocks[m]).length := by omega
   obtain ⟨p, cp, ep⟩ := Zuk hu2 (by omega);cases ep;have cp := hu2.cellAt j (by omega);have fp := hu2.frozenAt j;have hbj : ((d.blocks[m]).map bv)[j]? = some (.int .u8 ((d.blocks[m])[j].toNat : Int)) := by simp [hj, bv]
   rw [hbj] at cp;clear hbj;obtain ⟨cur, hcur⟩ := Vj hu2;have hgp : g ≠ p := by rintro rfl; rw [hxg] at hcur; cases hcur
   have hyp : w.heap.size + 1 ≠ p := by rintro rfl; rw [hyw] at hcur; cases hcur
   have hpB := (hu2.lt p rfl).1;have hpC : p < C := hah m _ p hu1 rfl;have HX : Hid _ := Zy6 (d.blocks[m])[j] y;have hcb : ((d.blocks[m])[j]).toNat < 256 := UInt8.toNat_lt _;have hT1 := Znh d.blocks[m] j y hj;have hT2 := Zca d.blocks[m] (j : Int) y;have hU' := fun x h => Vc.turn (j := j) (x := x) hU hap hm1 hu1 hT2 h
   replace hU' := hU' _ hT1;rw [← HX.out] at hU';have hsp2 : (d.spoil (m : Int) (j : Int) y).blocks = d.blocks.set m (turned d.blocks[m] (j : Int) y) := by rw [hsp]
   have hsp3 : (d.spoil (m : Int) (j : Int) y).late = d.late := by rw [hsp]
   rw [← hsp2] at hU';have HL : Hid (d.late = (d.spoil (m : Int) (j : Int) y).late) := hsp3.symm;clear hT1 hT2 hsp hsp2 hsp3 hu2 hU hcur HX;generalize hcj : (d.blocks[m])[j] = cj at *;clear hcj;have hlt' : Qa C _ _ (w2.setCell ⟨p, j, none⟩ (.int .u8 (bits .xor .u8 (cj.toNat : Int) (y % 256)))) := hlt.turn hpC;have hxg' : (w2.setCell ⟨p, j, none⟩ (.int .u8 (bits .xor .u8 (cj.toNat : Int) (y % 256)))).heap[g]? = _ := (Below.heap_setCell _ _ _ _ hgp).trans hxg;have hyw' : (w2.setCell ⟨p, j, none⟩ (.int .u8 (bits .xor .u8 (cj.toNat : Int) (y % 256)))).heap[w.heap.size + 1]? = _ := (Below.heap_setCell _ _ _ _ hyp).trans hyw;have gW3' : Zj w (w2.setCell ⟨p, j, none⟩ (.int .u8 (bits .xor .u8 (cj.toNat : Int) (y % 256)))) := Ya gW3 (by show w.heap.size ≤ p; omega) _;have x0 := Ze hxg' 0 _ rfl;have x1 := Ze hxg' 1 _ rfl;have z0 := Ze hyw' 0 _ rfl;have z1 := Ze hyw' 1 _ rfl;have f0 := Zt hyw' 0;have f1 := Zt hyw' 1;have cs := Zu;obtain ⟨hp1, hp2⟩ := Xy hyw' (.slice (some ⟨q, 0, none⟩) d.blocks.length c5) (.slice a8 d.late.length c8);have hstep : Yu 27 _ _ := .inr ⟨_, _, _, hp2, hyw', hp1, rfl⟩;have gE := hp2.grow gW3' (by omega);have hE := (hU'.box hstep).mono (B' := w.heap.size) (by omega);have hF := (hlt'.box hstep).mono (B' := w.heap.size) (by omega);clear hp1 hp2 hstep hU' hlt' hlt hxg hyw gW3 gW3' hyw' hxg' hgp hyp;go_wp2_with fail
   exact bodyPost_ret (v := .agg #[.slice (some ⟨q, 0, none⟩) d.blocks.length c5, .slice a8 d.late.length c8]) (by simp [results, Tryz.results39, go_sem, z0, z1, cs]) rfl ⟨_, rfl, ⟨_, _, rfl, ⟨us, hE⟩, by rw [← HL.out]; exact hF⟩, gE⟩
  ·have HS : Hid (d.spoil (m : Int) n y = d) := by
    show _ = _;rw [hsp]; unfold turned; rw [if_neg hn, List.set_getElem_self]
   clear hu2 hsp hu1;obtain ⟨z0, z1⟩ := Q8 hyw rfl rfl;have f0 := Zt hyw 0;have f1 := Zt hyw 1;have cs := Zu;obtain ⟨hp1, hp2⟩ := Xy hyw (.slice (some ⟨q, 0, none⟩) d.blocks.length c5) (.slice a8 d.late.length c8);have hstep : Yu 27 _ _ := .inr ⟨_, _, _, hp2, hyw, hp1, rfl⟩;have gE := hp2.grow gW3 (by omega);have hE := (hU.box hstep).mono (B' := w.heap.size) (by omega);have hF := (hlt.box hstep).mono (B' := w.heap.size) (by omega);clear hp1 hp2 hstep hU hlt hxg hyw gW3;have hcase : n < 0 ∨ (0 ≤ n ∧ ¬ n < ((d.blocks[m]).length : Int)) := by omega
   clear hn;rcases hcase with h1 | ⟨h1, h2⟩
   all_goals
    go_wp2_with fail;exact bodyPost_ret (v := .agg #[.slice (some ⟨q, 0, none⟩) d.blocks.length c5, .slice a8 d.late.length c8]) (by simp [results, Tryz.results39, go_sem, z0, z1, cs]) rfl ⟨_, rfl, by rw [HS.out]; exact ⟨_, _, rfl, ⟨us, hE⟩, hF⟩, gE⟩
 ·have hh : Kj d.blocks.length a = false := by unfold Kj; simp; omega
  rw [hh];have HS : Hid (d.spoil a n y = d) := by show d.spoil a n y = d; unfold Dk.spoil; rw [if_neg hin]
  clear hin hh;obtain ⟨y0, y1⟩ := Q8 hxg rfl rfl;obtain ⟨z0, z1⟩ := Q8 hyw rfl rfl;have f0 := Zt hyw 0;have f1 := Zt hyw 1;have cs := Zu;obtain ⟨hp1, hp2⟩ := Xy hyw (.slice a5 d.blocks.length c5) (.slice a8 d.late.length c8);have hstep : Yu 27 _ _ := .inr ⟨_, _, _, hp2, hyw, hp1, rfl⟩;have gE := hp2.grow gW3 (by omega);have hE := (hU.box hstep).mono (B' := w.heap.size) (by omega);have hF := (hlt.box hstep).mono (B' := w.heap.size) (by omega);clear hp1 hp2 hstep hU hlt hxg hyw gW3;go_wp2_with fail;exact bodyPost_ret (v := .agg #[.slice a5 d.blocks.length c5, .slice a8 d.late.length c8]) (by simp [results, Tryz.results39, go_sem, z0, z1, cs]) rfl ⟨_, rfl, by rw [HS.out]; exact ⟨_, _, rfl, ⟨us, hE⟩, hF⟩, gE⟩
end Go.Proofs.YtpdnapbchcdhladGreatDoor
