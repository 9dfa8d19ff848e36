import Derived.Test.YtgaecpdokgklpadGreatDoorSCpt
set_option maxHeartbeats 8000000
namespace Go.Proofs.YtgaecpdokgklpadGreatDoor
set_option maxRecDepth 100000
open Plain
def Zan (l : List Rec) : Nat → List Int
 | 0 => []
 | k + 1 => if (Qv l ((k : Int) + 1)).e = 0 then Zan l k ++ [(k : Int) + 1] else Zan l k
theorem Zhf (l : List Rec) (fr most : Int) (hm : 0 ≤ most) : ∀ k, Qz l fr most k = ((Zan l k).filter fun x => decide (fr ≤ x)).take most.toNat
 | 0 => by simp [Qz, Zan]
 | k + 1 => by
  have ih := Zhf l fr most hm k;unfold Qz Zan;by_cases he : (Qv l ((k : Int) + 1)).e = 0
  ·rw [if_pos he, List.filter_append];by_cases hf : fr ≤ (k : Int) + 1
   ·rw [List.filter_cons_of_pos (by exact decide_eq_true hf), List.filter_nil, List.take_append];by_cases hl : ((Qz l fr most k).length : Int) < most
    ·rw [if_pos ⟨he, hf, hl⟩, ih];rw [ih, List.length_take] at hl
     congr 1
     rw [List.take_of_length_le (by simp; omega)]
    ·rw [if_neg (fun h => hl h.2.2), ih];rw [ih, List.length_take] at hl;rw [show most.toNat - ((Zan l k).filter fun x => decide (fr ≤ x)).length = 0 by omega];simp
   ·rw [if_neg (fun h => hf h.2.1), ih, List.filter_cons_of_neg (by simpa using hf)];simp
  ·rw [if_neg (fun h => he h.1), if_neg he, ih]
theorem Zkl (l : List Rec) : ∀ k, (∀ x ∈ Zan l k, 1 ≤ x ∧ x ≤ (k : Int) ∧ (Qv l x).e = 0) ∧ (Zan l k).Pairwise (· < ·)
 | 0 => ⟨(fun x hx => by cases hx), List.Pairwise.nil⟩
 | k + 1 => by
  obtain ⟨h1, h2⟩ := Zkl l k;unfold Zan;by_cases he : (Qv l ((k : Int) + 1)).e = 0
  ·rw [if_pos he];refine ⟨fun x hx => ?_, List.pairwise_append.2 ⟨h2, List.pairwise_singleton _ _, fun a ha b hb => ?_⟩⟩
   ·rcases List.mem_append.1 hx with h | h
    ·have := h1 x h; exact ⟨this.1, by omega, this.2.2⟩
    ·rw [List.mem_singleton.1 h]; exact ⟨by omega, by omega, he⟩
   ·rw [List.mem_singleton.1 hb]; have := h1 a ha; omega
  ·rw [if_neg he];exact ⟨fun x hx => by have := h1 x hx; exact ⟨this.1, by omega, this.2.2⟩, h2⟩
theorem Zom (key : Int) : ∀ (l : List Rec) (g : Got), (l.foldl (Qu key) g).e = 0 → g.e = 0 ∨ ∃ r ∈ l, r.key = key
 | [], g, h => .inl h
 | r :: l, g, h => by
  by_cases hk : r.key = key
  ·exact .inr ⟨r, by simp, hk⟩
  ·have e : Qu key g r = g := by
    unfold Qu;rw [if_pos (.inl hk)]
   rw [List.foldl_cons, e] at h;rcases Zom key l g h with h1 | ⟨x, hx, h1⟩
   ·exact .inl h1
   ·exact .inr ⟨x, by simp [hx], h1⟩
end Go.Proofs.YtgaecpdokgklpadGreatDoor
namespace Go.Proofs.YtgaecpdokgklpadGreatDoor
set_option maxRecDepth 100000
open Go.RowKit Go.Deep
open Plain Reg
theorem Zpg {r : Rec} (h : Z6 r = 0) (hk : r.kind ≠ 1) : 1 ≤ r.key ∧ r.key ≤ 255 := by
 obtain ⟨h1, h2, h3, -⟩ := (Zb4 r).1 h;unfold Xb at h3;simp [hk] at h3;omega
def Zro (l : List Rec) (fr : Int) (r : Rec) : Bool := decide (fr ≤ r.key ∧ (Qv l r.key).e = 0)
def Xo (l : List Rec) (fr : Int) (k : Nat) : List Int := ((l.take k).filter (Zro l fr)).map Rec.key
theorem Zkp (l : List Rec) (fr : Int) {k : Nat} (hk : k < l.length) : Xo l fr (k + 1) = if fr ≤ l[k].key ∧ (Qv l l[k].key).e = 0 then Xo l fr k ++ [l[k].key] else Xo l fr k := by
 unfold Xo;rw [List.take_succ_eq_append_getElem hk, List.filter_append, List.map_append];by_cases h : fr ≤ l[k].key ∧ (Qv l l[k].key).e = 0
 ·rw [if_pos h, List.filter_cons_of_pos (by exact decide_eq_true h)]; rfl
 ·rw [if_neg h, List.filter_cons_of_neg (by show ¬ Zro l fr l[k] = true; unfold Zro; rw [decide_eq_true_eq]; exact h)]; simp
theorem Zfy (l : List Rec) (fr : Int) (k : Nat) : (Xo l fr k).length ≤ l.length := by
 unfold Xo;rw [List.length_map];exact Nat.le_trans (List.length_filter_le _ _) (by rw [List.length_take]; omega)
theorem Zqg {s : St} (h : Xq s.idx = true) (fr : Int) (k : Nat) : (Xo s.recs fr k).Pairwise (· ≤ ·) := by
 have h1 := ((Yy s.idx).1 h).1;have h2 : s.recs.Pairwise (fun a b => a.key ≤ b.key) := by
  unfold St.recs;rw [List.pairwise_map];refine h1.imp ?_;rintro a b ⟨hl, -⟩;unfold Yv at hl;by_cases e : a.rc.key = b.rc.key
  ·omega
  ·rw [if_neg e, decide_eq_true_eq] at hl; omega
 unfold Xo;rw [List.pairwise_map];exact (h2.sublist (List.take_sublist _ _)).sublist List.filter_sublist
theorem Zti : ∀ (a b : List Int), a.Pairwise (· < ·) → b.Pairwise (· < ·) → (∀ x, x ∈ a ↔ x ∈ b) → a = b
 | [], [], _, _, _ => rfl
 | [], y :: b, _, _, h => absurd ((h y).2 (by simp)) (by simp)
 | x :: a, [], _, _, h => absurd ((h x).1 (by simp)) (by simp)
 | x :: a, y :: b, ha, hb, h => by
  obtain ⟨ha1, ha2⟩ := List.pairwise_cons.1 ha;obtain ⟨hb1, hb2⟩ := List.pairwise_cons.1 hb;have hxy : x = y := by
   rcases List.mem_cons.1 ((h x).1 (by simp)) with h1 | h1
   ·exact h1
   ·rcases List.mem_cons.1 ((h y).2 (by simp)) with h2 | h2
    ·exact h2.symm
    ·have := ha1 y h2; have := hb1 x h1; omega
  subst hxy;rw [Zti a b ha2 hb2 fun z => ?_];constructor
  ·intro hz;rcases List.mem_cons.1 ((h z).1 (by simp [hz])) with rfl | h2
   ·have := ha1 z hz; omega
   ·exact h2
  ·intro hz;rcases List.mem_cons.1 ((h z).2 (by simp [hz])) with rfl | h2
   ·have := hb1 z hz; omega
   ·exact h2
theorem Zhg (l : List Rec) (x : Int) (h0 : 1 ≤ x) (he : (Qv l x).e = 0) : ∀ k : Nat, x ≤ (k : Int) → x ∈ Zan l k
 | 0, h => by omega
 | k + 1, h => by
  unfold Zan;by_cases e : x = (k : Int) + 1
  ·subst e; rw [if_pos he]; simp
  ·have := Zhg l x h0 he k (by omega);split
   ·exact List.mem_append_left _ this
   ·exact this
theorem Zqf {l : List Rec} (hr : ∀ r ∈ l, 1 ≤ r.key ∧ r.key ≤ 255) {fr : Int} {ds : List Int} (hu : ds.Pairwise (· < ·)) (hm : ∀ x, x ∈ ds ↔ x ∈ Xo l fr l.length) : ds = (Zan l 255).filter fun x => decide (fr ≤ x) := by
 obtain ⟨h1, h2⟩ := Zkl l 255;refine Zti _ _ hu (h2.sublist List.filter_sublist) fun x => ?_;rw [hm, List.mem_filter, decide_eq_true_eq];unfold Xo;rw [List.take_length, List.mem_map];constructor
 ·rintro ⟨r, h, rfl⟩;obtain ⟨h3, h4⟩ := List.mem_filter.1 h;have h5 := of_decide_eq_true h4;have := hr r h3;exact ⟨Zhg l _ this.1 h5.2 255 (by have := this.2; omega), h5.1⟩
 ·rintro ⟨h3, h4⟩;have h5 := (h1 x h3).2.2;rcases Zom x l ⟨0, 6, []⟩ h5 with h6 | ⟨r, h6, rfl⟩
  ·cases h6
  ·exact ⟨r, List.mem_filter.2 ⟨h6, decide_eq_true ⟨h4, h5⟩⟩, rfl⟩
theorem Zft (l : List Rec) (fr most : Int) (h : most < 0) : ∀ k, Qz l fr most k = []
 | 0 => rfl
 | k + 1 => by
  unfold Qz;rw [Zft l fr most h k, if_neg (fun h3 => by have := h3.2.2; simp at this; omega)]
def Zcc (most : Int) (n : Nat) : Nat := min most.toNat n
theorem Zqb {l : List Rec} (hr : ∀ r ∈ l, 1 ≤ r.key ∧ r.key ≤ 255) {fr most : Int} {ds : List Int} (hu : ds.Pairwise (· < ·)) (hm : ∀ x, x ∈ ds ↔ x ∈ Xo l fr l.length) : ds.take (Zcc most ds.length) = Qz l fr most 255 := by
 unfold Zcc;by_cases h : most < 0
 ·rw [Zft l fr most h, show most.toNat = 0 by omega]; simp
 ·rw [Zhf l fr most (by omega), ← Zqf hr hu hm, ← List.take_eq_take_min]
theorem Zs3 {w : World} {B n cap : Nat} {T : TypeId} {ao : Option Addr} {xs : List Value} (h : w.ownsRow B T 1 (.slice ao n cap) n xs) {m : Nat} (hm : m ≤ n) : w.ownsRow B T 1 (.slice ao m cap) m (xs.take m) := by
 have hl := h.1;refine ⟨by rw [List.length_take]; omega, ?_⟩;rcases h.2 with ⟨e, h0⟩ | ⟨q, cap', cur, e, hb, hh, hnc, hcm, hsz, ht⟩
 ·cases e; exact .inl ⟨by rw [show m = 0 by omega], by omega⟩
 ·cases e;refine .inr ⟨q, cap, cur, rfl, hb, hh, by omega, hcm, hsz, ?_⟩;rw [← ht, List.take_take, Nat.min_eq_left (by omega), Nat.mul_one]
theorem Zpm (S : Nat → Prop) (s : St) (fr most : Int) (v : Value) (w : World) (hs : Zw S s v w) (hri : Xq s.idx = true) (h6 : s.idx.length ≤ 6) :
  Calls Tryz.prog 13 #[v, .int .i64 fr, .int .i64 most] w fun r w' => ∃ v', r = .returned v' ∧ w'.ownsRow w.heap.size 3 1 v' (Qz s.recs fr most 255).length ((Qz s.recs fr most 255).map (Value.int .i64)) ∧ Zj w w' := by
 obtain ⟨i0, hif, hz0, hz1, hz2⟩ := info_parts Zhk;have HS : Hid _ := hs;obtain ⟨ab, cb, al, cl, ai, ci, rfl, -, -, hi⟩ := hs.form;have g0 := Zd w (.cells #[.slice ab s.dk.blocks.length cb, .slice al s.dk.late.length cl, .slice ai s.idx.length ci, .int .i64 s.next] 30);have hx := Zk w #[.slice ab s.dk.blocks.length cb, .slice al s.dk.late.length cl, .slice ai s.idx.length ci, .int .i64 s.next] 30;have s2 := Zh hx 2 _ rfl;have hln : s.recs.length = s.idx.length := List.length_map ..;have HLN : Hid _ := hln;have HBD : Hid (∀ r ∈ s.recs, 1 ≤ r.key ∧ r.key ≤ 255) := fun r hr => by
  obtain ⟨x, hx, rfl⟩ := List.mem_map.1 hr;have h1 := ((Yy s.idx).1 hri).2 x hx;exact Zpg h1.1 h1.2.1
 clear hs hln;obtain ⟨L, hL⟩ : ∃ L, L = Qz s.recs fr most 255 := ⟨_, rfl⟩;rw [← hL];have HL : Hid _ := hL;clear hL;go_enter Tryz.func13, Tryz.ntmps13;go_wp2_with fail;generalize World.alloc w _ = W at *;clear s2;go_loopw [7, 16] (fun o i wr => ∃ k : Nat, k ≤ s.idx.length ∧ i = .int .i64 (k : Int) ∧ wr.ownsRow (w.heap.size + 1) 3 1 o (Xo s.recs fr k).length ((Xo s.recs fr k).map (Value.int .i64)) ∧ Zj w wr ∧ wr.heap[w.heap.size]? = some (.cells #[.slice ab s.dk.blocks.length cb, .slice al s.dk.late.length cl, .slice ai s.idx.length ci, .int .i64 s.next] 30 (0, 0))) (fun _ i _ => s.idx.length - (intOf i).toNat)
 case atStart => exact ⟨0, Nat.zero_le _, rfl, World.ownsRow_nil _ _ _ _, g0, hx⟩
 case round =>
  clear g0 hx;obtain ⟨k, hk, rfl, hR, hg, hx⟩ := hrel;by_cases hlt : k < s.idx.length
  ·obtain ⟨b, off, a1, c1, hv1, q0, q1, q2, q3, q4, hu⟩ := Zbr (hi.grow hg) k hlt;cases hv1;have hrk : k < s.recs.length := by rw [HLN.out]; exact hlt
   have HK : Hid (Xo s.recs fr (k + 1) = if fr ≤ s.idx[k].rc.key ∧ (Qv s.recs s.idx[k].rc.key).e = 0 then Xo s.recs fr k ++ [s.idx[k].rc.key] else Xo s.recs fr k) := by
    have := Zkp s.recs fr hrk;rw [show s.recs[k] = s.idx[k].rc by simp [St.recs]] at this;exact this
   have hxl : (Xo s.recs fr k).length ≤ 6 := Nat.le_trans (Zfy _ _ _) (by rw [HLN.out]; exact h6);generalize s.idx[k] = x at *;generalize Xo s.recs fr k = xs at *;obtain ⟨a0, c0, rfl⟩ := Ye hR;have g1 := Zd wr (.cells #[.int .i64 x.rc.kind, .int .i64 x.rc.key, .int .i64 x.rc.ver, .slice a1 x.rc.data.length c1, .int .i64 x.pair] 61);have hX1 := Zk wr #[.int .i64 x.rc.kind, .int .i64 x.rc.key, .int .i64 x.rc.ver, .slice a1 x.rc.data.length c1, .int .i64 x.pair] 61;have hR1 := Z5 hR g1;have gw1 := hg.trans g1;have hx1 := (g1.block _ (Zb hx)).trans hx;clear hu hR hg hx g1;have x1 := Zh hX1 1 _ rfl;obtain ⟨s0, s1, s2, s3⟩ := Z8 hx1 rfl rfl rfl rfl;clear hX1;obtain ⟨G, hG⟩ : ∃ G, G = Qv s.recs x.rc.key := ⟨_, rfl⟩;rw [← hG] at HK;have HG : Hid _ := hG;clear hG;go_wp2_with fail;refine (Zg7 S s x.rc.key _ _ (Zw.grow HS.out gw1) hri h6).mono ?_;rw [← HG.out];rintro r w2 ⟨u2, rfl, hu2, g2⟩;obtain ⟨a2, c2, rfl⟩ := hu2.form;have hR3 := Z5 hR1 g2;have gw3 := gw1.trans g2;have hs3 := (g2.block _ (Zb hx1)).trans hx1;clear hu2 hR1 gw1 hx1 g2 q0 q1 q2 q3 q4 x1 s0 s1 s2 s3 HG;by_cases hf : fr ≤ x.rc.key
   ·by_cases he : G.e = 0
    ·have dE : (G.e == 0) = true := by simp [he]
     have HK2 : Hid (Xo s.recs fr (k + 1) = xs ++ [x.rc.key]) := by show _ = _; rw [HK.out, if_pos ⟨hf, he⟩]
     have HSZ : Hid (w.heap.size + 1 ≤ w2.heap.size) := Zb hs3;have hnew : ∀ (t : Nat) u, ([.int .i64 x.rc.key] : List Value)[t]? = some u → (w2.alloc (.cells #[.int .i64 x.rc.key] 3)).cell? ((⟨w2.heap.size, 0, none⟩ : Addr).add t) = some u := by
      intro t u ht
      match t, ht with
      | 0, ht => simp at ht; subst ht; simp [Addr.add]
      | t + 1, ht => simp at ht
     clear HK he;go_wp2_with (at_builtin; refine wpList_append_own _ rfl (.tmp 36) (.tmp 38) 22 rfl (w.heap.size + 1) 3 i0 (.int .i64 0) 1 8 Tryz.underlying22 hif hz0 hz1 hz2 rfl (by decide) (.slice a0 xs.length c0) _ _ rfl (hR3.alloc _) ⟨w2.heap.size, 0, none⟩ 1 1 [.int .i64 x.rc.key] rfl rfl hnew (by intro u hu; simp at hu; subst hu; rfl) (by unfold maxLen; omega) (by omega) (by have := HSZ.out; simp; omega) ?_; intro v4 w4 hown4 hgrow4 _; have g6 : Zj w w4 := Yl (gw3.trans (Zd _ _)) hgrow4 (fun k hk => by have := (hR3.lt k hk).1; omega); have hs6 := (Zaf hR3 hgrow4 (Zfa hR3 (by omega)) (Zb hs3)).trans hs3; have hR6 : w4.ownsRow (w.heap.size + 1) 3 1 v4 (xs ++ [x.rc.key]).length ((xs ++ [x.rc.key]).map (Value.int .i64)) := (by rw [List.length_append, List.map_append]; exact hown4); have hsl := Ye hown4; obtain ⟨a4, c4, hv4⟩ := hsl; subst hv4; clear hgrow4 hown4 hR3 hnew gw3 hs3);go_roundw
     case rel => exact ⟨k + 1, by omega, by go_num, by rw [HK2.out]; exact hR6, g6, hs6⟩
     case measure => simp [intOf]; omega
    ·have dE : (G.e == 0) = false := by simp [he]
     have HK2 : Hid (Xo s.recs fr (k + 1) = xs) := by show _ = _; rw [HK.out, if_neg (fun h => he h.2)]
     clear HK he;go_wp2_with fail;go_roundw
     case rel => exact ⟨k + 1, by omega, by go_num, by rw [HK2.out]; exact hR3, gw3, hs3⟩
     case measure => simp [intOf]; omega
   ·have HK2 : Hid (Xo s.recs fr (k + 1) = xs) := by show _ = _; rw [HK.out, if_neg (fun h => hf h.1)]
    have df : ¬ (x.rc.key ≥ fr) := hf;clear HK;go_wp2_with fail;go_roundw
    case rel => exact ⟨k + 1, by omega, by go_num, by rw [HK2.out]; exact hR3, gw3, hs3⟩
    case measure => simp [intOf]; omega
  ·have HKL : Hid (Xo s.recs fr k = Xo s.recs fr s.recs.length) := by show _ = _; rw [HLN.out, show k = s.idx.length by omega]
   rw [HKL.out] at hR;have hup := Zqg hri fr s.recs.length;have hxl : (Xo s.recs fr s.recs.length).length ≤ 6 := Nat.le_trans (Zfy _ _ _) (by rw [HLN.out]; exact h6);have HLT : Hid (∀ ds : List Int, ds.Pairwise (· < ·) → (∀ x, x ∈ ds ↔ x ∈ Xo s.recs fr s.recs.length) → ds.take (Zcc most ds.length) = L) := fun ds h1 h2 => by rw [HL.out]; exact Zqb HBD.out h1 h2
   generalize Xo s.recs fr s.recs.length = xs at *;clear HL;obtain ⟨a0, c0, rfl⟩ := Ye hR;clear hx hi HKL;go_wp2_with fail;refine (Zo6 xs a0 c0 wr hxl hup (Zs4 hR)).mono ?_;rintro r w1 ⟨rfl, g1⟩;have hR1 := Z5 hR g1;have gw1 := hg.trans g1;clear hR hg g1;go_wp2_with fail;refine (Zle (w.heap.size + 1) w xs a0 c0 w1 (by omega) hup (by omega) gw1 hR1).mono ?_;rintro r w2 ⟨v2, ds, rfl, hR2, hu2, hm2, gE⟩;obtain ⟨a2, c2, rfl⟩ := Ye hR2;have HE : Hid _ := HLT.out ds hu2 hm2;have hcap : ds.length ≤ c2 := by
    rcases hR2.2 with ⟨e, h0⟩ | ⟨q, cap', cur, e, hb, hh, hnc, hcm, _⟩
    ·injection e with _ e1 e2; omega
    ·injection e with _ _ e2; omega
   have HR3 : Hid (∀ m, m ≤ ds.length → w2.ownsRow w.heap.size 3 1 (.slice a2 m c2) m ((ds.map (Value.int .i64)).take m)) := fun m hm => Yi (Zs3 hR2 hm) (Nat.le_succ w.heap.size)
   clear hR1 gw1 hR2 hu2 hm2 HLT hup hxl;have HMO : Hid (Zcc most ds.length = min most.toNat ds.length) := rfl;have hml : Zcc most ds.length ≤ ds.length := by unfold Zcc; omega
   generalize Zcc most ds.length = M at *;have HF : Hid (∀ m, m = M → w2.ownsRow w.heap.size 3 1 (.slice a2 m c2) L.length (L.map (Value.int .i64))) := by
    rintro m rfl;rw [← HE.out, List.length_take, Nat.min_eq_left hml, List.map_take];exact HR3.out _ hml
   clear HR3 HE hml;by_cases h0 : most ≤ 0
   ·go_wp2_with fail;all_goals
     go_ret;exact ⟨_, rfl, HF.out _ (by have := HMO.out; omega), gE⟩
   ·by_cases h1 : most ≤ (ds.length : Int)
    ·obtain ⟨t, rfl⟩ : ∃ t : Nat, most = (t : Int) := ⟨most.toNat, by omega⟩;go_wp2_with fail;all_goals
      go_ret;exact ⟨_, rfl, HF.out _ (by have := HMO.out; omega), gE⟩
    ·go_wp2_with fail;all_goals
      go_ret;exact ⟨_, rfl, HF.out _ (by have := HMO.out; omega), gE⟩
end Go.Proofs.YtgaecpdokgklpadGreatDoor
