import Derived.Test.YtpdnapbchcdhlacGreatInv
import Derived.Maps.OwnSet
import Derived.Test.YtpdnapbchcdhlacGreatPEach
set_option maxHeartbeats 8000000
namespace Go.Proofs.YtpdnapbchcdhlacGreat
set_option maxRecDepth 100000
open Plain
variable {d : Dk}
theorem Zrd (h : d.Fine 0) : d.flush = d := by
 have hl := Ka h;obtain ⟨b, l⟩ := d;simp only at hl;subst hl;rfl
theorem Zd1 {r : Rec} (h : Yd r = 0) (hk : r.kind = 1) : r = Rec.free := by
 obtain ⟨-, -, h3, h4⟩ := (Zcy r).1 h;obtain ⟨k, y, n, l⟩ := r;simp only at hk;subst hk;unfold Xi at h3;unfold Xg at h4;simp at h3 h4;obtain ⟨rfl, rfl⟩ := h3;subst h4;rfl
structure Zyn (d e : Dk) (p : Nat) : Prop where
 fine : e.Fine 0
 low : e.how (p : Int) < 2
 tell : ∀ q : Nat, q < 6 → e.tell (q : Int) = d.tell (q : Int)
 other : ∀ q : Nat, q < 6 → q ≠ p → e.how (q : Int) = d.how (q : Int)
 same : d.how (p : Int) < 2 → e = d
theorem Znu (h : d.Fine 0) {p : Nat} (hp : p < 6) : Zyn d (d.mendD (p : Int)).flush p := by
 have hfi := (h.mend (p : Int)).flush;revert hfi;unfold Dk.mendD;by_cases h2 : 2 ≤ d.how (p : Int)
 ·rw [if_pos h2];have hw := Xu d (p : Int);rw [Jd h hp hw];intro hfi;have hn := Xd hfi.len hp;obtain ⟨⟨a0, -⟩, b0, -⟩ := Ko h hp hw true true;have key : (d.half p (d.tell (p : Int)) true true).how (p : Int) < 2 ∧ (d.half p (d.tell (p : Int)) true true).tell (p : Int) = d.tell (p : Int) := by
   by_cases hk : (d.tell (p : Int)).kind = 1
   ·obtain ⟨k1, k2⟩ := Zg1 hn (by rw [(a0 rfl).1]; exact hk) (by rw [(b0 rfl).1]; exact hk) (a0 rfl).2 (b0 rfl).2;exact ⟨by omega, by rw [k2, Zd1 hw hk]⟩
   ·obtain ⟨k1, k2⟩ := Vs hn (a0 rfl).1 (b0 rfl).1 hk;exact ⟨by omega, k2⟩
  refine ⟨hfi, key.1, fun q hq => ?_, fun q hq hne => (Qy h hp hq hne hw true true).1, fun h3 => by omega⟩;by_cases e : q = p
  ·subst e; exact key.2
  ·exact (Qy h hp hq e hw true true).2
 ·rw [if_neg h2, Zrd h];exact fun _ => ⟨h, by omega, fun _ _ => rfl, fun _ _ _ => rfl, fun _ => rfl⟩
variable {d : Dk}
structure Zza (d e : Dk) (p : Nat) (r : Rec) : Prop where
 fine : e.Fine 0
 low : e.how (p : Int) < 2
 tell : e.tell (p : Int) = r
 other : ∀ q : Nat, q < 6 → q ≠ p → e.how (q : Int) = d.how (q : Int) ∧ e.tell (q : Int) = d.tell (q : Int)
 side : ∀ a : Nat, a < 12 → Yp e (a : Int) = if a / 2 = p then blk r (a : Int) else Yp d (a : Int)
theorem Zx2 (h : d.Fine 0) {p : Nat} (hp : p < 6) {r : Rec} (hw : Yd r = 0) : Zza d (d.pairD (p : Int) r).flush p r := by
 rw [Jd h hp hw];have hfi := Q2 h hp hw true true;have hn := Xd hfi.len hp;obtain ⟨⟨a0, -⟩, b0, -⟩ := Ko h hp hw true true;have key : (d.half p r true true).how (p : Int) < 2 ∧ (d.half p r true true).tell (p : Int) = r := by
  by_cases hk : r.kind = 1
  ·obtain ⟨k1, k2⟩ := Zg1 hn (by rw [(a0 rfl).1]; exact hk) (by rw [(b0 rfl).1]; exact hk) (a0 rfl).2 (b0 rfl).2;exact ⟨by omega, by rw [k2, Zd1 hw hk]⟩
  ·obtain ⟨k1, k2⟩ := Vs hn (a0 rfl).1 (b0 rfl).1 hk;exact ⟨by omega, k2⟩
 refine ⟨hfi, key.1, key.2, fun q hq hne => Qy h hp hq hne hw true true, fun a ha => ?_⟩;have hs := Zau h hp hw true true a ha;rw [hs];by_cases e1 : a = 2 * p + 1
 ·subst e1;rw [if_pos ⟨rfl, rfl⟩, if_pos (by omega)]
  congr 1
 ·rw [if_neg (fun h => e1 h.1)];by_cases e0 : a = 2 * p
  ·subst e0;rw [if_pos ⟨rfl, rfl⟩, if_pos (by omega)]
   congr 1
  ·rw [if_neg (fun h => e0 h.1), if_neg (by omega)]
def Ze8 (D : Dk) (tw : List Int) (p : Nat) : Rec := if tw.contains (p : Int) = true then Rec.free else D.tell (p : Int)
theorem Zn0 (D : Dk) (tw : List Int) (p : Nat) : Yd (Ze8 D tw p) = 0 := by
 unfold Ze8;split
 ·exact Q5
 ·exact Xu D _
structure Zuw (D : Dk) (tw : List Int) (n : Nat) (e : Dk) : Prop where
 fine : e.Fine 0
 low : ∀ q : Nat, q < n → q < 6 → e.how (q : Int) < 2
 tell : ∀ q : Nat, q < 6 → e.tell (q : Int) = if q < n then Ze8 D tw q else D.tell (q : Int)
 side : ∀ a : Nat, a < 12 → Yp e (a : Int) = if a / 2 < n then blk (Ze8 D tw (a / 2)) (a : Int) else Yp D (a : Int)
theorem Zox {D : Dk} (h : D.Fine 0) (tw : List Int) : ∀ n, n ≤ 6 → Zuw D tw n (Ve D tw n)
 | 0, _ => ⟨h, fun q hq => by omega, fun q hq => by rw [if_neg (by omega)]; rfl, fun a ha => by rw [if_neg (by omega)]; rfl⟩
 | n + 1, hn => by
  have ih := Zox h tw n (by omega);have hr : (if tw.contains (n : Int) = true then Rec.free else (Ve D tw n).tell (n : Int)) = Ze8 D tw n := by
   unfold Ze8;rw [ih.tell n (by omega), if_neg (Nat.lt_irrefl n)]
  have hP := Zx2 ih.fine (p := n) (by omega) (Zn0 D tw n);have he : Ve D tw (n + 1) = ((Ve D tw n).pairD (n : Int) (Ze8 D tw n)).flush := by
   show ((Ve D tw n).pairD (n : Int) (if tw.contains (n : Int) = true then Rec.free else (Ve D tw n).tell (n : Int))).flush = _;rw [hr]
  rw [he];refine ⟨hP.fine, fun q hq h6 => ?_, fun q hq => ?_, fun a ha => ?_⟩
  ·by_cases e : q = n
   ·subst e; exact hP.low
   ·rw [(hP.other q h6 e).1]; exact ih.low q (by omega) h6
  ·by_cases e : q = n
   ·subst e; rw [hP.tell, if_pos (by omega)]
   ·rw [(hP.other q hq e).2, ih.tell q hq];by_cases hl : q < n
    ·rw [if_pos hl, if_pos (by omega)]
    ·rw [if_neg hl, if_neg (by omega)]
  ·rw [hP.side a ha];by_cases e : a / 2 = n
   ·rw [if_pos e, if_pos (by omega), e]
   ·rw [if_neg e, ih.side a ha];by_cases hl : a / 2 < n
    ·rw [if_pos hl, if_pos (by omega)]
    ·rw [if_neg hl, if_neg (by omega)]
theorem Zum {n : Nat} (h : d.Fine n) : Zuw (d.keep 0) (Ym (d.keep 0) 6) 6 d.clean := Zox (h.kept 0) _ 6 (Nat.le_refl _)
end Go.Proofs.YtpdnapbchcdhlacGreat
namespace Go.Proofs.YtpdnapbchcdhlacGreat
set_option maxRecDepth 100000
open Go.RowKit
open Plain Reg
def Zvb : Prop := ∀ (d : Dk) (v : Value) (w : World), Q4 d v w → d.Fine 40 →
 Calls Tryz.prog 52 #[v] w fun r w' => ∃ v' vt, r = .returned (.tuple #[v', .agg (Vg (cnt (d.keep 0) 6)), vt]) ∧ Q4 d.clean v' w' ∧ Z9 Xs (fun _ => True) w' vt (Ym (d.keep 0) 6) ∧ Zp w w'
def K8 (d : Dk) : Nat → Int → Bool
 | 0, _ => false
 | q + 1, x => K8 d q x || decide ((d.tell (q : Int)).kind ≠ 1 ∧ (d.tell (q : Int)).ver = x)
theorem Zio (d : Dk) (p : Nat) : ∀ q, K8 d q (d.tell (p : Int)).ver = X6 d p q
 | 0 => rfl
 | q + 1 => by
  show (K8 d q _ || _) = (X6 d p q || _);rw [Zio d p q]
theorem Zuh (d : Dk) (p : Nat) (h : (d.tell (p : Int)).kind = 1) (x : Int) : K8 d p x = K8 d (p + 1) x := by
 show _ = (K8 d p x || _);rw [decide_eq_false (fun h2 => h2.1 h), Bool.or_false]
theorem Zwv (d : Dk) (p : Nat) (h : (d.tell (p : Int)).kind ≠ 1) (x : Int) : (decide (x = (d.tell (p : Int)).ver) || K8 d p x) = K8 d (p + 1) x := by
 show _ = (K8 d p x || _);rw [Bool.or_comm]
 congr 1
 by_cases e : x = (d.tell (p : Int)).ver
 ·rw [decide_eq_true e, decide_eq_true ⟨h, e.symm⟩]
 ·rw [decide_eq_false e, decide_eq_false (fun h2 => e h2.2.symm)]
theorem Zsc (d : Dk) (p : Int) : 0 ≤ (d.tell p).ver ∧ (d.tell p).ver ≤ 1000000 := by
 have h := ((Zcy _).1 (Xu d p)).2.2.1;revert h;unfold Xi;generalize d.tell p = r;intro h;by_cases hk : r.kind = 1
 ·simp [hk] at h; omega
 ·simp [hk] at h; omega
end Go.Proofs.YtpdnapbchcdhlacGreat
namespace Go.Proofs.YtpdnapbchcdhlacGreat
set_option maxRecDepth 100000
open Go.RowKit Go.Maps
open Plain Reg
variable {b n : Nat} {f : Int → Bool} {w w' : World}
theorem Zpw (w : World) : (zeroValue 177).run Tryz.prog w = .ok (.agg #[]) w := by kernel_rfl
def Jq (w : World) (b n : Nat) (f : Int → Bool) : Prop := ∃ D : DataW Unit, w.ownsMap Tryz.prog 3 unitElem b n D ∧ ∀ x : Int, (Lit.int .i64 x).wf = true → has D (.int .i64 x) = f x
theorem Jq.made (w : World) : Jq (w.alloc (.map #[] 0)) w.heap.size 0 (fun _ => false) := ⟨.map [], World.ownsMap_made _ _ _ _, fun _ _ => rfl⟩
theorem Jq.lt (h : Jq w b n f) : b < w.heap.size := by
 obtain ⟨D, h1, _⟩ := h; exact h1.lt
theorem Jq.same (h : Jq w b n f) (hb : w'.heap[b]? = w.heap[b]?) : Jq w' b n f := by
 obtain ⟨D, ⟨es, clock, h1, h2⟩, h3⟩ := h;exact ⟨D, ⟨es, clock, hb.trans h1, h2⟩, h3⟩
theorem Jq.grow (h : Jq w b n f) (hg : Zp w w') : Jq w' b n f := h.same (hg.block _ h.lt)
theorem Jq.ask (h : Jq w b n f) (x : Int) (hx : (Lit.int .i64 x).wf = true) : (Instr.lookup 176 (.map (some b)) (.int .i64 x) true).run Tryz.prog w = .ok (.tuple #[.agg #[], .bool (f x)]) w := by
 obtain ⟨D, h1, h2⟩ := h;obtain ⟨v, ps, hrun, hv⟩ := h1.look_ok (int_keyed Tryz.underlying3) Tryz.underlying176 (Zpw w) unitElem_mk (keyOf_int_mk Tryz.underlying3 hx);obtain ⟨rfl, -⟩ := unitElem_inv hv;rw [h2 x hx] at hrun;exact hrun
theorem Jq.put (h : Jq w b n f) (x : Int) (hx : (Lit.int .i64 x).wf = true) (hn : n < 1000000) :
  ∃ w', (Instr.mapUpdate 176 (.map (some b)) (.int .i64 x) (.agg #[])).run Tryz.prog w = .ok () w' ∧ Jq w' b (n + 1) (fun y => decide (y = x) || f y) ∧ Zq b w w' := by
 obtain ⟨D, h1, h2⟩ := h;obtain ⟨w', hrun, h3, h4⟩ := h1.update (int_keyed Tryz.underlying3) Tryz.underlying176 (by unfold maxLen; omega) (keyOf_int_mk Tryz.underlying3 hx) unitElem_mk;refine ⟨w', hrun, ⟨_, h3, fun y hy => ?_⟩, Zq.grown h4⟩;by_cases e : y = x
 ·subst e;rw [has_put_same (Zgf h1) (show WideAt.IsKeyLit (.int .i64 y) from trivial)];simp
 ·rw [has_put_other (by intro e2; injection e2 with _ e2; exact e e2), h2 y hy];simp [e]
theorem Jq.on {m : Nat} {g : Int → Bool} (h : Jq w b n f) (hf : ∀ x, f x = g x) (hn : n ≤ m) : Jq w b m g := by
 obtain ⟨D, h1, h2⟩ := h;exact ⟨D, h1.mono hn, fun x hx => by rw [h2 x hx, hf x]⟩
theorem Zn9 (args : Array Value) (w : World) : (callFunc 159 args).run Tryz.prog w = .ok (.enter 159 args) w := by
 simp [callFunc, Tryz.func159, Tryz.f159, mark]
theorem Znm (w : World) :
  Calls Tryz.prog 122 #[] w fun r w' => r = .returned (.func (.func 159) #[] #[.pointer (some ⟨w.heap.size + 1, 0, none⟩)]) ∧ w'.heap[w.heap.size + 1]? = some (.cells #[.map (some w.heap.size)] 176 (0, 0)) ∧ Jq w' w.heap.size 0 (fun _ => false) ∧ Zp w w' := by
 have hmm := @run_makeMap Tryz.prog;have gM := Zc w (.map #[] 0);have hM := Jq.made w;have hs : (w.alloc (.map #[] 0)).heap.size = w.heap.size + 1 := World.size_alloc _ _;have g2 := Zc (w.alloc (.map #[] 0)) (.cells #[.map (some w.heap.size)] 176);have hB := Zj (w.alloc (.map #[] 0)) #[.map (some w.heap.size)] 176;have hM2 := hM.grow g2;have gE := gM.trans g2;rw [hs] at hB;clear hM gM g2;go_enter Tryz.func122, Tryz.ntmps122;go_wp2_with fail;go_ret;exact ⟨rfl, hB, hM2, gE⟩
theorem Ztn (x : Int) (g b n : Nat) (f : Int → Bool) (w : World) (hg : w.heap[g]? = some (.cells #[.map (some b)] 176 (0, 0))) (hS : Jq w b n f) (hx : (Lit.int .i64 x).wf = true) (hn : n < 1000000) :
  Calls Tryz.prog 159 #[.int .i64 x, .pointer (some ⟨g, 0, none⟩)] w fun r w' => r = .returned (.bool (f x)) ∧ Jq w' b (n + 1) (fun y => decide (y = x) || f y) ∧ Zq b w w' := by
 have hask := hS.ask x hx;have g1 := Zc w (.cells #[] 177);obtain ⟨w2, hput, hS2, hb2⟩ := (hS.grow g1).put x hx hn;have hg1 := (g1.block _ (Za hg)).trans hg;have y0 := Zd hg 0 _ rfl;have y1 := Zd hg1 0 _ rfl;have hE := (Zq.of (g := b) g1).trans hb2;clear hg hg1 g1 hb2 hS;go_enter Tryz.func159, Tryz.ntmps159;go_wp2_with fail;go_ret;exact ⟨rfl, hS2, hE⟩
theorem Znh (n : Nat) (d : Dk) (v : Value) (w : World) (hd : Q4 d v w) (hF : d.Fine n) (hn : n ≤ 900) :
  Calls Tryz.prog 90 #[v] w fun r w' => ∃ v' css, r = .returned v' ∧ Yv Xs (fun _ => False) w.heap.size v' (Ym d 6) css w' ∧ Zp w w' := by
 obtain ⟨i0, hif, hz0, hz1, hz2⟩ := info_parts Zcj;obtain ⟨vb, vl, rfl, hb, hl⟩ := hd;obtain ⟨ab, cb, rfl⟩ := hb.form;obtain ⟨al, cl, rfl⟩ := hl.form;have g0 := Zc w (.cells #[.slice ab d.blocks.length cb, .slice al d.late.length cl] 26);have hd0 := Zj w #[.slice ab d.blocks.length cb, .slice al d.late.length cl] 26;have hs0 : (w.alloc (.cells #[.slice ab d.blocks.length cb, .slice al d.late.length cl] 26)).heap.size = w.heap.size + 1 := World.size_alloc _ _;have HF : Hid (d.Fine 900) := hF.mono hn;clear hF;go_enter Tryz.func90, Tryz.ntmps90;go_wp2_with fail;generalize World.alloc w _ = W at *;refine (Znm W).mono ?_;rw [hs0];rintro r w1 ⟨rfl, hg1, hS1, g1⟩;have gw1 := g0.trans g1;have hd1 := (g1.block _ (Za hd0)).trans hd0;clear g0 g1 hd0 hs0;have hK := Zn9;go_wp2_with fail;go_loopw [3, 9] (fun o i wr => ∃ (k : Nat) (css : List (List Value)), k ≤ 6 ∧ i = .int .i64 (k : Int) ∧ Yv Xs (fun _ => False) (w.heap.size + 3) o (Ym d k) css wr ∧ Zp w wr ∧ wr.heap[w.heap.size]? = some (.cells #[.slice ab d.blocks.length cb, .slice al d.late.length cl] 26 (0, 0)) ∧ wr.heap[w.heap.size + 1 + 1]? = some (.cells #[.map (some (w.heap.size + 1))] 176 (0, 0)) ∧ Jq wr (w.heap.size + 1) k (K8 d k)) (fun _ i _ => 6 - (intOf i).toNat)
 case atStart => exact ⟨0, [], by omega, rfl, Yv.nil _ _ _ _, gw1, hd1, hg1, hS1.on (fun _ => rfl) (Nat.le_refl _)⟩
 case round =>
  clear gw1 hd1 hg1 hS1;obtain ⟨k, css, hk, rfl, hR, gw, hd1, hg1, hS1⟩ := hrel;by_cases hlt : k < 6
  ·have HT : Hid (Ym d (k + 1) = if (d.tell (k : Int)).kind ≠ 1 ∧ X6 d k k = true then Ym d k ++ [(k : Int)] else Ym d k) := rfl;have HFR : Hid ((d.tell (k : Int)).kind = 1 → ∀ x, K8 d k x = K8 d (k + 1) x) := fun h => Zuh d k h
   have HNW : Hid ((d.tell (k : Int)).kind ≠ 1 → ∀ x, (decide (x = (d.tell (k : Int)).ver) || K8 d k x) = K8 d (k + 1) x) := fun h => Zwv d k h
   have HAG : Hid (K8 d k (d.tell (k : Int)).ver = X6 d k k) := Zio d k k;have HVR : Hid _ := Zsc d (k : Int);have hll := Kv d k;generalize Ym d k = xs at *;obtain ⟨a0, c0, rfl⟩ := hR.form;obtain ⟨y0, y1⟩ := Xb hd1 rfl rfl;go_wp2_with fail;refine (Zy0 d (k : Int) _ wr HF.out ⟨_, _, rfl, hb.grow gw, hl.grow gw⟩).mono ?_;rintro r w1 ⟨dv, rfl, ho, g1⟩;obtain ⟨a9, c9, rfl⟩ := Z6 ho;generalize hTL : d.tell (k : Int) = tl at *;clear hTL;generalize X6 d k k = AG at *;have g2 := Zc w1 (.cells #[.int .i64 tl.kind, .int .i64 tl.key, .int .i64 tl.ver, .slice a9 tl.data.length c9] 61);have hX2 := Zj w1 #[.int .i64 tl.kind, .int .i64 tl.key, .int .i64 tl.ver, .slice a9 tl.data.length c9] 61;have hR2 := (hR.grow g1).grow g2;have gg := g1.trans g2;have gw2 := gw.trans gg;have hd2 := (gg.block _ (Za hd1)).trans hd1;have hg2 := (gg.block _ (Za hg1)).trans hg1;have hS2 := hS1.grow gg;clear y0 y1 hR gw hd1 hg1 hS1 g1 g2 gg ho;have x0 := Zd hX2 0 _ rfl;have x2 := Zd hX2 2 _ rfl;clear hX2;by_cases h1 : tl.kind = 1
   ·have d1 : (tl.kind != 1) = false := by simp [h1]
    have HT2 : Hid (Ym d (k + 1) = xs) := by show _ = _; rw [HT.out, if_neg (fun h => h.1 h1)]
    have hS4 := hS2.on (HFR.out h1) (Nat.le_succ k);have hR4 := hR2;have gw4 := gw2;have hd4 := hd2;have hg4 := hg2;clear HT HFR HNW HAG HVR h1 hS2 hR2 gw2 hd2 hg2;go_wp2_with fail;go_roundw
    case rel => exact ⟨k + 1, css, by omega, by go_num, by rw [HT2.out]; exact hR4, gw4, hd4, hg4, hS4⟩
    case measure => simp [intOf]; omega
   ·have d1 : (tl.kind != 1) = true := by simp [h1]
    go_wp2_with fail;obtain ⟨W2, hW2⟩ : ∃ W2, W2 = w1.alloc (.cells #[.int .i64 tl.kind, .int .i64 tl.key, .int .i64 tl.ver, .slice a9 tl.data.length c9] 61) := ⟨_, rfl⟩;rw [← hW2] at hR2 gw2 hd2 hg2 hS2 x0 x2 ⊢;clear hW2;refine (Ztn tl.ver _ (w.heap.size + 1) k (K8 d k) W2 hg2 hS2 (Zfo HVR.out.1 HVR.out.2) (by omega)).mono ?_;rw [HAG.out];rintro r w3 ⟨rfl, hS3, hb3⟩;have hS4 := hS3.on (HNW.out h1) (Nat.le_refl _);have hR4 := hR2.other hb3 (by omega) (fun h => h);have gw4 := hb3.grow gw2 (by omega);have hd4 := (hb3.block _ (Za hd2) (by omega)).trans hd2;have hg4 := (hb3.block _ (Za hg2) (by omega)).trans hg2;clear HFR HNW HAG HVR hS2 hS3 hR2 gw2 hd2 hg2 hb3 x0 x2;cases AG with
    | false =>
     have HT2 : Hid (Ym d (k + 1) = xs) := by show _ = _; rw [HT.out, if_neg (fun h => by cases h.2)]
     clear HT h1;go_wp2_with fail;go_roundw
     case rel => exact ⟨k + 1, css, by omega, by go_num, by rw [HT2.out]; exact hR4, gw4, hd4, hg4, hS4⟩
     case measure => simp [intOf]; omega
    | true =>
     have HT2 : Hid (Ym d (k + 1) = xs ++ [(k : Int)]) := by show _ = _; rw [HT.out, if_pos ⟨h1, rfl⟩]
     have HSZ : Hid (w.heap.size + 3 ≤ w3.heap.size) := Za hg4;have hnew : ∀ (t : Nat) u, ([.int .i64 (k : Int)] : List Value)[t]? = some u → (w3.alloc (.cells #[.int .i64 (k : Int)] 3)).cell? ((⟨w3.heap.size, 0, none⟩ : Addr).add t) = some u := by
      intro t u ht
      match t, ht with
      | 0, ht => simp at ht; subst ht; simp [Addr.add]
      | t + 1, ht => simp at ht
     clear HT h1;go_wp2_with (at_builtin; refine wpList_append_own _ rfl (.tmp 27) (.tmp 29) 31 rfl (w.heap.size + 3) 3 i0 (.int .i64 0) 1 8 Tryz.underlying31 hif hz0 hz1 hz2 rfl (by decide) (.slice a0 xs.length c0) _ _ rfl (hR4.row.alloc _) ⟨w3.heap.size, 0, none⟩ 1 1 [.int .i64 (k : Int)] rfl rfl hnew (by intro u hu; simp at hu; subst hu; rfl) (by unfold maxLen; omega) (by omega) (by have := HSZ.out; simp; omega) ?_; intro v5 w5 hown5 hgrow5 _; have hR6 := hR4.step (x := (k : Int)) (by decide) (fun b h => h.elim) rfl hgrow5 hown5; have g6 : Zp w w5 := Yc (gw4.trans (Zc _ _)) hgrow5 (fun k hk => by have := (hR4.row.lt k hk).1; omega); have hd6 := (X3 hR4.row hgrow5 (V5 hR4.row (by omega)) (Za hd4)).trans hd4; have hg6 := (X3 hR4.row hgrow5 (V5 hR4.row (by omega)) (Za hg4)).trans hg4; have hS6 := hS4.same (X3 hR4.row hgrow5 (V5 hR4.row (by omega)) hS4.lt); have hsl := Z6 hown5; obtain ⟨a4, c4, hv4⟩ := hsl; subst hv4; clear hgrow5 hown5 hR4 hnew gw4 hd4 hg4 hS4);go_roundw
     case rel => exact ⟨k + 1, _, by omega, by go_num, by rw [HT2.out]; exact hR6, g6, hd6, hg6, hS6⟩
     case measure => simp [intOf]; omega
  ·have hRE : ∃ css, Yv Xs (fun _ => False) w.heap.size _ (Ym d 6) css wr := ⟨css, by
    have e : k = 6 := by omega
    subst e;exact ⟨hR.len, fun i hi => (hR.each i hi).imp fun _ x => ⟨x.1, x.2⟩, Yi hR.row (by omega)⟩⟩
   obtain ⟨css2, hE⟩ := hRE;clear hR hS1 hg1;obtain ⟨a4, c4, rfl⟩ := hE.form;go_wp2_with fail;go_ret;exact ⟨_, _, rfl, hE, gw⟩
end Go.Proofs.YtpdnapbchcdhlacGreat
namespace Go.Proofs.YtpdnapbchcdhlacGreat
set_option maxRecDepth 100000
open Plain
variable {K d e : Dk} {n : Nat}
def X7 (d : Dk) : Nat → Dk
 | 0 => d
 | k + 1 => (X7 d k).mendD (k : Int)
def Vi (d : Dk) (l : List Int) : Nat → Dk
 | 0 => d
 | j + 1 => (Vi d l j).pairD (l.getD j 0) Rec.free
theorem J2 (h : d.Fine n) : ∀ k, (X7 d k).Fine (n + 2 * k)
 | 0 => h
 | k + 1 => by
  have := (J2 h k).mend (k : Int);exact this.mono (by omega)
theorem K3 (h : d.Fine n) (l : List Int) : ∀ j, (Vi d l j).Fine (n + 2 * j)
 | 0 => h
 | j + 1 => by
  have := (K3 h l j).pair (l.getD j 0) Rec.free;exact this.mono (by omega)
theorem Zge (h : d.Fine n) {p : Nat} (hp : p < 6) {r : Rec} (hw : Yd r = 0) {a : Nat} (_ha : a < 12) : Yp (d.pairD (p : Int) r) (a : Int) = if a / 2 = p then blk r (a : Int) else Yp d (a : Int) := by
 have h12 := h.len;have hd : d.pairD (p : Int) r = d.pairW (p : Int) r := by
  unfold Dk.pairD;rw [Zdj (by omega) (by omega), if_pos hw]
 rw [hd];obtain ⟨g0, g1⟩ := Zif (d := d) (p := (p : Int)) (r := r) (by omega) (by omega);have e : d.pairW (p : Int) r = (d.put (2 * (p : Int)) (blk r (2 * (p : Int)))).put (2 * (p : Int) + 1) (blk r (2 * (p : Int) + 1)) := by simp [Dk.pairW, Dk.put]
 by_cases hc : a / 2 = p
 ·rw [if_pos hc];unfold Yp;by_cases he : a = 2 * p
  ·have ea : (a : Int) = 2 * (p : Int) := by omega
   rw [ea, g0]; rfl
  ·have ea : (a : Int) = 2 * (p : Int) + 1 := by omega
   rw [ea, g1]; rfl
 ·rw [if_neg hc];unfold Yp;rw [e, Dk.put_other _ _ _ _ (by omega), Dk.put_other _ _ _ _ (by omega)]
theorem Zmz {m : Nat} (h : d.Fine n) (h' : e.Fine m) {q : Nat} (hq : q < 6) (hs : ∀ a : Nat, a < 12 → a / 2 = q → Yp e (a : Int) = Yp d (a : Int)) : e.how (q : Int) = d.how (q : Int) ∧ e.tell (q : Int) = d.tell (q : Int) := by
 have e0 : ((2 * q : Nat) : Int) = 2 * (q : Int) := by omega
 have e1 : ((2 * q + 1 : Nat) : Int) = 2 * (q : Int) + 1 := by omega
 have s0 := hs (2 * q) (by omega) (by omega);have s1 := hs (2 * q + 1) (by omega) (by omega);rw [e0] at s0;rw [e1] at s1;exact Zci (by rw [h.len, h'.len]) s0 s1
theorem Zfy {a : Int} (h : Qd d a = 0) : Yp d a = blk (Z7 d a) a := by
 have hr : Z7 d a = Y6 (Yp d a) a := by unfold Z7; rw [if_pos h]
 rw [hr, (Zhh _ _ h).2]
theorem Zq2 {p : Int} (hn : d.noPair p = false) (hl : d.how p < 2) : Yp d (2 * p) = blk (d.tell p) (2 * p) ∧ Yp d (2 * p + 1) = blk (d.tell p) (2 * p + 1) := by
 have e0 := Zbs d (2 * p);have e1 := Zbs d (2 * p + 1);have b0 := V1 d (2 * p);have b1 := V1 d (2 * p + 1);have bad : ∀ a, Y8 d a = 0 → Qd d a = 0 := fun a h => by
  unfold Y8 at h;by_cases hz : Qd d a = 0
  ·exact hz
  ·rw [if_neg hz] at h; omega
 have told : ∀ a, (Z7 d a).kind ≠ 1 → Qd d a = 0 := fun a h => by
  by_cases hz : Qd d a = 0
  ·exact hz
  ·exact absurd (by unfold Z7; rw [if_neg hz]; rfl) h
 unfold Dk.how at hl;unfold Dk.tell;rw [hn] at hl ⊢;simp only [Bool.false_eq_true, if_false] at hl ⊢;by_cases hs : Yt d (2 * p) + Yt d (2 * p + 1) = 2
 ·rw [if_pos hs] at hl;have k0 : (Z7 d (2 * p)).kind ≠ 1 := fun h => by have := Qe h; omega
  have k1 : (Z7 d (2 * p + 1)).kind ≠ 1 := fun h => by have := Qe h; omega
  have hz : ¬ (Yt d (2 * p) + Yt d (2 * p + 1) = 0) := by omega
  rw [if_neg hz];by_cases hsm : Qw (Z7 d (2 * p)) (Z7 d (2 * p + 1)) = true
  ·have hss := (V6 _ _).1 hsm;unfold K7;rw [if_neg k0];refine ⟨Zfy (told _ k0), ?_⟩;rw [hss]; exact Zfy (told _ k1)
  ·rw [if_neg hsm] at hl; omega
 ·rw [if_neg hs] at hl;by_cases hs1 : Yt d (2 * p) + Yt d (2 * p + 1) = 1
  ·rw [if_pos hs1] at hl; omega
  ·rw [if_neg hs1] at hl;have hz : Yt d (2 * p) + Yt d (2 * p + 1) = 0 := by omega
   rw [if_pos hz];by_cases hb0 : Y8 d (2 * p) + Y8 d (2 * p + 1) = 0
   ·have key : ∀ a, Yt d a = 0 → Y8 d a = 0 → Yp d a = blk Rec.free a := fun a h1 h2 => by
     have hf : Z7 d a = Rec.free := by
      refine Zd1 (Zc0 d a) ?_;by_cases hk : (Z7 d a).kind = 1
      ·exact hk
      ·rw [Kk hk] at h1; omega
     rw [← hf]; exact Zfy (bad _ h2)
    exact ⟨key _ (by omega) (by omega), key _ (by omega) (by omega)⟩
   ·rw [if_neg hb0] at hl; split at hl <;> omega
theorem Znw (h : d.Fine n) {p : Nat} (hp : p < 6) {a : Nat} (ha : a < 12) : Yp (d.mendD (p : Int)) (a : Int) = if a / 2 = p then blk (d.tell (p : Int)) (a : Int) else Yp d (a : Int) := by
 unfold Dk.mendD;by_cases h2 : 2 ≤ d.how (p : Int)
 ·rw [if_pos h2];exact Zge h hp (Xu d _) ha
 ·rw [if_neg h2];obtain ⟨s0, s1⟩ := Zq2 (Xd h.len hp) (show d.how (p : Int) < 2 by omega);by_cases hc : a / 2 = p
  ·rw [if_pos hc];by_cases he : a = 2 * p
   ·have ea : (a : Int) = 2 * (p : Int) := by omega
    rw [ea, s0]
   ·have ea : (a : Int) = 2 * (p : Int) + 1 := by omega
    rw [ea, s1]
  ·rw [if_neg hc]
structure Zyo (K : Dk) (k : Nat) (e : Dk) : Prop where
 fine : e.Fine 12
 how : ∀ q : Nat, q < 6 → k ≤ q → e.how (q : Int) = K.how (q : Int)
 tell : ∀ q : Nat, q < 6 → e.tell (q : Int) = K.tell (q : Int)
 side : ∀ a : Nat, a < 12 → Yp e (a : Int) = if a / 2 < k then blk (K.tell ((a / 2 : Nat) : Int)) (a : Int) else Yp K (a : Int)
theorem Zjl (h : K.Fine 0) : ∀ k, k ≤ 6 → Zyo K k (X7 K k)
 | 0, _ => ⟨h.mono (by omega), fun _ _ _ => rfl, fun _ _ => rfl, fun a _ => by rw [if_neg (by omega)]; rfl⟩
 | k + 1, hk => by
  have ih := Zjl h k (by omega);have hf := J2 h (k + 1);have hs : ∀ a : Nat, a < 12 → Yp (X7 K (k + 1)) (a : Int) = if a / 2 = k then blk ((X7 K k).tell (k : Int)) (a : Int) else Yp (X7 K k) (a : Int) := fun a ha => Znw ih.fine (by omega) ha
  have hl : ∀ q : Nat, q < 6 → q ≠ k → (X7 K (k + 1)).how (q : Int) = (X7 K k).how (q : Int) ∧ (X7 K (k + 1)).tell (q : Int) = (X7 K k).tell (q : Int) := fun q hq hne => Zmz ih.fine hf hq fun a ha he => by rw [hs a ha, if_neg (by omega)]
  refine ⟨hf.mono (by omega), fun q hq hle => ?_, fun q hq => ?_, fun a ha => ?_⟩
  ·rw [(hl q hq (by omega)).1]; exact ih.how q hq (by omega)
  ·by_cases e : q = k
   ·subst e;have := (Znv (X7 K q) (q : Int) (by omega) (by rw [ih.fine.len]; omega) (by rw [ih.fine.len]; omega)).2.1;exact this.trans (ih.tell q hq)
   ·rw [(hl q hq e).2]; exact ih.tell q hq
  ·rw [hs a ha];by_cases e : a / 2 = k
   ·rw [if_pos e, if_pos (by omega), ih.tell k (by omega), e]
   ·rw [if_neg e, ih.side a ha];by_cases hlt : a / 2 < k
    ·rw [if_pos hlt, if_pos (by omega)]
    ·rw [if_neg hlt, if_neg (by omega)]
theorem Zof (h : K.Fine 0) (k : Nat) (hk : k < 6) (i : Int) : cnt K (k + 1) i = cnt K k i + (if (X7 K k).how (k : Int) = i then 1 else 0) := by
 rw [(Zjl h k (by omega)).how k hk (Nat.le_refl _)]; rfl
theorem Zdw (h : ∀ q : Nat, q < 6 → e.tell (q : Int) = d.tell (q : Int)) (p : Nat) (hp : p < 6) : ∀ n, n ≤ 6 → X6 e p n = X6 d p n
 | 0, _ => rfl
 | n + 1, hn => by
  unfold X6;rw [Zdw h p hp n (by omega), h n (by omega), h p hp]
theorem Zdb (h : ∀ q : Nat, q < 6 → e.tell (q : Int) = d.tell (q : Int)) : ∀ n, n ≤ 6 → Ym e n = Ym d n
 | 0, _ => rfl
 | n + 1, hn => by
  unfold Ym;rw [Zdb h n (by omega), Zdw h n (by omega) n (by omega), h n (by omega)]
theorem Ziq (h : d.Fine n) (l : List Int) (hl : ∀ x ∈ l, 0 ≤ x ∧ x < 6) : ∀ j, j ≤ l.length → ∀ a : Nat, a < 12 → Yp (Vi d l j) (a : Int) = if (l.take j).contains ((a / 2 : Nat) : Int) = true then blk Rec.free (a : Int) else Yp d (a : Int)
 | 0, _, a, _ => by simp [Vi]
 | j + 1, hj, a, ha => by
  have hm := hl l[j] (List.getElem_mem _);have hg : l.getD j 0 = ((l[j].toNat : Nat) : Int) := by rw [Qp _ _ _ (by omega)]; omega
  show Yp ((Vi d l j).pairD (l.getD j 0) Rec.free) (a : Int) = _;rw [hg, Zge (K3 h l j) (by omega) Q5 ha, Ziq h l hl j (by omega) a ha, Zcw l j (by omega)];by_cases e : a / 2 = l[j].toNat
  ·have e2 : (((a / 2 : Nat) : Int) == l[j]) = true := by simp; omega
   rw [if_pos e, e2, Bool.or_true, if_pos rfl]
  ·have e2 : (((a / 2 : Nat) : Int) == l[j]) = false := by simp; omega
   rw [if_neg e, e2, Bool.or_false]
theorem Zwy (h : d.Fine 0) (h' : e.Fine 0) (hs : ∀ a : Nat, a < 12 → Yp d (a : Int) = Yp e (a : Int)) : d = e := by
 have l1 := Ka h;have l2 := Ka h';have n1 := h.len;have n2 := h'.len;have hb : d.blocks = e.blocks := by
  apply List.ext_getElem (by omega);intro a ha hb;have s := hs a (by omega);rw [Ji h (by omega), Ji h' (by omega), Qp _ _ _ ha, Qp _ _ _ hb] at s;exact s
 obtain ⟨b1, w1⟩ := d;obtain ⟨b2, w2⟩ := e;simp only at l1 l2 hb;rw [l1, l2, hb]
theorem Zsb (d : Dk) : ∀ x ∈ Ym d 6, 0 ≤ x ∧ x < 6 := by
 have key : ∀ n, ∀ x ∈ Ym d n, 0 ≤ x ∧ x < (n : Int) := by
  intro n
  induction n with
  | zero => intro x hx; cases hx
  | succ n ih =>
   intro x hx;unfold Ym at hx;split at hx
   ·rcases List.mem_append.1 hx with h1 | h1
    ·have := ih x h1; omega
    ·rw [List.mem_singleton.1 h1]; omega
   ·have := ih x hx; omega
 exact key 6
theorem Zro (h : d.Fine n) : (Vi (X7 (d.keep 0) 6) (Ym (X7 (d.keep 0) 6) 6) (Ym (X7 (d.keep 0) 6) 6).length).flush = d.clean ∧ Ym (X7 (d.keep 0) 6) 6 = Ym (d.keep 0) 6 := by
 have hK := h.kept 0;have hM := Zjl hK 6 (Nat.le_refl _);have ht := Zdb hM.tell 6 (Nat.le_refl _);refine ⟨?_, ht⟩;rw [ht];have hC := Zum h;have hF := K3 hM.fine (Ym (d.keep 0) 6) (Ym (d.keep 0) 6).length;refine Zwy hF.flush hC.fine fun a ha => ?_;have hs : Yp (Vi (X7 (d.keep 0) 6) (Ym (d.keep 0) 6) (Ym (d.keep 0) 6).length).flush (a : Int) = Yp (Vi (X7 (d.keep 0) 6) (Ym (d.keep 0) 6) (Ym (d.keep 0) 6).length) (a : Int) := by
  unfold Yp;rw [Dk.flush_get _ fun x hx => (hF.place x hx).1]
 rw [hs, Ziq hM.fine _ (Zsb _) _ (Nat.le_refl _) a ha, List.take_length, hM.side a ha, hC.side a ha, if_pos (show a / 2 < 6 by omega), if_pos (show a / 2 < 6 by omega)];unfold Ze8;by_cases hc : (Ym (d.keep 0) 6).contains ((a / 2 : Nat) : Int) = true
 ·rw [if_pos hc, if_pos hc]
 ·rw [if_neg hc, if_neg hc]
end Go.Proofs.YtpdnapbchcdhlacGreat
