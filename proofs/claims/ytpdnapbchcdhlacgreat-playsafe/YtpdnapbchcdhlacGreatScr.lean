import Derived.Test.YtpdnapbchcdhlacGreatInv
import Derived.Maps.OwnSet
import Derived.Test.YtpdnapbchcdhlacGreatPEach
set_option maxHeartbeats 8000000
namespace Go.Proofs.YtpdnapbchcdhlacGreat
set_option maxRecDepth 100000
open Plain
variable {d : Dk}
theorem Zqv (h : d.Fine 0) : d.flush = d := by
 have hl := V8 h;obtain ⟨b, l⟩ := d;simp only at hl;subst hl;rfl
theorem Zdt {r : Rec} (h : Z9 r = 0) (hk : r.kind = 1) : r = Rec.free := by
 obtain ⟨-, -, h3, h4⟩ := (Zcs r).1 h;obtain ⟨k, y, n, l⟩ := r;simp only at hk;subst hk;unfold Xh at h3;unfold Xe at h4;simp at h3 h4;obtain ⟨rfl, rfl⟩ := h3;subst h4;rfl
structure Zx5 (d e : Dk) (p : Nat) : Prop where
 fine : e.Fine 0
 low : e.how (p : Int) < 2
 tell : ∀ q : Nat, q < 6 → e.tell (q : Int) = d.tell (q : Int)
 other : ∀ q : Nat, q < 6 → q ≠ p → e.how (q : Int) = d.how (q : Int)
 same : d.how (p : Int) < 2 → e = d
theorem Znc (h : d.Fine 0) {p : Nat} (hp : p < 6) : Zx5 d (d.mendD (p : Int)).flush p := by
 have hfi := (h.mend (p : Int)).flush;revert hfi;unfold Dk.mendD;by_cases h2 : 2 ≤ d.how (p : Int)
 ·rw [if_pos h2];have hw := Xt d (p : Int);rw [K9 h hp hw];intro hfi;have hn := Xb hfi.len hp;obtain ⟨⟨a0, -⟩, b0, -⟩ := Kl h hp hw true true;have key : (d.half p (d.tell (p : Int)) true true).how (p : Int) < 2 ∧ (d.half p (d.tell (p : Int)) true true).tell (p : Int) = d.tell (p : Int) := by
   by_cases hk : (d.tell (p : Int)).kind = 1
   ·obtain ⟨k1, k2⟩ := Zgm hn (by rw [(a0 rfl).1]; exact hk) (by rw [(b0 rfl).1]; exact hk) (a0 rfl).2 (b0 rfl).2;exact ⟨by omega, by rw [k2, Zdt hw hk]⟩
   ·obtain ⟨k1, k2⟩ := Vs hn (a0 rfl).1 (b0 rfl).1 hk;exact ⟨by omega, k2⟩
  refine ⟨hfi, key.1, fun q hq => ?_, fun q hq hne => (Qx h hp hq hne hw true true).1, fun h3 => by omega⟩;by_cases e : q = p
  ·subst e; exact key.2
  ·exact (Qx h hp hq e hw true true).2
 ·rw [if_neg h2, Zqv h];exact fun _ => ⟨h, by omega, fun _ _ => rfl, fun _ _ _ => rfl, fun _ => rfl⟩
variable {d : Dk}
structure Zyr (d e : Dk) (p : Nat) (r : Rec) : Prop where
 fine : e.Fine 0
 low : e.how (p : Int) < 2
 tell : e.tell (p : Int) = r
 other : ∀ q : Nat, q < 6 → q ≠ p → e.how (q : Int) = d.how (q : Int) ∧ e.tell (q : Int) = d.tell (q : Int)
 side : ∀ a : Nat, a < 12 → Yp e (a : Int) = if a / 2 = p then blk r (a : Int) else Yp d (a : Int)
theorem Zxl (h : d.Fine 0) {p : Nat} (hp : p < 6) {r : Rec} (hw : Z9 r = 0) : Zyr d (d.pairD (p : Int) r).flush p r := by
 rw [K9 h hp hw];have hfi := Q0 h hp hw true true;have hn := Xb hfi.len hp;obtain ⟨⟨a0, -⟩, b0, -⟩ := Kl h hp hw true true;have key : (d.half p r true true).how (p : Int) < 2 ∧ (d.half p r true true).tell (p : Int) = r := by
  by_cases hk : r.kind = 1
  ·obtain ⟨k1, k2⟩ := Zgm hn (by rw [(a0 rfl).1]; exact hk) (by rw [(b0 rfl).1]; exact hk) (a0 rfl).2 (b0 rfl).2;exact ⟨by omega, by rw [k2, Zdt hw hk]⟩
  ·obtain ⟨k1, k2⟩ := Vs hn (a0 rfl).1 (b0 rfl).1 hk;exact ⟨by omega, k2⟩
 refine ⟨hfi, key.1, key.2, fun q hq hne => Qx h hp hq hne hw true true, fun a ha => ?_⟩;have hs := Zap h hp hw true true a ha;rw [hs];by_cases e1 : a = 2 * p + 1
 ·subst e1;rw [if_pos ⟨rfl, rfl⟩, if_pos (by omega)]
  congr 1
 ·rw [if_neg (fun h => e1 h.1)];by_cases e0 : a = 2 * p
  ·subst e0;rw [if_pos ⟨rfl, rfl⟩, if_pos (by omega)]
   congr 1
  ·rw [if_neg (fun h => e0 h.1), if_neg (by omega)]
def Zew (D : Dk) (tw : List Int) (p : Nat) : Rec := if tw.contains (p : Int) = true then Rec.free else D.tell (p : Int)
theorem Zni (D : Dk) (tw : List Int) (p : Nat) : Z9 (Zew D tw p) = 0 := by
 unfold Zew;split
 ·exact Q3
 ·exact Xt D _
structure Zuc (D : Dk) (tw : List Int) (n : Nat) (e : Dk) : Prop where
 fine : e.Fine 0
 low : ∀ q : Nat, q < n → q < 6 → e.how (q : Int) < 2
 tell : ∀ q : Nat, q < 6 → e.tell (q : Int) = if q < n then Zew D tw q else D.tell (q : Int)
 side : ∀ a : Nat, a < 12 → Yp e (a : Int) = if a / 2 < n then blk (Zew D tw (a / 2)) (a : Int) else Yp D (a : Int)
theorem Zog {D : Dk} (h : D.Fine 0) (tw : List Int) : ∀ n, n ≤ 6 → Zuc D tw n (Vd D tw n)
 | 0, _ => ⟨h, fun q hq => by omega, fun q hq => by rw [if_neg (by omega)]; rfl, fun a ha => by rw [if_neg (by omega)]; rfl⟩
 | n + 1, hn => by
  have ih := Zog h tw n (by omega);have hr : (if tw.contains (n : Int) = true then Rec.free else (Vd D tw n).tell (n : Int)) = Zew D tw n := by
   unfold Zew;rw [ih.tell n (by omega), if_neg (Nat.lt_irrefl n)]
  have hP := Zxl ih.fine (p := n) (by omega) (Zni D tw n);have he : Vd D tw (n + 1) = ((Vd D tw n).pairD (n : Int) (Zew D tw n)).flush := by
   show ((Vd D tw n).pairD (n : Int) (if tw.contains (n : Int) = true then Rec.free else (Vd D tw n).tell (n : Int))).flush = _;rw [hr]
  rw [he];refine ⟨hP.fine, fun q hq h6 => ?_, fun q hq => ?_, fun a ha => ?_⟩
  ·by_cases e : q = n
   ·subst e; exact hP.low
   ·rw [(hP.other q h6 e).1]; exact ih.low q (by omega) h6
  ·by_cases e : q = n
   ·subst e; rw [hP.tell, if_pos (by omega)]
   ·rw [(hP.other q hq e).2, ih.tell q hq];by_cases hl : q < n
    ·rw [if_pos hl, if_pos (by omega)]
    ·rw [if_neg hl, if_neg (by omega)]
  ·rw [hP.side a ha];by_cases e : a / 2 = n
   ·rw [if_pos e, if_pos (by omega), e]
   ·rw [if_neg e, ih.side a ha];by_cases hl : a / 2 < n
    ·rw [if_pos hl, if_pos (by omega)]
    ·rw [if_neg hl, if_neg (by omega)]
theorem Zt3 {n : Nat} (h : d.Fine n) : Zuc (d.keep 0) (Yl (d.keep 0) 6) 6 d.clean := Zog (h.kept 0) _ 6 (Nat.le_refl _)
end Go.Proofs.YtpdnapbchcdhlacGreat
namespace Go.Proofs.YtpdnapbchcdhlacGreat
set_option maxRecDepth 100000
open Go.RowKit
open Plain Reg
def Zus : Prop := ∀ (d : Dk) (v : Value) (w : World), Vb d v w → d.Fine 40 →
 Calls Tryz.prog 52 #[v] w fun r w' => ∃ v' vt, r = .returned (.tuple #[v', .agg (Vh (cnt (d.keep 0) 6)), vt]) ∧ Vb d.clean v' w' ∧ Z7 Xr (fun _ => True) w' vt (Yl (d.keep 0) 6) ∧ Zn w w'
def K3 (d : Dk) : Nat → Int → Bool
 | 0, _ => false
 | q + 1, x => K3 d q x || decide ((d.tell (q : Int)).kind ≠ 1 ∧ (d.tell (q : Int)).ver = x)
theorem Zh7 (d : Dk) (p : Nat) : ∀ q, K3 d q (d.tell (p : Int)).ver = X4 d p q
 | 0 => rfl
 | q + 1 => by
  show (K3 d q _ || _) = (X4 d p q || _);rw [Zh7 d p q]
theorem Ztx (d : Dk) (p : Nat) (h : (d.tell (p : Int)).kind = 1) (x : Int) : K3 d p x = K3 d (p + 1) x := by
 show _ = (K3 d p x || _);rw [decide_eq_false (fun h2 => h2.1 h), Bool.or_false]
theorem Zv9 (d : Dk) (p : Nat) (h : (d.tell (p : Int)).kind ≠ 1) (x : Int) : (decide (x = (d.tell (p : Int)).ver) || K3 d p x) = K3 d (p + 1) x := by
 show _ = (K3 d p x || _);rw [Bool.or_comm]
 congr 1
 by_cases e : x = (d.tell (p : Int)).ver
 ·rw [decide_eq_true e, decide_eq_true ⟨h, e.symm⟩]
 ·rw [decide_eq_false e, decide_eq_false (fun h2 => e h2.2.symm)]
theorem Zrt (d : Dk) (p : Int) : 0 ≤ (d.tell p).ver ∧ (d.tell p).ver ≤ 1000000 := by
 have h := ((Zcs _).1 (Xt d p)).2.2.1;revert h;unfold Xh;generalize d.tell p = r;intro h;by_cases hk : r.kind = 1
 ·simp [hk] at h; omega
 ·simp [hk] at h; omega
end Go.Proofs.YtpdnapbchcdhlacGreat
namespace Go.Proofs.YtpdnapbchcdhlacGreat
set_option maxRecDepth 100000
open Go.RowKit Go.Maps
open Plain Reg
variable {b n : Nat} {f : Int → Bool} {w w' : World}
theorem Zpc (w : World) : (zeroValue 177).run Tryz.prog w = .ok (.agg #[]) w := by kernel_rfl
def Jl (w : World) (b n : Nat) (f : Int → Bool) : Prop := ∃ D : DataW Unit, w.ownsMap Tryz.prog 3 unitElem b n D ∧ ∀ x : Int, (Lit.int .i64 x).wf = true → has D (.int .i64 x) = f x
theorem Jl.made (w : World) : Jl (w.alloc (.map #[] 0)) w.heap.size 0 (fun _ => false) := ⟨.map [], World.ownsMap_made _ _ _ _, fun _ _ => rfl⟩
theorem Jl.lt (h : Jl w b n f) : b < w.heap.size := by
 obtain ⟨D, h1, _⟩ := h; exact h1.lt
theorem Jl.same (h : Jl w b n f) (hb : w'.heap[b]? = w.heap[b]?) : Jl w' b n f := by
 obtain ⟨D, ⟨es, clock, h1, h2⟩, h3⟩ := h;exact ⟨D, ⟨es, clock, hb.trans h1, h2⟩, h3⟩
theorem Jl.grow (h : Jl w b n f) (hg : Zn w w') : Jl w' b n f := h.same (hg.block _ h.lt)
theorem Jl.ask (h : Jl w b n f) (x : Int) (hx : (Lit.int .i64 x).wf = true) : (Instr.lookup 176 (.map (some b)) (.int .i64 x) true).run Tryz.prog w = .ok (.tuple #[.agg #[], .bool (f x)]) w := by
 obtain ⟨D, h1, h2⟩ := h;obtain ⟨v, ps, hrun, hv⟩ := h1.look_ok (int_keyed Tryz.underlying3) Tryz.underlying176 (Zpc w) unitElem_mk (keyOf_int_mk Tryz.underlying3 hx);obtain ⟨rfl, -⟩ := unitElem_inv hv;rw [h2 x hx] at hrun;exact hrun
theorem Jl.put (h : Jl w b n f) (x : Int) (hx : (Lit.int .i64 x).wf = true) (hn : n < 1000000) :
  ∃ w', (Instr.mapUpdate 176 (.map (some b)) (.int .i64 x) (.agg #[])).run Tryz.prog w = .ok () w' ∧ Jl w' b (n + 1) (fun y => decide (y = x) || f y) ∧ Zo b w w' := by
 obtain ⟨D, h1, h2⟩ := h;obtain ⟨w', hrun, h3, h4⟩ := h1.update (int_keyed Tryz.underlying3) Tryz.underlying176 (by unfold maxLen; omega) (keyOf_int_mk Tryz.underlying3 hx) unitElem_mk;refine ⟨w', hrun, ⟨_, h3, fun y hy => ?_⟩, Zo.grown h4⟩;by_cases e : y = x
 ·subst e;rw [has_put_same (Zf1 h1) (show WideAt.IsKeyLit (.int .i64 y) from trivial)];simp
 ·rw [has_put_other (by intro e2; injection e2 with _ e2; exact e e2), h2 y hy];simp [e]
theorem Jl.on {m : Nat} {g : Int → Bool} (h : Jl w b n f) (hf : ∀ x, f x = g x) (hn : n ≤ m) : Jl w b m g := by
 obtain ⟨D, h1, h2⟩ := h;exact ⟨D, h1.mono hn, fun x hx => by rw [h2 x hx, hf x]⟩
theorem Zns (args : Array Value) (w : World) : (callFunc 159 args).run Tryz.prog w = .ok (.enter 159 args) w := by
 simp [callFunc, Tryz.func159, Tryz.f159, mark]
theorem Zm5 (w : World) :
  Calls Tryz.prog 122 #[] w fun r w' => r = .returned (.func (.func 159) #[] #[.pointer (some ⟨w.heap.size + 1, 0, none⟩)]) ∧ w'.heap[w.heap.size + 1]? = some (.cells #[.map (some w.heap.size)] 176 (0, 0)) ∧ Jl w' w.heap.size 0 (fun _ => false) ∧ Zn w w' := by
 have hmm := @run_makeMap Tryz.prog;have gM := Zb w (.map #[] 0);have hM := Jl.made w;have hs : (w.alloc (.map #[] 0)).heap.size = w.heap.size + 1 := World.size_alloc _ _;have g2 := Zb (w.alloc (.map #[] 0)) (.cells #[.map (some w.heap.size)] 176);have hB := Zg (w.alloc (.map #[] 0)) #[.map (some w.heap.size)] 176;have hM2 := hM.grow g2;have gE := gM.trans g2;rw [hs] at hB;clear hM gM g2;go_enter Tryz.func122, Tryz.ntmps122;go_wp2_with fail;go_ret;exact ⟨rfl, hB, hM2, gE⟩
theorem Zs2 (x : Int) (g b n : Nat) (f : Int → Bool) (w : World) (hg : w.heap[g]? = some (.cells #[.map (some b)] 176 (0, 0))) (hS : Jl w b n f) (hx : (Lit.int .i64 x).wf = true) (hn : n < 1000000) :
  Calls Tryz.prog 159 #[.int .i64 x, .pointer (some ⟨g, 0, none⟩)] w fun r w' => r = .returned (.bool (f x)) ∧ Jl w' b (n + 1) (fun y => decide (y = x) || f y) ∧ Zo b w w' := by
 have hask := hS.ask x hx;have g1 := Zb w (.cells #[] 177);obtain ⟨w2, hput, hS2, hb2⟩ := (hS.grow g1).put x hx hn;have hg1 := (g1.block _ (Za hg)).trans hg;have y0 := Zc hg 0 _ rfl;have y1 := Zc hg1 0 _ rfl;have hE := (Zo.of (g := b) g1).trans hb2;clear hg hg1 g1 hb2 hS;go_enter Tryz.func159, Tryz.ntmps159;go_wp2_with fail;go_ret;exact ⟨rfl, hS2, hE⟩
theorem Zmz (n : Nat) (d : Dk) (v : Value) (w : World) (hd : Vb d v w) (hF : d.Fine n) (hn : n ≤ 900) :
  Calls Tryz.prog 90 #[v] w fun r w' => ∃ v' css, r = .returned v' ∧ Yv Xr (fun _ => False) w.heap.size v' (Yl d 6) css w' ∧ Zn w w' := by
 obtain ⟨i0, hif, hz0, hz1, hz2⟩ := info_parts Zee;obtain ⟨vb, vl, rfl, hb, hl⟩ := hd;obtain ⟨ab, cb, rfl⟩ := hb.form;obtain ⟨al, cl, rfl⟩ := hl.form;have g0 := Zb w (.cells #[.slice ab d.blocks.length cb, .slice al d.late.length cl] 26);have hd0 := Zg w #[.slice ab d.blocks.length cb, .slice al d.late.length cl] 26;have hs0 : (w.alloc (.cells #[.slice ab d.blocks.length cb, .slice al d.late.length cl] 26)).heap.size = w.heap.size + 1 := World.size_alloc _ _;have HF : Hid (d.Fine 900) := hF.mono hn;clear hF;go_enter Tryz.func90, Tryz.ntmps90;go_wp2_with fail;generalize World.alloc w _ = W at *;refine (Zm5 W).mono ?_;rw [hs0];rintro r w1 ⟨rfl, hg1, hS1, g1⟩;have gw1 := g0.trans g1;have hd1 := (g1.block _ (Za hd0)).trans hd0;clear g0 g1 hd0 hs0;have hK := Zns;go_wp2_with fail;go_loopw [3, 9] (fun o i wr => ∃ (k : Nat) (css : List (List Value)), k ≤ 6 ∧ i = .int .i64 (k : Int) ∧ Yv Xr (fun _ => False) (w.heap.size + 3) o (Yl d k) css wr ∧ Zn w wr ∧ wr.heap[w.heap.size]? = some (.cells #[.slice ab d.blocks.length cb, .slice al d.late.length cl] 26 (0, 0)) ∧ wr.heap[w.heap.size + 1 + 1]? = some (.cells #[.map (some (w.heap.size + 1))] 176 (0, 0)) ∧ Jl wr (w.heap.size + 1) k (K3 d k)) (fun _ i _ => 6 - (intOf i).toNat)
 case atStart => exact ⟨0, [], by omega, rfl, Yv.nil _ _ _ _, gw1, hd1, hg1, hS1.on (fun _ => rfl) (Nat.le_refl _)⟩
 case round =>
  clear gw1 hd1 hg1 hS1;obtain ⟨k, css, hk, rfl, hR, gw, hd1, hg1, hS1⟩ := hrel;by_cases hlt : k < 6
  ·have HT : Hid (Yl d (k + 1) = if (d.tell (k : Int)).kind ≠ 1 ∧ X4 d k k = true then Yl d k ++ [(k : Int)] else Yl d k) := rfl;have HFR : Hid ((d.tell (k : Int)).kind = 1 → ∀ x, K3 d k x = K3 d (k + 1) x) := fun h => Ztx d k h
   have HNW : Hid ((d.tell (k : Int)).kind ≠ 1 → ∀ x, (decide (x = (d.tell (k : Int)).ver) || K3 d k x) = K3 d (k + 1) x) := fun h => Zv9 d k h
   have HAG : Hid (K3 d k (d.tell (k : Int)).ver = X4 d k k) := Zh7 d k k;have HVR : Hid _ := Zrt d (k : Int);have hll := Kr d k;generalize Yl d k = xs at *;obtain ⟨a0, c0, rfl⟩ := hR.form;obtain ⟨y0, y1⟩ := Y9 hd1 rfl rfl;go_wp2_with fail;refine (Zyi d (k : Int) _ wr HF.out ⟨_, _, rfl, hb.grow gw, hl.grow gw⟩).mono ?_;rintro r w1 ⟨dv, rfl, ho, g1⟩;obtain ⟨a9, c9, rfl⟩ := Yc ho;generalize hTL : d.tell (k : Int) = tl at *;clear hTL;generalize X4 d k k = AG at *;have g2 := Zb w1 (.cells #[.int .i64 tl.kind, .int .i64 tl.key, .int .i64 tl.ver, .slice a9 tl.data.length c9] 61);have hX2 := Zg w1 #[.int .i64 tl.kind, .int .i64 tl.key, .int .i64 tl.ver, .slice a9 tl.data.length c9] 61;have hR2 := (hR.grow g1).grow g2;have gg := g1.trans g2;have gw2 := gw.trans gg;have hd2 := (gg.block _ (Za hd1)).trans hd1;have hg2 := (gg.block _ (Za hg1)).trans hg1;have hS2 := hS1.grow gg;clear y0 y1 hR gw hd1 hg1 hS1 g1 g2 gg ho;have x0 := Zc hX2 0 _ rfl;have x2 := Zc hX2 2 _ rfl;clear hX2;by_cases h1 : tl.kind = 1
   ·have d1 : (tl.kind != 1) = false := by simp [h1]
    have HT2 : Hid (Yl d (k + 1) = xs) := by show _ = _; rw [HT.out, if_neg (fun h => h.1 h1)]
    have hS4 := hS2.on (HFR.out h1) (Nat.le_succ k);have hR4 := hR2;have gw4 := gw2;have hd4 := hd2;have hg4 := hg2;clear HT HFR HNW HAG HVR h1 hS2 hR2 gw2 hd2 hg2;go_wp2_with fail;go_roundw
    case rel => exact ⟨k + 1, css, by omega, by go_num, by rw [HT2.out]; exact hR4, gw4, hd4, hg4, hS4⟩
    case measure => simp [intOf]; omega
   ·have d1 : (tl.kind != 1) = true := by simp [h1]
    go_wp2_with fail;obtain ⟨W2, hW2⟩ : ∃ W2, W2 = w1.alloc (.cells #[.int .i64 tl.kind, .int .i64 tl.key, .int .i64 tl.ver, .slice a9 tl.data.length c9] 61) := ⟨_, rfl⟩;rw [← hW2] at hR2 gw2 hd2 hg2 hS2 x0 x2 ⊢;clear hW2;refine (Zs2 tl.ver _ (w.heap.size + 1) k (K3 d k) W2 hg2 hS2 (Zfc HVR.out.1 HVR.out.2) (by omega)).mono ?_;rw [HAG.out];rintro r w3 ⟨rfl, hS3, hb3⟩;have hS4 := hS3.on (HNW.out h1) (Nat.le_refl _);have hR4 := hR2.other hb3 (by omega) (fun h => h);have gw4 := hb3.grow gw2 (by omega);have hd4 := (hb3.block _ (Za hd2) (by omega)).trans hd2;have hg4 := (hb3.block _ (Za hg2) (by omega)).trans hg2;clear HFR HNW HAG HVR hS2 hS3 hR2 gw2 hd2 hg2 hb3 x0 x2;cases AG with
    | false =>
     have HT2 : Hid (Yl d (k + 1) = xs) := by show _ = _; rw [HT.out, if_neg (fun h => by cases h.2)]
     clear HT h1;go_wp2_with fail;go_roundw
     case rel => exact ⟨k + 1, css, by omega, by go_num, by rw [HT2.out]; exact hR4, gw4, hd4, hg4, hS4⟩
     case measure => simp [intOf]; omega
    | true =>
     have HT2 : Hid (Yl d (k + 1) = xs ++ [(k : Int)]) := by show _ = _; rw [HT.out, if_pos ⟨h1, rfl⟩]
     have HSZ : Hid (w.heap.size + 3 ≤ w3.heap.size) := Za hg4;have hnew : ∀ (t : Nat) u, ([.int .i64 (k : Int)] : List Value)[t]? = some u → (w3.alloc (.cells #[.int .i64 (k : Int)] 3)).cell? ((⟨w3.heap.size, 0, none⟩ : Addr).add t) = some u := by
      intro t u ht
      match t, ht with
      | 0, ht => simp at ht; subst ht; simp [Addr.add]
      | t + 1, ht => simp at ht
     clear HT h1;go_wp2_with (at_builtin; refine wpList_append_own _ rfl (.tmp 27) (.tmp 29) 31 rfl (w.heap.size + 3) 3 i0 (.int .i64 0) 1 8 Tryz.underlying31 hif hz0 hz1 hz2 rfl (by decide) (.slice a0 xs.length c0) _ _ rfl (hR4.row.alloc _) ⟨w3.heap.size, 0, none⟩ 1 1 [.int .i64 (k : Int)] rfl rfl hnew (by intro u hu; simp at hu; subst hu; rfl) (by unfold maxLen; omega) (by omega) (by have := HSZ.out; simp; omega) ?_; intro v5 w5 hown5 hgrow5 _; have hR6 := hR4.step (x := (k : Int)) (by decide) (fun b h => h.elim) rfl hgrow5 hown5; have g6 : Zn w w5 := Ya (gw4.trans (Zb _ _)) hgrow5 (fun k hk => by have := (hR4.row.lt k hk).1; omega); have hd6 := (Qe hR4.row hgrow5 (Kh hR4.row (by omega)) (Za hd4)).trans hd4; have hg6 := (Qe hR4.row hgrow5 (Kh hR4.row (by omega)) (Za hg4)).trans hg4; have hS6 := hS4.same (Qe hR4.row hgrow5 (Kh hR4.row (by omega)) hS4.lt); have hsl := Yc hown5; obtain ⟨a4, c4, hv4⟩ := hsl; subst hv4; clear hgrow5 hown5 hR4 hnew gw4 hd4 hg4 hS4);go_roundw
     case rel => exact ⟨k + 1, _, by omega, by go_num, by rw [HT2.out]; exact hR6, g6, hd6, hg6, hS6⟩
     case measure => simp [intOf]; omega
  ·have hRE : ∃ css, Yv Xr (fun _ => False) w.heap.size _ (Yl d 6) css wr := ⟨css, by
    have e : k = 6 := by omega
    subst e;exact ⟨hR.len, fun i hi => (hR.each i hi).imp fun _ x => ⟨x.1, x.2⟩, Yk hR.row (by omega)⟩⟩
   obtain ⟨css2, hE⟩ := hRE;clear hR hS1 hg1;obtain ⟨a4, c4, rfl⟩ := hE.form;go_wp2_with fail;go_ret;exact ⟨_, _, rfl, hE, gw⟩
end Go.Proofs.YtpdnapbchcdhlacGreat
namespace Go.Proofs.YtpdnapbchcdhlacGreat
set_option maxRecDepth 100000
open Plain
variable {K d e : Dk} {n : Nat}
def X6 (d : Dk) : Nat → Dk
 | 0 => d
 | k + 1 => (X6 d k).mendD (k : Int)
def Vj (d : Dk) (l : List Int) : Nat → Dk
 | 0 => d
 | j + 1 => (Vj d l j).pairD (l.getD j 0) Rec.free
theorem Jy (h : d.Fine n) : ∀ k, (X6 d k).Fine (n + 2 * k)
 | 0 => h
 | k + 1 => by
  have := (Jy h k).mend (k : Int);exact this.mono (by omega)
theorem Ky (h : d.Fine n) (l : List Int) : ∀ j, (Vj d l j).Fine (n + 2 * j)
 | 0 => h
 | j + 1 => by
  have := (Ky h l j).pair (l.getD j 0) Rec.free;exact this.mono (by omega)
theorem Zf0 (h : d.Fine n) {p : Nat} (hp : p < 6) {r : Rec} (hw : Z9 r = 0) {a : Nat} (_ha : a < 12) : Yp (d.pairD (p : Int) r) (a : Int) = if a / 2 = p then blk r (a : Int) else Yp d (a : Int) := by
 have h12 := h.len;have hd : d.pairD (p : Int) r = d.pairW (p : Int) r := by
  unfold Dk.pairD;rw [Zdd (by omega) (by omega), if_pos hw]
 rw [hd];obtain ⟨g0, g1⟩ := Zh0 (d := d) (p := (p : Int)) (r := r) (by omega) (by omega);have e : d.pairW (p : Int) r = (d.put (2 * (p : Int)) (blk r (2 * (p : Int)))).put (2 * (p : Int) + 1) (blk r (2 * (p : Int) + 1)) := by simp [Dk.pairW, Dk.put]
 by_cases hc : a / 2 = p
 ·rw [if_pos hc];unfold Yp;by_cases he : a = 2 * p
  ·have ea : (a : Int) = 2 * (p : Int) := by omega
   rw [ea, g0]; rfl
  ·have ea : (a : Int) = 2 * (p : Int) + 1 := by omega
   rw [ea, g1]; rfl
 ·rw [if_neg hc];unfold Yp;rw [e, Dk.put_other _ _ _ _ (by omega), Dk.put_other _ _ _ _ (by omega)]
theorem Zmg {m : Nat} (h : d.Fine n) (h' : e.Fine m) {q : Nat} (hq : q < 6) (hs : ∀ a : Nat, a < 12 → a / 2 = q → Yp e (a : Int) = Yp d (a : Int)) : e.how (q : Int) = d.how (q : Int) ∧ e.tell (q : Int) = d.tell (q : Int) := by
 have e0 : ((2 * q : Nat) : Int) = 2 * (q : Int) := by omega
 have e1 : ((2 * q + 1 : Nat) : Int) = 2 * (q : Int) + 1 := by omega
 have s0 := hs (2 * q) (by omega) (by omega);have s1 := hs (2 * q + 1) (by omega) (by omega);rw [e0] at s0;rw [e1] at s1;exact Zcd (by rw [h.len, h'.len]) s0 s1
theorem Zfm {a : Int} (h : Qa d a = 0) : Yp d a = blk (Z5 d a) a := by
 have hr : Z5 d a = Y3 (Yp d a) a := by unfold Z5; rw [if_pos h]
 rw [hr, (Zg2 _ _ h).2]
theorem Zqk {p : Int} (hn : d.noPair p = false) (hl : d.how p < 2) : Yp d (2 * p) = blk (d.tell p) (2 * p) ∧ Yp d (2 * p + 1) = blk (d.tell p) (2 * p + 1) := by
 have e0 := Zbn d (2 * p);have e1 := Zbn d (2 * p + 1);have b0 := V0 d (2 * p);have b1 := V0 d (2 * p + 1);have bad : ∀ a, Y5 d a = 0 → Qa d a = 0 := fun a h => by
  unfold Y5 at h;by_cases hz : Qa d a = 0
  ·exact hz
  ·rw [if_neg hz] at h; omega
 have told : ∀ a, (Z5 d a).kind ≠ 1 → Qa d a = 0 := fun a h => by
  by_cases hz : Qa d a = 0
  ·exact hz
  ·exact absurd (by unfold Z5; rw [if_neg hz]; rfl) h
 unfold Dk.how at hl;unfold Dk.tell;rw [hn] at hl ⊢;simp only [Bool.false_eq_true, if_false] at hl ⊢;by_cases hs : Yt d (2 * p) + Yt d (2 * p + 1) = 2
 ·rw [if_pos hs] at hl;have k0 : (Z5 d (2 * p)).kind ≠ 1 := fun h => by have := Qc h; omega
  have k1 : (Z5 d (2 * p + 1)).kind ≠ 1 := fun h => by have := Qc h; omega
  have hz : ¬ (Yt d (2 * p) + Yt d (2 * p + 1) = 0) := by omega
  rw [if_neg hz];by_cases hsm : Q6 (Z5 d (2 * p)) (Z5 d (2 * p + 1)) = true
  ·have hss := (Zae _ _).1 hsm;unfold K2;rw [if_neg k0];refine ⟨Zfm (told _ k0), ?_⟩;rw [hss]; exact Zfm (told _ k1)
  ·rw [if_neg hsm] at hl; omega
 ·rw [if_neg hs] at hl;by_cases hs1 : Yt d (2 * p) + Yt d (2 * p + 1) = 1
  ·rw [if_pos hs1] at hl; omega
  ·rw [if_neg hs1] at hl;have hz : Yt d (2 * p) + Yt d (2 * p + 1) = 0 := by omega
   rw [if_pos hz];by_cases hb0 : Y5 d (2 * p) + Y5 d (2 * p + 1) = 0
   ·have key : ∀ a, Yt d a = 0 → Y5 d a = 0 → Yp d a = blk Rec.free a := fun a h1 h2 => by
     have hf : Z5 d a = Rec.free := by
      refine Zdt (Zcu d a) ?_;by_cases hk : (Z5 d a).kind = 1
      ·exact hk
      ·rw [Kg hk] at h1; omega
     rw [← hf]; exact Zfm (bad _ h2)
    exact ⟨key _ (by omega) (by omega), key _ (by omega) (by omega)⟩
   ·rw [if_neg hb0] at hl; split at hl <;> omega
theorem Zne (h : d.Fine n) {p : Nat} (hp : p < 6) {a : Nat} (ha : a < 12) : Yp (d.mendD (p : Int)) (a : Int) = if a / 2 = p then blk (d.tell (p : Int)) (a : Int) else Yp d (a : Int) := by
 unfold Dk.mendD;by_cases h2 : 2 ≤ d.how (p : Int)
 ·rw [if_pos h2];exact Zf0 h hp (Xt d _) ha
 ·rw [if_neg h2];obtain ⟨s0, s1⟩ := Zqk (Xb h.len hp) (show d.how (p : Int) < 2 by omega);by_cases hc : a / 2 = p
  ·rw [if_pos hc];by_cases he : a = 2 * p
   ·have ea : (a : Int) = 2 * (p : Int) := by omega
    rw [ea, s0]
   ·have ea : (a : Int) = 2 * (p : Int) + 1 := by omega
    rw [ea, s1]
  ·rw [if_neg hc]
structure Zx6 (K : Dk) (k : Nat) (e : Dk) : Prop where
 fine : e.Fine 12
 how : ∀ q : Nat, q < 6 → k ≤ q → e.how (q : Int) = K.how (q : Int)
 tell : ∀ q : Nat, q < 6 → e.tell (q : Int) = K.tell (q : Int)
 side : ∀ a : Nat, a < 12 → Yp e (a : Int) = if a / 2 < k then blk (K.tell ((a / 2 : Nat) : Int)) (a : Int) else Yp K (a : Int)
theorem Zi0 (h : K.Fine 0) : ∀ k, k ≤ 6 → Zx6 K k (X6 K k)
 | 0, _ => ⟨h.mono (by omega), fun _ _ _ => rfl, fun _ _ => rfl, fun a _ => by rw [if_neg (by omega)]; rfl⟩
 | k + 1, hk => by
  have ih := Zi0 h k (by omega);have hf := Jy h (k + 1);have hs : ∀ a : Nat, a < 12 → Yp (X6 K (k + 1)) (a : Int) = if a / 2 = k then blk ((X6 K k).tell (k : Int)) (a : Int) else Yp (X6 K k) (a : Int) := fun a ha => Zne ih.fine (by omega) ha
  have hl : ∀ q : Nat, q < 6 → q ≠ k → (X6 K (k + 1)).how (q : Int) = (X6 K k).how (q : Int) ∧ (X6 K (k + 1)).tell (q : Int) = (X6 K k).tell (q : Int) := fun q hq hne => Zmg ih.fine hf hq fun a ha he => by rw [hs a ha, if_neg (by omega)]
  refine ⟨hf.mono (by omega), fun q hq hle => ?_, fun q hq => ?_, fun a ha => ?_⟩
  ·rw [(hl q hq (by omega)).1]; exact ih.how q hq (by omega)
  ·by_cases e : q = k
   ·subst e;have := (Znd (X6 K q) (q : Int) (by omega) (by rw [ih.fine.len]; omega) (by rw [ih.fine.len]; omega)).2.1;exact this.trans (ih.tell q hq)
   ·rw [(hl q hq e).2]; exact ih.tell q hq
  ·rw [hs a ha];by_cases e : a / 2 = k
   ·rw [if_pos e, if_pos (by omega), ih.tell k (by omega), e]
   ·rw [if_neg e, ih.side a ha];by_cases hlt : a / 2 < k
    ·rw [if_pos hlt, if_pos (by omega)]
    ·rw [if_neg hlt, if_neg (by omega)]
theorem Zny (h : K.Fine 0) (k : Nat) (hk : k < 6) (i : Int) : cnt K (k + 1) i = cnt K k i + (if (X6 K k).how (k : Int) = i then 1 else 0) := by
 rw [(Zi0 h k (by omega)).how k hk (Nat.le_refl _)]; rfl
theorem Zdo (h : ∀ q : Nat, q < 6 → e.tell (q : Int) = d.tell (q : Int)) (p : Nat) (hp : p < 6) : ∀ n, n ≤ 6 → X4 e p n = X4 d p n
 | 0, _ => rfl
 | n + 1, hn => by
  unfold X4;rw [Zdo h p hp n (by omega), h n (by omega), h p hp]
theorem Zc4 (h : ∀ q : Nat, q < 6 → e.tell (q : Int) = d.tell (q : Int)) : ∀ n, n ≤ 6 → Yl e n = Yl d n
 | 0, _ => rfl
 | n + 1, hn => by
  unfold Yl;rw [Zc4 h n (by omega), Zdo h n (by omega) n (by omega), h n (by omega)]
theorem Zh9 (h : d.Fine n) (l : List Int) (hl : ∀ x ∈ l, 0 ≤ x ∧ x < 6) : ∀ j, j ≤ l.length → ∀ a : Nat, a < 12 → Yp (Vj d l j) (a : Int) = if (l.take j).contains ((a / 2 : Nat) : Int) = true then blk Rec.free (a : Int) else Yp d (a : Int)
 | 0, _, a, _ => by simp [Vj]
 | j + 1, hj, a, ha => by
  have hm := hl l[j] (List.getElem_mem _);have hg : l.getD j 0 = ((l[j].toNat : Nat) : Int) := by rw [Qp _ _ _ (by omega)]; omega
  show Yp ((Vj d l j).pairD (l.getD j 0) Rec.free) (a : Int) = _;rw [hg, Zf0 (Ky h l j) (by omega) Q3 ha, Zh9 h l hl j (by omega) a ha, Zcq l j (by omega)];by_cases e : a / 2 = l[j].toNat
  ·have e2 : (((a / 2 : Nat) : Int) == l[j]) = true := by simp; omega
   rw [if_pos e, e2, Bool.or_true, if_pos rfl]
  ·have e2 : (((a / 2 : Nat) : Int) == l[j]) = false := by simp; omega
   rw [if_neg e, e2, Bool.or_false]
theorem Zwc (h : d.Fine 0) (h' : e.Fine 0) (hs : ∀ a : Nat, a < 12 → Yp d (a : Int) = Yp e (a : Int)) : d = e := by
 have l1 := V8 h;have l2 := V8 h';have n1 := h.len;have n2 := h'.len;have hb : d.blocks = e.blocks := by
  apply List.ext_getElem (by omega);intro a ha hb;have s := hs a (by omega);rw [Je h (by omega), Je h' (by omega), Qp _ _ _ ha, Qp _ _ _ hb] at s;exact s
 obtain ⟨b1, w1⟩ := d;obtain ⟨b2, w2⟩ := e;simp only at l1 l2 hb;rw [l1, l2, hb]
theorem Zrs (d : Dk) : ∀ x ∈ Yl d 6, 0 ≤ x ∧ x < 6 := by
 have key : ∀ n, ∀ x ∈ Yl d n, 0 ≤ x ∧ x < (n : Int) := by
  intro n
  induction n with
  | zero => intro x hx; cases hx
  | succ n ih =>
   intro x hx;unfold Yl at hx;split at hx
   ·rcases List.mem_append.1 hx with h1 | h1
    ·have := ih x h1; omega
    ·rw [List.mem_singleton.1 h1]; omega
   ·have := ih x hx; omega
 exact key 6
theorem Zq6 (h : d.Fine n) : (Vj (X6 (d.keep 0) 6) (Yl (X6 (d.keep 0) 6) 6) (Yl (X6 (d.keep 0) 6) 6).length).flush = d.clean ∧ Yl (X6 (d.keep 0) 6) 6 = Yl (d.keep 0) 6 := by
 have hK := h.kept 0;have hM := Zi0 hK 6 (Nat.le_refl _);have ht := Zc4 hM.tell 6 (Nat.le_refl _);refine ⟨?_, ht⟩;rw [ht];have hC := Zt3 h;have hF := Ky hM.fine (Yl (d.keep 0) 6) (Yl (d.keep 0) 6).length;refine Zwc hF.flush hC.fine fun a ha => ?_;have hs : Yp (Vj (X6 (d.keep 0) 6) (Yl (d.keep 0) 6) (Yl (d.keep 0) 6).length).flush (a : Int) = Yp (Vj (X6 (d.keep 0) 6) (Yl (d.keep 0) 6) (Yl (d.keep 0) 6).length) (a : Int) := by
  unfold Yp;rw [Dk.flush_get _ fun x hx => (hF.place x hx).1]
 rw [hs, Zh9 hM.fine _ (Zrs _) _ (Nat.le_refl _) a ha, List.take_length, hM.side a ha, hC.side a ha, if_pos (show a / 2 < 6 by omega), if_pos (show a / 2 < 6 by omega)];unfold Zew;by_cases hc : (Yl (d.keep 0) 6).contains ((a / 2 : Nat) : Int) = true
 ·rw [if_pos hc, if_pos hc]
 ·rw [if_neg hc, if_neg hc]
end Go.Proofs.YtpdnapbchcdhlacGreat
