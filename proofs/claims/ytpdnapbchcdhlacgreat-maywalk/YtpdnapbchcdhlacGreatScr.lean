import Derived.Test.YtpdnapbchcdhlacGreatInv2
import Derived.Maps.OwnSet
set_option maxHeartbeats 8000000
namespace Go.Proofs.YtpdnapbchcdhlacGreat
set_option maxRecDepth 100000
open Plain
variable {d : Dk}
theorem Zp7 (h : d.Fine 0) : d.flush = d := by
 have hl := Vt h;obtain ⟨b, l⟩ := d;simp only at hl;subst hl;rfl
theorem Zde {r : Rec} (h : Z3 r = 0) (hk : r.kind = 1) : r = Rec.free := by
 obtain ⟨-, -, h3, h4⟩ := (Zb7 r).1 h;obtain ⟨k, y, n, l⟩ := r;simp only at hk;subst hk;unfold Xc at h3;unfold Xa at h4;simp at h3 h4;obtain ⟨rfl, rfl⟩ := h3;subst h4;rfl
structure Zxb (d e : Dk) (p : Nat) : Prop where
 fine : e.Fine 0
 low : e.how (p : Int) < 2
 tell : ∀ q : Nat, q < 6 → e.tell (q : Int) = d.tell (q : Int)
 other : ∀ q : Nat, q < 6 → q ≠ p → e.how (q : Int) = d.how (q : Int)
 same : d.how (p : Int) < 2 → e = d
theorem Zmn (h : d.Fine 0) {p : Nat} (hp : p < 6) : Zxb d (d.mendD (p : Int)).flush p := by
 have hfi := (h.mend (p : Int)).flush;revert hfi;unfold Dk.mendD;by_cases h2 : 2 ≤ d.how (p : Int)
 ·rw [if_pos h2];have hw := Xh d (p : Int);rw [Kv h hp hw];intro hfi;have hn := Y7 hfi.len hp;obtain ⟨⟨a0, -⟩, b0, -⟩ := V8 h hp hw true true;have key : (d.half p (d.tell (p : Int)) true true).how (p : Int) < 2 ∧ (d.half p (d.tell (p : Int)) true true).tell (p : Int) = d.tell (p : Int) := by
   by_cases hk : (d.tell (p : Int)).kind = 1
   ·obtain ⟨k1, k2⟩ := Zfw hn (by rw [(a0 rfl).1]; exact hk) (by rw [(b0 rfl).1]; exact hk) (a0 rfl).2 (b0 rfl).2;exact ⟨by omega, by rw [k2, Zde hw hk]⟩
   ·obtain ⟨k1, k2⟩ := Vb hn (a0 rfl).1 (b0 rfl).1 hk;exact ⟨by omega, k2⟩
  refine ⟨hfi, key.1, fun q hq => ?_, fun q hq hne => (Qf h hp hq hne hw true true).1, fun h3 => by omega⟩;by_cases e : q = p
  ·subst e; exact key.2
  ·exact (Qf h hp hq e hw true true).2
 ·rw [if_neg h2, Zp7 h];exact fun _ => ⟨h, by omega, fun _ _ => rfl, fun _ _ _ => rfl, fun _ => rfl⟩
variable {d : Dk}
structure Zx0 (d e : Dk) (p : Nat) (r : Rec) : Prop where
 fine : e.Fine 0
 low : e.how (p : Int) < 2
 tell : e.tell (p : Int) = r
 other : ∀ q : Nat, q < 6 → q ≠ p → e.how (q : Int) = d.how (q : Int) ∧ e.tell (q : Int) = d.tell (q : Int)
 side : ∀ a : Nat, a < 12 → Yf e (a : Int) = if a / 2 = p then blk r (a : Int) else Yf d (a : Int)
theorem Zwo (h : d.Fine 0) {p : Nat} (hp : p < 6) {r : Rec} (hw : Z3 r = 0) : Zx0 d (d.pairD (p : Int) r).flush p r := by
 rw [Kv h hp hw];have hfi := Qm h hp hw true true;have hn := Y7 hfi.len hp;obtain ⟨⟨a0, -⟩, b0, -⟩ := V8 h hp hw true true;have key : (d.half p r true true).how (p : Int) < 2 ∧ (d.half p r true true).tell (p : Int) = r := by
  by_cases hk : r.kind = 1
  ·obtain ⟨k1, k2⟩ := Zfw hn (by rw [(a0 rfl).1]; exact hk) (by rw [(b0 rfl).1]; exact hk) (a0 rfl).2 (b0 rfl).2;exact ⟨by omega, by rw [k2, Zde hw hk]⟩
  ·obtain ⟨k1, k2⟩ := Vb hn (a0 rfl).1 (b0 rfl).1 hk;exact ⟨by omega, k2⟩
 refine ⟨hfi, key.1, key.2, fun q hq hne => Qf h hp hq hne hw true true, fun a ha => ?_⟩;have hs := J7 h hp hw true true a ha;rw [hs];by_cases e1 : a = 2 * p + 1
 ·subst e1;rw [if_pos ⟨rfl, rfl⟩, if_pos (by omega)]
  congr 1
 ·rw [if_neg (fun h => e1 h.1)];by_cases e0 : a = 2 * p
  ·subst e0;rw [if_pos ⟨rfl, rfl⟩, if_pos (by omega)]
   congr 1
  ·rw [if_neg (fun h => e0 h.1), if_neg (by omega)]
def Zed (D : Dk) (tw : List Int) (p : Nat) : Rec := if tw.contains (p : Int) = true then Rec.free else D.tell (p : Int)
theorem Zmv (D : Dk) (tw : List Int) (p : Nat) : Z3 (Zed D tw p) = 0 := by
 unfold Zed;split
 ·exact Qn
 ·exact Xh D _
structure Ztq (D : Dk) (tw : List Int) (n : Nat) (e : Dk) : Prop where
 fine : e.Fine 0
 low : ∀ q : Nat, q < n → q < 6 → e.how (q : Int) < 2
 tell : ∀ q : Nat, q < 6 → e.tell (q : Int) = if q < n then Zed D tw q else D.tell (q : Int)
 side : ∀ a : Nat, a < 12 → Yf e (a : Int) = if a / 2 < n then blk (Zed D tw (a / 2)) (a : Int) else Yf D (a : Int)
theorem Znt {D : Dk} (h : D.Fine 0) (tw : List Int) : ∀ n, n ≤ 6 → Ztq D tw n (V2 D tw n)
 | 0, _ => ⟨h, fun q hq => by omega, fun q hq => by rw [if_neg (by omega)]; rfl, fun a ha => by rw [if_neg (by omega)]; rfl⟩
 | n + 1, hn => by
  have ih := Znt h tw n (by omega);have hr : (if tw.contains (n : Int) = true then Rec.free else (V2 D tw n).tell (n : Int)) = Zed D tw n := by
   unfold Zed;rw [ih.tell n (by omega), if_neg (Nat.lt_irrefl n)]
  have hP := Zwo ih.fine (p := n) (by omega) (Zmv D tw n);have he : V2 D tw (n + 1) = ((V2 D tw n).pairD (n : Int) (Zed D tw n)).flush := by
   show ((V2 D tw n).pairD (n : Int) (if tw.contains (n : Int) = true then Rec.free else (V2 D tw n).tell (n : Int))).flush = _;rw [hr]
  rw [he];refine ⟨hP.fine, fun q hq h6 => ?_, fun q hq => ?_, fun a ha => ?_⟩
  ·by_cases e : q = n
   ·subst e; exact hP.low
   ·rw [(hP.other q h6 e).1]; exact ih.low q (by omega) h6
  ·by_cases e : q = n
   ·subst e; rw [hP.tell, if_pos (by omega)]
   ·rw [(hP.other q hq e).2, ih.tell q hq];by_cases hl : q < n
    ·rw [if_pos hl, if_pos (by omega)]
    ·rw [if_neg hl, if_neg (by omega)]
  ·rw [hP.side a ha];by_cases e : a / 2 = n
   ·rw [if_pos e, if_pos (by omega), e]
   ·rw [if_neg e, ih.side a ha];by_cases hl : a / 2 < n
    ·rw [if_pos hl, if_pos (by omega)]
    ·rw [if_neg hl, if_neg (by omega)]
theorem Ztf {n : Nat} (h : d.Fine n) : Ztq (d.keep 0) (Yp (d.keep 0) 6) 6 d.clean := Znt (h.kept 0) _ 6 (Nat.le_refl _)
end Go.Proofs.YtpdnapbchcdhlacGreat
namespace Go.Proofs.YtpdnapbchcdhlacGreat
set_option maxRecDepth 100000
open Go.RowKit
open Plain Reg
def Zt4 : Prop := ∀ (d : Dk) (v : Value) (w : World), Q8 d v w → d.Fine 40 →
 Calls Tryz.prog 52 #[v] w fun r w' => ∃ v' vt, r = .returned (.tuple #[v', .agg (K1 (cnt (d.keep 0) 6)), vt]) ∧ Q8 d.clean v' w' ∧ Zt Vi (fun _ => True) w' vt (Yp (d.keep 0) 6) ∧ Zl w w'
def Ko (d : Dk) : Nat → Int → Bool
 | 0, _ => false
 | q + 1, x => Ko d q x || decide ((d.tell (q : Int)).kind ≠ 1 ∧ (d.tell (q : Int)).ver = x)
theorem Zhj (d : Dk) (p : Nat) : ∀ q, Ko d q (d.tell (p : Int)).ver = Vn d p q
 | 0 => rfl
 | q + 1 => by
  show (Ko d q _ || _) = (Vn d p q || _);rw [Zhj d p q]
theorem Zs8 (d : Dk) (p : Nat) (h : (d.tell (p : Int)).kind = 1) (x : Int) : Ko d p x = Ko d (p + 1) x := by
 show _ = (Ko d p x || _);rw [decide_eq_false (fun h2 => h2.1 h), Bool.or_false]
theorem Zve (d : Dk) (p : Nat) (h : (d.tell (p : Int)).kind ≠ 1) (x : Int) : (decide (x = (d.tell (p : Int)).ver) || Ko d p x) = Ko d (p + 1) x := by
 show _ = (Ko d p x || _);rw [Bool.or_comm]
 congr 1
 by_cases e : x = (d.tell (p : Int)).ver
 ·rw [decide_eq_true e, decide_eq_true ⟨h, e.symm⟩]
 ·rw [decide_eq_false e, decide_eq_false (fun h2 => e h2.2.symm)]
theorem Zq8 (d : Dk) (p : Int) : 0 ≤ (d.tell p).ver ∧ (d.tell p).ver ≤ 1000000 := by
 have h := ((Zb7 _).1 (Xh d p)).2.2.1;revert h;unfold Xc;generalize d.tell p = r;intro h;by_cases hk : r.kind = 1
 ·simp [hk] at h; omega
 ·simp [hk] at h; omega
end Go.Proofs.YtpdnapbchcdhlacGreat
namespace Go.Proofs.YtpdnapbchcdhlacGreat
set_option maxRecDepth 100000
open Go.RowKit Go.Maps
open Plain Reg
variable {b n : Nat} {f : Int → Bool} {w w' : World}
theorem Zom (w : World) : (zeroValue 177).run Tryz.prog w = .ok (.agg #[]) w := by kernel_rfl
def K5 (w : World) (b n : Nat) (f : Int → Bool) : Prop := ∃ D : DataW Unit, w.ownsMap Tryz.prog 3 unitElem b n D ∧ ∀ x : Int, (Lit.int .i64 x).wf = true → has D (.int .i64 x) = f x
theorem K5.made (w : World) : K5 (w.alloc (.map #[] 0)) w.heap.size 0 (fun _ => false) := ⟨.map [], World.ownsMap_made _ _ _ _, fun _ _ => rfl⟩
theorem K5.lt (h : K5 w b n f) : b < w.heap.size := by
 obtain ⟨D, h1, _⟩ := h; exact h1.lt
theorem K5.same (h : K5 w b n f) (hb : w'.heap[b]? = w.heap[b]?) : K5 w' b n f := by
 obtain ⟨D, ⟨es, clock, h1, h2⟩, h3⟩ := h;exact ⟨D, ⟨es, clock, hb.trans h1, h2⟩, h3⟩
theorem K5.grow (h : K5 w b n f) (hg : Zl w w') : K5 w' b n f := h.same (hg.block _ h.lt)
theorem K5.ask (h : K5 w b n f) (x : Int) (hx : (Lit.int .i64 x).wf = true) : (Instr.lookup 176 (.map (some b)) (.int .i64 x) true).run Tryz.prog w = .ok (.tuple #[.agg #[], .bool (f x)]) w := by
 obtain ⟨D, h1, h2⟩ := h;obtain ⟨v, ps, hrun, hv⟩ := h1.look_ok (int_keyed Tryz.underlying3) Tryz.underlying176 (Zom w) unitElem_mk (keyOf_int_mk Tryz.underlying3 hx);obtain ⟨rfl, -⟩ := unitElem_inv hv;rw [h2 x hx] at hrun;exact hrun
theorem K5.put (h : K5 w b n f) (x : Int) (hx : (Lit.int .i64 x).wf = true) (hn : n < 1000000) :
  ∃ w', (Instr.mapUpdate 176 (.map (some b)) (.int .i64 x) (.agg #[])).run Tryz.prog w = .ok () w' ∧ K5 w' b (n + 1) (fun y => decide (y = x) || f y) ∧ Zp b w w' := by
 obtain ⟨D, h1, h2⟩ := h;obtain ⟨w', hrun, h3, h4⟩ := h1.update (int_keyed Tryz.underlying3) Tryz.underlying176 (by unfold maxLen; omega) (keyOf_int_mk Tryz.underlying3 hx) unitElem_mk;refine ⟨w', hrun, ⟨_, h3, fun y hy => ?_⟩, Zp.grown h4⟩;by_cases e : y = x
 ·subst e;rw [has_put_same (Zmd h1) (show WideAt.IsKeyLit (.int .i64 y) from trivial)];simp
 ·rw [has_put_other (by intro e2; injection e2 with _ e2; exact e e2), h2 y hy];simp [e]
theorem K5.on {m : Nat} {g : Int → Bool} (h : K5 w b n f) (hf : ∀ x, f x = g x) (hn : n ≤ m) : K5 w b m g := by
 obtain ⟨D, h1, h2⟩ := h;exact ⟨D, h1.mono hn, fun x hx => by rw [h2 x hx, hf x]⟩
theorem Zm4 (args : Array Value) (w : World) : (callFunc 159 args).run Tryz.prog w = .ok (.enter 159 args) w := by
 simp [callFunc, Tryz.func159, Tryz.f159, mark]
theorem Zmc (w : World) :
  Calls Tryz.prog 122 #[] w fun r w' => r = .returned (.func (.func 159) #[] #[.pointer (some ⟨w.heap.size + 1, 0, none⟩)]) ∧ w'.heap[w.heap.size + 1]? = some (.cells #[.map (some w.heap.size)] 176 (0, 0)) ∧ K5 w' w.heap.size 0 (fun _ => false) ∧ Zl w w' := by
 have hmm := @run_makeMap Tryz.prog;have gM := Zb w (.map #[] 0);have hM := K5.made w;have hs : (w.alloc (.map #[] 0)).heap.size = w.heap.size + 1 := World.size_alloc _ _;have g2 := Zb (w.alloc (.map #[] 0)) (.cells #[.map (some w.heap.size)] 176);have hB := Zk (w.alloc (.map #[] 0)) #[.map (some w.heap.size)] 176;have hM2 := hM.grow g2;have gE := gM.trans g2;rw [hs] at hB;clear hM gM g2;go_enter Tryz.func122, Tryz.ntmps122;go_wp2_with fail;go_ret;exact ⟨rfl, hB, hM2, gE⟩
theorem Zsd (x : Int) (g b n : Nat) (f : Int → Bool) (w : World) (hg : w.heap[g]? = some (.cells #[.map (some b)] 176 (0, 0))) (hS : K5 w b n f) (hx : (Lit.int .i64 x).wf = true) (hn : n < 1000000) :
  Calls Tryz.prog 159 #[.int .i64 x, .pointer (some ⟨g, 0, none⟩)] w fun r w' => r = .returned (.bool (f x)) ∧ K5 w' b (n + 1) (fun y => decide (y = x) || f y) ∧ Zp b w w' := by
 have hask := hS.ask x hx;have g1 := Zb w (.cells #[] 177);obtain ⟨w2, hput, hS2, hb2⟩ := (hS.grow g1).put x hx hn;have hg1 := (g1.block _ (Za hg)).trans hg;have y0 := Zc hg 0 _ rfl;have y1 := Zc hg1 0 _ rfl;have hE := (Zp.of (g := b) g1).trans hb2;clear hg hg1 g1 hb2 hS;go_enter Tryz.func159, Tryz.ntmps159;go_wp2_with fail;go_ret;exact ⟨rfl, hS2, hE⟩
end Go.Proofs.YtpdnapbchcdhlacGreat
