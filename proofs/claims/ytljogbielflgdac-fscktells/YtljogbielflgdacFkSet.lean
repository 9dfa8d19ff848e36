import Derived.Test.YtljogbielflgdacIdxC
import Derived.Maps.OwnSet
set_option maxHeartbeats 8000000
namespace Go.Proofs.Ytljogbielflgdac
set_option maxRecDepth 100000
open Go.RowKit Go.Maps
open Plain Reg
theorem Zk4 (w : World) : (zeroValue 113).run Try.prog w = .ok (.agg #[]) w := by kernel_rfl
def Kb (w : World) (b n : Nat) (f : Int → Bool) : Prop := ∃ D : DataW Unit, w.ownsMap Try.prog 3 unitElem b n D ∧ ∀ x : Int, (Lit.int .i64 x).wf = true → has D (.int .i64 x) = f x
theorem Kb.made (w : World) : Kb (w.alloc (.map #[] 0)) w.heap.size 0 (fun _ => false) := ⟨.map [], World.ownsMap_made _ _ _ _, fun _ _ => rfl⟩
theorem Kb.lt {w : World} {b n : Nat} {f : Int → Bool} (h : Kb w b n f) : b < w.heap.size := by
 obtain ⟨D, h1, _⟩ := h; exact h1.lt
theorem Kb.same {w w' : World} {b n : Nat} {f : Int → Bool} (h : Kb w b n f) (hb : w'.heap[b]? = w.heap[b]?) : Kb w' b n f := by
 obtain ⟨D, ⟨es, clock, h1, h2⟩, h3⟩ := h;exact ⟨D, ⟨es, clock, hb.trans h1, h2⟩, h3⟩
theorem Kb.grow {w w' : World} {b n : Nat} {f : Int → Bool} (h : Kb w b n f) (hg : Zt w w') : Kb w' b n f := h.same (hg.block _ h.lt)
theorem Kb.ask {w : World} {b n : Nat} {f : Int → Bool} (h : Kb w b n f) (x : Int) (hx : (Lit.int .i64 x).wf = true) : (Instr.lookup 112 (.map (some b)) (.int .i64 x) true).run Try.prog w = .ok (.tuple #[.agg #[], .bool (f x)]) w := by
 obtain ⟨D, h1, h2⟩ := h;obtain ⟨v, ps, hrun, hv⟩ := h1.look_ok (int_keyed Try.underlying3) Try.underlying112 (Zk4 w) unitElem_mk (keyOf_int_mk Try.underlying3 hx);obtain ⟨rfl, -⟩ := unitElem_inv hv;rw [h2 x hx] at hrun;exact hrun
theorem Kb.put {w : World} {b n : Nat} {f : Int → Bool} (h : Kb w b n f) (x : Int) (hx : (Lit.int .i64 x).wf = true) (hn : n < 1000000) :
  ∃ w', (Instr.mapUpdate 112 (.map (some b)) (.int .i64 x) (.agg #[])).run Try.prog w = .ok () w' ∧ Kb w' b (n + 1) (fun y => decide (y = x) || f y) ∧ Zr b w w' := by
 obtain ⟨D, h1, h2⟩ := h;obtain ⟨w', hrun, h3, h4⟩ := h1.update (int_keyed Try.underlying3) Try.underlying112 (by unfold maxLen; omega) (keyOf_int_mk Try.underlying3 hx) unitElem_mk;refine ⟨w', hrun, ⟨_, h3, fun y hy => ?_⟩, Zr.grown h4⟩;by_cases e : y = x
 ·subst e;rw [has_put_same (Zdx h1) (show WideAt.IsKeyLit (.int .i64 y) from trivial)];simp
 ·rw [has_put_other (by intro e2; injection e2 with _ e2; exact e e2), h2 y hy];simp [e]
theorem Kb.on {w : World} {b n m : Nat} {f g : Int → Bool} (h : Kb w b n f) (hf : ∀ x, f x = g x) (hn : n ≤ m) : Kb w b m g := by
 obtain ⟨D, h1, h2⟩ := h;exact ⟨D, h1.mono hn, fun x hx => by rw [h2 x hx, hf x]⟩
theorem Zj0 (args : Array Value) (w : World) : (callFunc 68 args).run Try.prog w = .ok (.enter 68 args) w := by
 simp [callFunc, Try.func68, Try.f68, mark]
theorem Zje (w : World) :
  Calls Try.prog 40 #[] w fun r w' => r = .returned (.func (.func 68) #[] #[.pointer (some ⟨w.heap.size + 1, 0, none⟩)]) ∧ w'.heap[w.heap.size + 1]? = some (.cells #[.map (some w.heap.size)] 112 (0, 0)) ∧ Kb w' w.heap.size 0 (fun _ => false) ∧ Zt w w' := by
 have hmm := @run_makeMap Try.prog;have gM := Zd w (.map #[] 0);have hM := Kb.made w;have hs : (w.alloc (.map #[] 0)).heap.size = w.heap.size + 1 := World.size_alloc _ _;have g2 := Zd (w.alloc (.map #[] 0)) (.cells #[.map (some w.heap.size)] 112);have hB := Zq (w.alloc (.map #[] 0)) #[.map (some w.heap.size)] 112;have hM2 := hM.grow g2;have gE := gM.trans g2;rw [hs] at hB;clear hM gM g2;go_enter Try.func40, Try.ntmps40;go_wp2_with fail;go_ret;exact ⟨rfl, hB, hM2, gE⟩
theorem Znc (x : Int) (g b n : Nat) (f : Int → Bool) (w : World) (hg : w.heap[g]? = some (.cells #[.map (some b)] 112 (0, 0))) (hS : Kb w b n f) (hx : (Lit.int .i64 x).wf = true) (hn : n < 1000000) :
  Calls Try.prog 68 #[.int .i64 x, .pointer (some ⟨g, 0, none⟩)] w fun r w' => r = .returned (.bool (f x)) ∧ Kb w' b (n + 1) (fun y => decide (y = x) || f y) ∧ Zr b w w' := by
 have hask := hS.ask x hx;have g1 := Zd w (.cells #[] 113);obtain ⟨w2, hput, hS2, hb2⟩ := (hS.grow g1).put x hx hn;have hg1 := (g1.block _ (Za hg)).trans hg;have y0 := Zf hg 0 _ rfl;have y1 := Zf hg1 0 _ rfl;have hE := (Zr.of (g := b) g1).trans hb2;clear hg hg1 g1 hb2 hS;go_enter Try.func68, Try.ntmps68;go_wp2_with fail;go_ret;exact ⟨rfl, hS2, hE⟩
end Go.Proofs.Ytljogbielflgdac
namespace Go.Proofs.Ytljogbielflgdac
set_option maxRecDepth 100000
open Go.RowKit
open Plain Reg
theorem Zb6 (d : Dk) (a : Int) (v : Value) (w : World) (hF : d.Fine 1000) (hd : Xn d v w) (h0 : 0 ≤ a) (h1 : a < 12) :
  Calls Try.prog 58 #[v, .int .i64 a] w fun e w' => ∃ dv, e = .returned (.tuple #[.agg #[.int .i64 (Yu (Yh d a) a).kind, .int .i64 (Yu (Yh d a) a).key, .int .i64 (Yu (Yh d a) a).ver, dv], .int .i64 (Qf d a)]) ∧ w'.ownsRow w.heap.size 5 1 dv (Yu (Yh d a) a).data.length ((Yu (Yh d a) a).data.map bv) ∧ Zt w w' := by
 obtain ⟨ab, cb, al, cl, rfl, hb, hl⟩ := hd.form;rw [show Qf d a = Xl (Yh d a) a from rfl];obtain ⟨r, hr⟩ : ∃ r, r = Yu (Yh d a) a := ⟨_, rfl⟩;obtain ⟨E, hE⟩ : ∃ E, E = Xl (Yh d a) a := ⟨_, rfl⟩;rw [← hr, ← hE];have HR : Hid _ := hr;have HX : Hid _ := hE;clear hr hE;have HE : Hid (d.getE a = 0) := by show d.getE a = 0; unfold Dk.getE; rw [if_neg (by rw [hF.len]; omega)]
 have hb16 := hF.b16;have hl16 := hF.l16;have hm2 : d.late.length ≤ 999990 := by have := hF.few; omega
 have gW := Zv w (.cells #[.slice ab d.blocks.length cb, .slice al d.late.length cl] 27) (.cells #[.int .i64 0, .int .i64 0, .int .i64 0, .slice none 0 0] 54);have hz : ((w.alloc (.cells #[.slice ab d.blocks.length cb, .slice al d.late.length cl] 27)).alloc (.cells #[.int .i64 0, .int .i64 0, .int .i64 0, .slice none 0 0] 54)).heap[w.heap.size + 1]? = some (.cells #[.int .i64 0, .int .i64 0, .int .i64 0, .slice none 0 0] 54 (0, 0)) := by
  have h := Zq (w.alloc (.cells #[.slice ab d.blocks.length cb, .slice al d.late.length cl] 27)) #[.int .i64 0, .int .i64 0, .int .i64 0, .slice none 0 0] 54;rw [World.size_alloc] at h;exact h
 have hbW := hb.grow gW;have hlW := hl.grow gW;clear hd hF hb hl h0 h1;go_enter Try.func58, Try.ntmps58;go_wp2_with fail;refine (Zpb d a _ _ _ hbW hlW hm2 hb16 hl16).mono ?_;rw [HE.out];rintro e w1 ⟨v1, rfl, ho, g1⟩;have hv : Bytes w1 v1 (Yh d a) := Xy ho;obtain ⟨a1, c1, rfl⟩ := Z6 ho;have hz1 := (g1.block _ (Za hz)).trans hz;have gw1 := gW.trans g1;have hsz1 : w.heap.size + 1 < w1.heap.size := Za hz1;clear ho g1 gW hz hbW hlW hb16 hl16 hm2 HE;go_wp2_with fail;refine (Zm6 (Yh d a) a _ _ hv).mono ?_;rw [← HR.out, ← HX.out];rintro e w2 ⟨dv, rfl, ho2, g2⟩;have hz2 := (g2.block _ (Za hz1)).trans hz1;have gw2 := gw1.trans g2;obtain ⟨a2, c2, rfl⟩ := Z6 ho2;obtain ⟨hp1, hp2⟩ := X1 hz2 (.int .i64 r.kind) (.int .i64 r.key) (.int .i64 r.ver) (.slice a2 r.data.length c2);have gE := hp2.grow gw2 (by omega);have hoE := Yk (V5 hp2 (by omega) ho2) (base' := w.heap.size) (by omega);obtain ⟨y0, y1, y2, y3⟩ := Qd hz2 rfl rfl rfl rfl;obtain ⟨f0, f1, f2, f3⟩ := X2 hz2;have cs := Zz;clear hp1 hp2 hz1 hz2 gw1 gw2 g2 ho2 hv hsz1;go_wp2_with fail;exact bodyPost_ret (v := .tuple #[.agg #[.int .i64 r.kind, .int .i64 r.key, .int .i64 r.ver, .slice a2 r.data.length c2], .int .i64 E]) (by simp [results, Try.results58, go_sem, y0, y1, y2, y3, cs]) rfl ⟨_, rfl, hoE, gE⟩
end Go.Proofs.Ytljogbielflgdac
