import Derived.Test.YtpdnapbchcdhlabMdlO
import Derived.Test.YtpdnapbchcdhlabMdlG
set_option maxHeartbeats 8000000
namespace Go.Proofs.Ytpdnapbchcdhlab
set_option maxRecDepth 100000
open Go.RowKit Go.Deep
open Plain Reg
variable {B g k : Nat} {css : List (List Value)} {v : Value} {w w' : World} {α : Type}
def Qa (B : Nat) (r : Rec) (v : Value) (w : World) : Prop := ∃ a c, v = .agg #[.int .i64 r.kind, .int .i64 r.key, .int .i64 r.ver, .slice a r.data.length c] ∧ w.ownsRow B 5 1 (.slice a r.data.length c) r.data.length (r.data.map bv)
theorem Qa.grow {r : Rec} (h : Qa B r v w) (hg : Zi w w') : Qa B r v w' := by
 obtain ⟨a, c, h1, h2⟩ := h; exact ⟨a, c, h1, Ql h2 hg⟩
theorem Zam (y m n : Int) (l : List UInt8) (v : Value) (w : World) (hm : l.length ≤ 140737488355328) (h : Bytes w v l) :
  Calls Try.prog 29 #[.agg #[.int .i64 1, .int .i64 y, .int .i64 m, v], .int .i64 n] w fun e w' => ∃ v', e = .returned v' ∧ Qa w.heap.size ⟨2, y, n, l⟩ v' w' ∧ Zi w w' := by
 obtain ⟨ao, cap, rfl, -, -⟩ := Xg h;go_enter Try.func29, Try.ntmps29;go_wp2_with fail;refine (Kh 2 y n l _ _ hm (by exact Zo h (Zt _ _ _))).mono ?_;rintro e w1 ⟨v', rfl, ho, g1⟩;obtain ⟨ao', cap', rfl⟩ := Qv ho;obtain ⟨hc, hf⟩ := Zbz g1;have cs := K5;clear h;go_wp2_with fail;refine bodyPost_ret (v := .agg #[.int .i64 2, .int .i64 y, .int .i64 n, .slice ao' l.length cap']) (by simp [results, Try.results29, go_sem, hc, cs]) rfl ⟨_, rfl, ⟨ao', cap', rfl, X7 (base := w.heap.size + 2) ?_ (by omega)⟩, ?_⟩
 ·replace ho : w1.ownsRow (w.heap.size + 2) 5 1 (.slice ao' l.length cap') l.length (l.map bv) := by simpa using ho
  exact Xe (Xe (Xe (Xe ho (by simp) _) (by simp) _) (by simp) _) (by simp) _
 ·exact Y2 (Y2 (Y2 (Y2 ((Zt _ _ _).trans g1) (by simp) _) (by simp) _) (by simp) _) (by simp) _
theorem Zan (y m n : Int) (v : Value) (w : World) :
  Calls Try.prog 29 #[.agg #[.int .i64 2, .int .i64 y, .int .i64 m, v], .int .i64 n] w fun e w' => ∃ v', e = .returned v' ∧ Qa w.heap.size ⟨3, y, n, []⟩ v' w' ∧ Zi w w' := by
 have g0 := Zt w (.cells #[.int .i64 2, .int .i64 y, .int .i64 m, v] 47) (.cells #[.int .i64 3, .int .i64 y, .int .i64 n, .slice none 0 0] 33);go_enter Try.func29, Try.ntmps29;go_wp2_with fail;exact bodyPost_ret (v := .agg #[.int .i64 3, .int .i64 y, .int .i64 n, .slice none 0 0]) (by simp [results, Try.results29, go_sem]) rfl ⟨_, rfl, ⟨none, 0, rfl, World.ownsRow_nil _ _ _ _⟩, g0⟩
theorem V7 (d : Dd) (n : Int) (a : Option Addr) (c : Nat) (w : World) (hw : Zq d = 0) (hk : d.kind ≠ 3) (hb : Bytes w (.slice a d.data.length c) d.data) :
  Calls Try.prog 29 #[.agg #[.int .i64 d.kind, .int .i64 d.key, .int .i64 d.num, .slice a d.data.length c], .int .i64 n] w fun e w' => ∃ v', e = .returned v' ∧ Qa w.heap.size (Zy d n) v' w' ∧ Zi w w' := by
 obtain ⟨a1, a2, a3, a4, a5, a6⟩ := Yo hw;obtain ⟨k, y, m, l⟩ := d;simp only at hk a1 a2 a5 a6 hb ⊢;have h12 : k = 1 ∨ k = 2 := by omega
 rcases h12 with rfl | rfl
 ·exact Zam y m n l _ w (by omega) hb
 ·obtain rfl := List.eq_nil_of_length_eq_zero (show l.length = 0 by omega);exact Zan y m n _ w
theorem Jp : Vp := by
 intro S d n a c w _ hw hk _ _ hb;refine (V7 d n a c w hw hk hb.p).mono ?_;rintro e w' ⟨v', rfl, ⟨a', c', rfl, ho⟩, g⟩;exact ⟨a', c', rfl, Zby S ho, g⟩
theorem Zav (w : World) (ty : TypeId) (b o c : Nat) (hc : ∀ j, j < 4 → (w.cell? ⟨b, o + j, none⟩).isSome = true) (hf : ∀ j, j < 4 → w.frozen? ⟨b, o + j, none⟩ = false) :
  (Builtin.clear_ #[45] ty #[.slice (some ⟨b, o, none⟩) 1 c]).run Try.prog w = .ok (.tuple #[]) (w.setCells b o [.int .i64 0, .int .i64 0, .int .i64 0, .slice none 0 0]) := by
 obtain ⟨i0, hif, hz0, hz1, hz2⟩ := info_parts Xl;have hv : ∀ w, (zeroValue 33).run Try.prog w = .ok (.agg #[.int .i64 0, .int .i64 0, .int .i64 0, .slice none 0 0]) w := fun w => by simp [zeroValue, typeInfo, hif, hz0]
 have hzc : (Builtin.zeroCells (Value.agg #[.int .i64 0, .int .i64 0, .int .i64 0, .slice none 0 0]).cells 1).toList = [.int .i64 0, .int .i64 0, .int .i64 0, .slice none 0 0] := by kernel_rfl
 have hst := run_storeCells_cells (P := Try.prog) b o [.int .i64 0, .int .i64 0, .int .i64 0, .slice none 0 0] 0 w (by simpa using hc) (by simpa using hf) (by intro v hv'; simp at hv'; rcases hv' with rfl | rfl <;> rfl);simp only [Nat.add_zero] at hst;simp [Builtin.clear_, run_underlying Try.underlying45, hv, hzc, hst]
theorem X2 : ∀ (css : List (List Value)) (j : Nat), (∀ c ∈ css, c.length = k) → css.flatten.drop (j * k) = (css.drop j).flatten
 | [], j, _ => by simp
 | c :: css, 0, _ => by simp
 | c :: css, j + 1, h => by
  have h1 := h c (by simp);rw [List.flatten_cons, List.drop_succ_cons, ← X2 css j fun x hx => h x (by simp [hx]), List.drop_append, h1, List.drop_of_length_le (by rw [h1, Nat.add_mul]; omega), List.nil_append]
  congr 1
  rw [Nat.add_mul]; omega
theorem Qn : ∀ (css : List (List Value)) (j : Nat), (∀ c ∈ css, c.length = k) → css.flatten.take (j * k) = (css.take j).flatten
 | [], j, _ => by simp
 | c :: css, 0, _ => by simp
 | c :: css, j + 1, h => by
  have h1 := h c (by simp);rw [List.flatten_cons, List.take_succ_cons, List.flatten_cons, ← Qn css j fun x hx => h x (by simp [hx]), List.take_append, h1, List.take_of_length_le (by rw [h1, Nat.add_mul]; omega)]
  congr 2
  rw [Nat.add_mul]; omega
theorem Yg.cslen {sh : Yv α} {S0 : Nat → Prop} {xs : List α} (h : Yg sh S0 B v xs css w) : ∀ c ∈ css, c.length = sh.size := by
 intro c hc;obtain ⟨i, hi, rfl⟩ := List.mem_iff_getElem.1 hc;obtain ⟨cs, k1, k2⟩ := h.each i (by rw [← h.len]; exact hi);rw [List.getElem?_eq_getElem hi] at k1;cases k1;exact sh.len k2
theorem Yg.anew {sh : Yv α} {v' : Value} {xs ys : List α} {yss : List (List Value)} {c : Array Value} {f} (h : Yg sh NoR B v xs css w) (hT : sh.T ≠ 5) (hh : w.heap[g]? = some (.cells c sh.T f)) (hg : Z5 g w w') (hl : yss.length = ys.length)
  (hy : ∀ i (hi : i < ys.length), ∃ j, ∃ hj : j < xs.length, xs[j] = ys[i] ∧ css[j]? = yss[i]?) (hown : w'.ownsRow B sh.T sh.size v' ys.length yss.flatten) : Yg sh NoR B v' ys yss w' := by
 have hne : ∀ b, InS NoR B w b → b ≠ g := by
  rintro b (h1 | ⟨_, c, f, h1⟩) rfl
  ·exact h1
  ·rw [hh] at h1; injection h1 with h1; injection h1 with _ h1; exact hT h1
 have hkp : ∀ b, InS NoR B w b → b < w.heap.size → w'.heap[b]? = w.heap[b]? := fun b hb hlt => hg.block b hlt (hne b hb)
 have hmo : ∀ b, InS NoR B w b → InS NoR B w' b := fun b hb => Xa hb (fun x => x) fun ⟨k1, c, f, k2⟩ => ⟨k1, c, f, (hkp b hb (Zf k2)).trans k2⟩
 refine ⟨hl, fun i hi => ?_, hown⟩;obtain ⟨j, hj, e1, e2⟩ := hy i hi;obtain ⟨cs, k1, k2⟩ := h.each j hj;refine ⟨cs, by rw [← e2]; exact k1, ?_⟩;rw [← e1];exact sh.mono (sh.keep k2 hkp) hmo
def K8 (W : World) (s g n cap : Nat) (U : Array Value) (dn : Nat → Bool) (f : Nat → Value) (w : World) : Prop :=
 (dn s = false → Zi W w) ∧ (dn s = true → f s = .slice (some ⟨g, 0, none⟩) n cap ∧ w.heap[g]? = some (.cells U 33 (0, 0)) ∧ Z5 g W w)
theorem K8.start (W : World) (s g n cap : Nat) (U : Array Value) (f : Nat → Value) : K8 W s g n cap U (fun _ => false) f W.drew := ⟨fun _ => (Zi.refl _).drew, fun h => by cases h⟩
theorem K8.app {W : World} {s n i j cap : Nat} {cur U : Array Value} {dn : Nat → Bool} {f : Nat → Value} {ad : Addr} {lc : Nat} (h : K8 W s g (i + (n - j)) cap U dn f w) (hs : dn s = false) (hU : U = (cur.toList.take (i * 4) ++ (css.drop j).flatten ++ cur.toList.drop (i * 4 + (css.drop j).flatten.length)).toArray)
  (hcur : W.heap[g]? = some (.cells cur 33 (0, 0))) (hlen : ∀ c ∈ css, c.length = 4) (hcn : css.length = n) (ht : cur.toList.take (n * 4) = css.flatten) (hone : ∀ u ∈ css.flatten, u.oneCell' = true) (hij : i < j) (hjn : j ≤ n) (hnc : n ≤ cap) (hsz : cur.size = cap * 4) (had : j < n → ad = ⟨g, 0 + j * 4, none⟩) :
  ∃ w', (Builtin.append_ #[45, 45] 45 #[.slice (some ⟨g, 0, none⟩) i cap, .slice (some ad) (n - j) lc]).run Try.prog w = .ok (.slice (some ⟨g, 0, none⟩) (i + (n - j)) cap) w' ∧ K8 W s g (i + (n - j)) cap U (upd dn s) (Xd f s (.slice (some ⟨g, 0, none⟩) (i + (n - j)) cap)) w' := by
 obtain ⟨i0, hif, hz0, hz1, hz2⟩ := info_parts Xl;have hG := h.1 hs;have hw := (hG.block _ (Zf hcur)).trans hcur;have hfl : (css.drop j).flatten.length = (n - j) * 4 := by rw [Yy (k := 4) _ (fun c hc => hlen c (List.mem_of_mem_drop hc)), List.length_drop, hcn]
 have hr := run_append_room (P := Try.prog) w 45 45 33 i0 Try.underlying45 hif g i cap cur hw ad (n - j) lc (css.drop j).flatten (by rw [hz1]; exact hfl) (fun t u hu => ?_) (fun u hu => ?_) (by omega) (by rw [hz1, hfl, hsz]; omega)
 ·rw [hz1] at hr;refine ⟨_, hr, fun h1 => ?_, fun _ => ⟨Ym, ?_, (Z5.of hG).row _⟩⟩
  ·rw [Y5] at h1; cases h1
  ·rw [← hU]; exact setRow_heap w g cur U _ _ hw
 ·have htl : t < (n - j) * 4 := by rw [← hfl]; exact (List.getElem?_eq_some_iff.1 hu).1
  rw [had (by omega)];have e : (⟨g, 0 + j * 4, none⟩ : Addr).add t = ⟨g, j * 4 + t, none⟩ := by
   unfold Addr.add;split
   ·rename_i h; rw [h]; simp
   ·simp
  rw [e];refine Zp hw _ u ?_;rw [← X2 css j hlen, List.getElem?_drop, ← ht, List.getElem?_take, if_pos (by omega), Array.getElem?_toList] at hu;exact hu
 ·rw [← X2 css j hlen] at hu;exact hone u (List.mem_of_mem_drop hu)
theorem Yg.ones {xs : List Rec} (h : Yg Zl NoR B v xs css w) : ∀ u ∈ css.flatten, u.oneCell' = true := by
 intro u hu;obtain ⟨c, hc, hu⟩ := List.mem_flatten.1 hu;obtain ⟨i, hi, rfl⟩ := List.mem_iff_getElem.1 hc;obtain ⟨cs, k1, k2⟩ := h.each i (by rw [← h.len]; exact hi);rw [List.getElem?_eq_getElem hi] at k1;cases k1;exact Zl.one k2 u hu
theorem Jr (B : Nat) (l : List Rec) (css : List (List Value)) (v : Value) (w : World) (i j : Nat) (hij : i < j) (hji : j < i + 2) (hjl : j ≤ l.length) (_hl : l.length ≤ 1000) (hR : Yg Zl NoR B v l css w) :
  Calls Try.prog 87 #[v, .int .i64 (i : Int), .int .i64 (j : Int)] w fun e w' => ∃ v' css', e = .returned v' ∧ Yg Zl NoR B v' (l.take i ++ l.drop j) css' w' ∧ ∀ w0, Zi w0 w → w0.heap.size ≤ B → Zi w0 w' := by
 rcases hR.row.2 with ⟨rfl, h0⟩ | ⟨g, cap, cur, rfl, hB, hh, hnc, hcm, hsz, ht⟩
 ·omega
 ·have hcslen : ∀ c ∈ css, c.length = 4 := hR.cslen;have hones := hR.ones;have hclen := hR.len;obtain ⟨U, hU⟩ : ∃ U, U = (cur.toList.take (i * 4) ++ (css.drop j).flatten ++ cur.toList.drop (i * 4 + (css.drop j).flatten.length)).toArray := ⟨_, rfl⟩;have hnn : cap ≤ 9223372036854775807 := hcm;have d0 : ((i : Int) == (j : Int)) = false := by simp; omega
  go_enter Try.func87, Try.ntmps87;go_wp2_with fail;obtain ⟨W, rfl⟩ : ∃ W : World, W = w := ⟨_, rfl⟩;refine Yw [px (.slice (some ⟨g, 0, none⟩) l.length cap), px (.int .i64 (i : Int)), px (.slice (some ⟨g, 0, none⟩) i cap), px (.slice (some ⟨g, 0, none⟩) l.length cap), px (.int .i64 (j : Int)), px (.slice (some (if cap = j then ⟨g, 0, none⟩ else ⟨g, 0 + j * 4, none⟩)) (l.length - j) (cap - j)), px (.slice (some ⟨g, 0, none⟩) (i + (l.length - j)) cap), px (.slice (some ⟨g, 0, none⟩) (i + (l.length - j)) cap)] [none, none, none, none, none, none, some ((fun _ _ => True))] (K8 W 6 g (i + (l.length - j)) cap U) (by kernel_rfl) (by kernel_rfl) ⟨se, se, se, se, se, se, se, se, trivial⟩ ⟨⟨(fun _ => trivial), ⟨x5, x5, x5, x5, x5, x5, .inl (by kernel_rfl), .inl (by kernel_rfl), trivial⟩⟩, trivial⟩ ⟨n5, n5, n5, n5, n5, n5, n5, n5, trivial⟩ (K8.start _ _ _ _ _ _) ?_ ?_
  ·refine ⟨?_, ?_, ?_, ?_, ?_, ?_, ?_, ?_, trivial⟩
   ·exact Zc rfl fun a _ _ _ _ _ B A => Zz rfl B (Zx A 0 rfl)
   ·exact Zc rfl fun a _ _ _ _ _ B A => Zz rfl B (Zx A 1 rfl)
   ·refine Zc rfl fun a B _ _ _ _ C A => ?_;have e20 : a (.tmp 20) = _ := Zm A 0 rfl;have e21 : a (.tmp 21) = _ := Zm A 1 rfl;refine Yi (V0 B _ _ (.tmp 20) (.tmp 21) rfl g 0 l.length cap i (by omega) hnc e20 e21) C rfl
   ·exact Zc rfl fun a _ _ _ _ _ B A => Zz rfl B (Zx A 0 rfl)
   ·exact Zc rfl fun a _ _ _ _ _ B A => Zz rfl B (Zx A 2 rfl)
   ·refine Zc rfl fun a B _ _ _ _ C A => ?_;have e23 : a (.tmp 23) = _ := Zm A 3 rfl;have e24 : a (.tmp 24) = _ := Zm A 4 rfl;refine Yi (Q0 B _ _ (.tmp 23) (.tmp 24) rfl g 0 l.length cap j hjl hnc e23 e24) C rfl
   ·refine Zc rfl fun a w' _ _ _ C B A => ?_;have e22 : a (.tmp 22) = _ := Zm A 2 rfl;have e25 : a (.tmp 25) = _ := Zm A 5 rfl;obtain ⟨w2, hrun, hJ⟩ := K8.app (n := l.length) (lc := cap - j) (ad := (if cap = j then ⟨g, 0, none⟩ else ⟨g, 0 + j * 4, none⟩)) B C.un hU hh hcslen hclen ht hones hij hjl hnc hsz (fun h => if_neg (show ¬ cap = j by omega));exact Yh (v := .slice (some ⟨g, 0, none⟩) (i + (l.length - j)) cap) (w' := w2) (Yz (.tmp 22) (.tmp 25) 45 rfl _ _ e22 e25 hrun) trivial hJ rfl
   ·exact Zc rfl fun a _ _ _ _ _ B A => Z0 rfl B (Zm A 6 rfl)
  ·intro vs w' dn hdn hg ht;obtain ⟨(r20 : vs 0 = _), (r21 : vs 1 = _), (r22 : vs 2 = _), (r23 : vs 3 = _), (r24 : vs 4 = _), (r25 : vs 5 = _), (r26 : vs 6 = _), (r0 : vs 7 = _), -⟩ := ht;simp only [Z4, Act.put, List.setIfInBounds_toArray, List.set_cons_zero, List.set_cons_succ, r20, r21, r22, r23, r24, r25, r26, r0];clear r20 r21 r22 r23 r24 r25 r26 r0;obtain ⟨-, hUg, hGB⟩ := hg.2 (hdn 6 (by decide));clear hg hdn;obtain ⟨N, hN⟩ : ∃ N, N = i + (l.length - j) := ⟨_, rfl⟩;have hN1 : N < l.length := by omega
   have hN2 : l.length < N + 2 := by omega
   have hfl : (css.drop j).flatten.length = (l.length - j) * 4 := by rw [Yy (k := 4) _ (fun c hc => hcslen c (List.mem_of_mem_drop hc)), List.length_drop, hclen]
   have hsz4 : cur.size = cap * 4 := hsz;have hUs : U.size = cap * 4 := by
    rw [hU];simp only [List.size_toArray, List.length_append, List.length_take, List.length_drop, Array.length_toList, hfl, hsz4];omega
   have hUt : U.toList.take (N * 4) = (css.take i ++ css.drop j).flatten := by
    have e1 : cur.toList.take (i * 4) = (css.take i).flatten := by
     rw [← Qn css i hcslen, ← ht, List.take_take, show min (i * 4) (l.length * Zl.size) = i * 4 from Nat.min_eq_left (by show i * 4 ≤ l.length * 4; omega)]
    have e2 : ((css.take i).flatten ++ (css.drop j).flatten).length = N * 4 := by
     rw [List.length_append, hfl, Yy (k := 4) _ (fun c hc => hcslen c (List.mem_of_mem_take hc)), List.length_take, hclen];omega
    rw [hU, e1, List.flatten_append, List.take_append_of_le_length (by rw [e2]; exact Nat.le_refl _), ← e2, List.take_length]
   have hcl : ∀ ty, (Builtin.clear_ #[45] ty #[.slice (some ⟨g, N * 4, none⟩) (l.length - N) (cap - N)]).run Try.prog w' = .ok (.tuple #[]) (w'.setCells g (N * 4) [.int .i64 0, .int .i64 0, .int .i64 0, .slice none 0 0]) := fun ty => by
    rw [show l.length - N = 1 from by omega];exact Zav w' ty g (N * 4) (cap - N) (fun t h => by rw [Zp hUg _ _ (Array.getElem?_eq_getElem (show N * 4 + t < U.size by omega))]; rfl) (fun t _ => Xo hUg _)
   have hsz2 : N * 4 + 4 ≤ U.size := by omega
   have hrow := Y7 (Y7 (Y7 (Y7 hUg (N * 4) (.int .i64 0)) (N * 4 + 1) (.int .i64 0)) (N * 4 + 2) (.int .i64 0)) (N * 4 + 3) (.slice none 0 0);have hGE : Z5 g W (w'.setCells g (N * 4) [.int .i64 0, .int .i64 0, .int .i64 0, .slice none 0 0]) := (((hGB.set _ _ _).set _ _ _).set _ _ _).set _ _ _;have hrow2 : (w'.setCells g (N * 4) [.int .i64 0, .int .i64 0, .int .i64 0, .slice none 0 0]).heap[g]? = _ := hrow;have hE : Yg Zl NoR B (.slice (some ⟨g, 0, none⟩) N cap) (l.take i ++ l.drop j) (css.take i ++ css.drop j) (w'.setCells g (N * 4) [.int .i64 0, .int .i64 0, .int .i64 0, .slice none 0 0]) := by
    have hlN : (l.take i ++ l.drop j).length = N := by simp only [List.length_append, List.length_take, List.length_drop]; omega
    refine Yg.anew hR (by decide) hh hGE (by simp [hclen]) (fun t htl => ?_) ?_
    ·rw [hlN] at htl;by_cases hti : t < i
     ·exact ⟨t, by omega, by rw [List.getElem_append_left (by simp; omega), List.getElem_take], by rw [List.getElem?_append_left (by simp; omega), List.getElem?_take, if_pos hti]⟩
     ·refine ⟨j + (t - i), by omega, ?_, ?_⟩
      ·rw [List.getElem_append_right (by simp; omega), List.getElem_drop]
       congr 1
       simp; omega
      ·rw [List.getElem?_append_right (by simp; omega), List.getElem?_drop]
       congr 1
       simp; omega
    ·rw [hlN];refine ⟨?_, .inr ⟨g, cap, _, rfl, hB, hrow2, by omega, hcm, by show _ = cap * 4; simpa using hUs, ?_⟩⟩
     ·rw [← hUt, List.length_take, Array.length_toList];show min (N * 4) U.size = N * 4;omega
     ·show List.take (N * 4) _ = _;rw [← hUt];apply List.ext_getElem?;intro t;rw [List.getElem?_take, List.getElem?_take];by_cases ht4 : t < N * 4
      ·rw [if_pos ht4, if_pos ht4, Array.getElem?_toList, Array.getElem?_toList, Zb4 hsz2, if_neg (by omega), if_neg (by omega), if_neg (by omega), if_neg (by omega)]
      ·rw [if_neg ht4, if_neg ht4]
   have hgr : ∀ w0, Zi w0 W → w0.heap.size ≤ B → Zi w0 (w'.setCells g (N * 4) [.int .i64 0, .int .i64 0, .int .i64 0, .slice none 0 0]) := fun w0 h1 h2 => hGE.grow h1 (by omega)
   rw [← hN];generalize (if cap = j then (⟨g, 0, none⟩ : Addr) else ⟨g, 0 + j * 4, none⟩) = ad5;generalize w'.setCells g (N * 4) [.int .i64 0, .int .i64 0, .int .i64 0, .slice none 0 0] = wE at *;clear hrow hrow2 hGE hsz2 hUt hUs hfl hN hGB hUg hR hh ht hsz4 hsz hcm hU hones hcslen hclen;go_wp2_with fail;go_ret;exact ⟨_, _, rfl, hE, hgr⟩
end Go.Proofs.Ytpdnapbchcdhlab
