import Derived.Test.YtpdnapbchcdhlacGreatMdlG
set_option maxHeartbeats 8000000
namespace Go.Proofs.YtpdnapbchcdhlacGreat
set_option maxRecDepth 100000
open Go.RowKit Go.Deep
open Plain Reg
variable {B B' b m o : Nat} {W w w2 : World} {css : List (List Value)} {dn : Nat → Bool} {f : Nat → Value} {r : Rec} {v : Value} {xs zs : List Rec}
theorem Yv.lessR (h : Yv Yo NoR B v xs css w) (hb : B' ≤ B) : Yv Yo NoR B' v xs css w :=
 ⟨h.len, fun i hi => (h.each i hi).imp fun _ x => ⟨x.1, Yo.mono x.2 fun _ k => Xq k (fun y => y) fun y => ⟨Nat.le_trans hb y.1, y.2⟩⟩, Yk h.row hb⟩
theorem Yv.recs (S : Nat → Prop) (h : Yv Yo NoR B v xs css w) : Qs (Zs S B) w v xs := h.slice.mono fun _ h => h.elim (fun x => x.elim) (fun x => .inr x)
theorem Zhg (args : Array Value) (w : World) : (callFunc 132 args).run Tryz.prog w = .ok (.enter 132 args) w := by
 simp [callFunc, Tryz.func132, Tryz.f132, mark]
theorem Zmy (x : Rec) (d : Dd) (a : Option Addr) (c g h : Nat) (w : World) (hp : w.heap[g]? = some (.cells #[.int .i64 d.key] 3 (0, 0))) (hq : w.heap[h]? = some (.cells #[.int .i64 d.num] 3 (0, 0))) :
  Calls Tryz.prog 132 #[.agg #[.int .i64 x.kind, .int .i64 x.key, .int .i64 x.ver, .slice a x.data.length c], .pointer (some ⟨g, 0, none⟩), .pointer (some ⟨h, 0, none⟩)] w fun e w' => e = .returned (.bool (Q9 d x)) ∧ Zn w w' := by
 have g0 := Zb w (.cells #[.int .i64 x.kind, .int .i64 x.key, .int .i64 x.ver, .slice a x.data.length c] 61);have y0 := Zc ((g0.block _ (Za hp)).trans hp) 0 _ rfl;have y1 := Zc ((g0.block _ (Za hq)).trans hq) 0 _ rfl;have HB : Hid (Q9 d x = decide (x.key = d.key ∧ x.ver = d.num)) := rfl;rw [HB.out];clear HB;by_cases hk : x.key = d.key
 ·have d1 : (x.key == d.key) = true := by simp [hk]
  by_cases hv : x.ver = d.num
  ·have d2 : (x.ver == d.num) = true := by simp [hv]
   have HD : Hid (decide (x.key = d.key ∧ x.ver = d.num) = true) := decide_eq_true ⟨hk, hv⟩;rw [HD.out];clear hk hv HD;go_enter Tryz.func132, Tryz.ntmps132;go_wp2_with fail;go_ret;exact ⟨rfl, g0⟩
  ·have d2 : (x.ver == d.num) = false := by simp [hv]
   have HD : Hid (decide (x.key = d.key ∧ x.ver = d.num) = false) := decide_eq_false fun h => hv h.2
   rw [HD.out];clear hk hv HD;go_enter Tryz.func132, Tryz.ntmps132;go_wp2_with fail;go_ret;exact ⟨rfl, g0⟩
 ·have d1 : (x.key == d.key) = false := by simp [hk]
  have HD : Hid (decide (x.key = d.key ∧ x.ver = d.num) = false) := decide_eq_false fun h => hk h.1
  rw [HD.out];clear hk HD;go_enter Tryz.func132, Tryz.ntmps132;go_wp2_with fail;go_ret;exact ⟨rfl, g0⟩
def Zbi (W : World) (B o s : Nat) (xs zs : List Rec) (dn : Nat → Bool) (f : Nat → Value) (w : World) : Prop :=
 Zn W w ∧ (dn o = true → dn s = false → ∃ css, Yv Yo NoR B (f o) xs css w) ∧ (dn s = true → ∃ css, Yv Yo NoR B (f s) zs css w)
theorem Zbi.start (W : World) (B o s : Nat) (xs zs : List Rec) (f : Nat → Value) : Zbi W B o s xs zs (fun _ => false) f W.drew := by
 refine ⟨(Zn.refl _).drew, ?_, ?_⟩ <;> (intro h; cases h)
theorem Zbi.own {s : Nat} (h : Zbi W B o s xs zs dn f w) (n : s ≠ o) (hs : dn s = false) (hg : Zn w w2) (hR : Yv Yo NoR B v xs css w2) : Zbi W B o s xs zs (upd dn o) (Ks f o v) w2 :=
 ⟨h.1.trans hg, fun _ _ => ⟨css, by rw [Q5]; exact hR⟩, fun h1 => by rw [X8 n, hs] at h1; cases h1⟩
theorem Zbi.gone {s : Nat} (h : Zbi W B o s xs zs dn f w) (hB : W.heap.size ≤ B) (hg : ∀ w0, Zn w0 w → w0.heap.size ≤ B → Zn w0 w2) (hR : Yv Yo NoR B v zs css w2) : Zbi W B o s xs zs (upd dn s) (Ks f s v) w2 :=
 ⟨hg W h.1 hB, (fun _ h1 => by rw [Kc] at h1; cases h1), fun _ => ⟨css, by rw [Q5]; exact hR⟩⟩
theorem Znb (S : Nat → Prop) (l : List Rec) (d : Dd) (v : Value) (w : World) (hl : Qs S w v l) (hn : l.length ≤ 1000) (h8 : ∀ x ∈ l, x.data.length ≤ 8) (hk : d.kind = 3) :
  Calls Tryz.prog 99 #[v, .int .i64 d.key, .int .i64 d.num] w fun r w' => ∃ v', r = .returned (.tuple #[v', .int .i64 (doR l d).n, .int .i64 (doR l d).e]) ∧ Qs (Zs S w.heap.size) w' v' (doR l d).l ∧ Zn w w' := by
 obtain ⟨ao, cp, rfl⟩ := hl.form;obtain ⟨R, hR⟩ : ∃ R, R = doR l d := ⟨_, rfl⟩;rw [← hR];have HF : Hid (∀ i, l.findIdx? (Q9 d) = some i → R = ⟨l.take i ++ l.drop (i + 1), d.num, 0⟩) := fun i h => by rw [hR]; unfold doR; rw [if_pos hk, h]
 have HN : Hid (l.findIdx? (Q9 d) = none → R = ⟨l, 0, 6⟩) := fun h => by rw [hR]; unfold doR; rw [if_pos hk, h]
 clear hR hk;have g0 := Zp w (.cells #[.int .i64 d.key] 3) (.cells #[.int .i64 d.num] 3);have hp0 := Zg w #[.int .i64 d.key] 3;have hq0 := Zg (w.alloc (.cells #[.int .i64 d.key] 3)) #[.int .i64 d.num] 3;have hp1 := ((Zb (w.alloc (.cells #[.int .i64 d.key] 3)) (.cells #[.int .i64 d.num] 3)).block _ (Za hp0)).trans hp0;rw [World.size_alloc] at hq0;clear hp0;go_enter Tryz.func99, Tryz.ntmps99;go_wp2_with fail;refine (Zno 132 #[.pointer (some ⟨w.heap.size, 0, none⟩), .pointer (some ⟨w.heap.size + 1, 0, none⟩)] (Q9 d) S l _ _ Zhg (hl.grow g0) (by omega) (fun x a c w' _ hg _ => Zmy x d a c _ _ w' ((hg.block _ (Za hp1)).trans hp1) ((hg.block _ (Za hq0)).trans hq0))).mono ?_;rintro e w1 ⟨rfl, g1⟩;have gw1 := g0.trans g1;have hq1 := (g1.block _ (Za hq0)).trans hq0;clear g0 g1 hp1 hq0;have HI : Hid (∀ i, l.findIdx? (Q9 d) = some i → i < l.length) := fun i h => (List.findIdx?_eq_some_iff_getElem.1 h).1
 generalize l.findIdx? (Q9 d) = I at *;cases I with
 | none =>
  obtain rfl : R = ⟨l, 0, 6⟩ := HN.out rfl;simp only [Zv7];go_wp2_with fail;refine (Zal S l _ _ (hl.grow gw1) hn h8).mono ?_;rintro e w2 ⟨v2, css, rfl, hO, g2⟩;have gE := gw1.trans g2;have hE := (hO.lessR gw1.size).recs S;clear hO g2 gw1 hq1 hl;obtain ⟨a2, c2, rfl⟩ := hE.form;go_wp2_with fail;exact bodyPost_ret (v := .tuple #[.slice a2 l.length c2, .int .i64 0, .int .i64 6]) (by simp [results, Tryz.results99, go_sem]) rfl ⟨_, rfl, hE, gE⟩
 | some i =>
  have hi := HI.out i rfl;simp only [Zv7];obtain ⟨j, hj⟩ : ∃ j, j = i + 1 := ⟨_, rfl⟩;obtain rfl : R = ⟨l.take i ++ l.drop j, d.num, 0⟩ := by rw [hj]; exact HF.out i rfl
  have hij : i < j := by omega
  have hji : j < i + 2 := by omega
  have HJ : Hid ((i : Int) + 1 = (j : Int)) := by show _ = _; omega
  clear hj;go_wp2_with fail;obtain ⟨W, rfl⟩ : ∃ W : World, W = w1 := ⟨_, rfl⟩;have hlW := hl.grow gw1;refine Vp [px (.slice ao l.length cp), pl ((fun _ _ => True)), px (.int .i64 (i : Int)), px (.int .i64 (i : Int)), px (.int .i64 (j : Int)), pl ((fun _ _ => True)), px (.int .i64 d.num), pl1 5 ((fun v u _ => v = u)), px (.int .i64 d.num), px (.int .i64 0)] [none, none, none, none, none, some ((fun _ _ => True))] (Zbi W W.heap.size 1 5 l (l.take i ++ l.drop j)) (by kernel_rfl) (by kernel_rfl) ⟨se, Yj ((fun _ _ _ _ _ => trivial)), se, se, se, Yj ((fun _ _ _ _ _ => trivial)), se, (fun _ _ _ _ _ h => h), se, se, trivial⟩ ⟨⟨(fun _ => trivial), ⟨x5, .inr ((fun _ _ _ _ _ _ => trivial)), x5, x5, x5, .inl (by kernel_rfl), x5, .inl (by kernel_rfl), .inl (by kernel_rfl), .inl (by kernel_rfl), trivial⟩⟩, trivial⟩ ⟨n5, n5, n5, n5, n5, n5, n5, n5, n5, n5, trivial⟩ (Zbi.start _ _ _ _ _ _) ?_ ?_
  ·refine ⟨?_, ?_, ?_, ?_, ?_, ?_, ?_, ?_, ?_, ?_, trivial⟩
   ·exact Zt rfl fun a _ _ _ _ _ B A => Xn rfl B (Zl A 0 rfl)
   ·refine Zt rfl fun a B _ _ _ D C A => ?_;have e17 : a (.tmp 17) = _ := Ze A 0 rfl;refine Yf (f := 66) (args := #[.slice ao l.length cp]) ?_ ((Zal S l _ B (hlW.grow C.1) hn h8).mono ?_)
    ·clear A C D;go_simp;all_goals go_arith
    ·rintro e w2 ⟨v2, css, rfl, hO, g2⟩;exact ⟨_, rfl, g2, trivial, Zbi.own C (by decide) (D.not1 5 (by kernel_rfl)) g2 (hO.lessR C.1.size), trivial⟩
   ·exact Zt rfl fun a _ _ _ _ _ B A => Xn rfl B (Zl A 9 rfl)
   ·exact Zt rfl fun a _ _ _ _ _ B A => Xn rfl B (Zl A 9 rfl)
   ·refine Zt rfl fun a _ _ _ _ C B A => ?_;have e20 : a (.tmp 20) = _ := Ze A 3 rfl;have hJ := HJ.out;refine Qt ?_ B rfl;clear A B C;rw [← hJ];go_simp;all_goals go_arith
   ·refine Zt rfl fun a B _ _ _ D C A => ?_;have e18 : ((fun _ _ => True)) (a (.tmp 18)) B := Ze A 1 rfl;have e19 : a (.tmp 19) = _ := Ze A 2 rfl;have e21 : a (.tmp 21) = _ := Ze A 4 rfl;obtain ⟨css, hO⟩ := C.2.1 (D.rd 1 (by kernel_rfl)) D.un;replace hO : Yv Yo NoR W.heap.size (a (.tmp 18)) l css B := hO;refine Yf (f := 133) (args := #[a (.tmp 18), .int .i64 (i : Int), .int .i64 (j : Int)]) ?_ ((Znu W.heap.size l css _ B i j hij hji (by omega) hn hO).mono ?_)
    ·clear A C D hO;go_simp;all_goals go_arith
    ·rintro e w2 ⟨v2, css2, rfl, hO2, g2⟩;exact ⟨_, rfl, trivial, trivial, Zbi.gone C (Nat.le_refl _) g2 hO2, trivial⟩
   ·refine Zt rfl fun a _ _ _ _ C B A => ?_;have e5 : a (.tmp 5) = .pointer (some ⟨w.heap.size + 1, 0, none⟩) := Zl A 5 rfl;have y0 := Zc ((B.1.block _ (Za hq1)).trans hq1) 0 _ rfl;refine Qt ?_ B rfl;clear A B C;go_simp;all_goals go_arith
   ·refine Zt rfl fun a B _ _ _ _ C A => ?_;have e22 : ((fun _ _ => True)) (a (.tmp 22)) B := Ze A 5 rfl;exact Xm rfl C rfl
   ·exact Zt rfl fun a _ _ _ _ _ B A => Xm rfl B (Ze A 6 rfl)
   ·refine Zt rfl fun a _ C _ _ _ B A => ?_;exact Xm rfl B (C _)
  ·intro vs w' dn hdn hg ht;obtain ⟨(r17 : vs 0 = _), q18, (r19 : vs 2 = _), (r20 : vs 3 = _), (r21 : vs 4 = _), q22, (r23 : vs 6 = _), q6, (r7 : vs 8 = _), (r8 : vs 9 = _), -⟩ := ht;replace q18 : ((fun _ _ => True)) (vs 1) w' := q18;replace q22 : ((fun _ _ => True)) (vs 5) w' := q22;replace q6 : ((fun v u _ => v = u)) (vs 7) (vs 5) w' := q6;simp only [Yi, Act.put, List.setIfInBounds_toArray, List.set_cons_zero, List.set_cons_succ, Nat.reduceAdd, r17, r19, r20, r21, r23, r7, r8];clear r17 r19 r20 r21 r23 r7 r8;obtain ⟨css, hO⟩ := hg.2.2 (hdn 5 (by decide));have e7 : vs 7 = vs 5 := q6;rw [← e7] at hO;have hE := (hO.lessR gw1.size).recs S;have gE := gw1.trans hg.1;have HL : Hid _ := hE;clear hO hg hdn q6 e7 q18 q22 hlW hq1 hl hE;generalize vs 7 = v7 at *;go_wp2_with fail;exact bodyPost_ret (v := .tuple #[v7, .int .i64 d.num, .int .i64 0]) (by simp [results, Tryz.results99, go_sem]) rfl ⟨_, rfl, HL.out, gE⟩
def Zut (B : Nat) (r : Rec) (v : Value) (w : World) : Prop := ∃ a c g, v = .slice (some ⟨g, 0, none⟩) 1 1 ∧ w.heap[g]? = some (.cells #[.int .i64 r.kind, .int .i64 r.key, .int .i64 r.ver, .slice a r.data.length c] 61 (0, 0)) ∧ w.ownsRow B 5 1 (.slice a r.data.length c) r.data.length (r.data.map bv)
def K0 (W : World) (B o m b s : Nat) (xs : List Rec) (r : Rec) (dn : Nat → Bool) (f : Nat → Value) (w : World) : Prop :=
 Zn W w ∧ (dn o = true → dn s = false → ∃ css, Yv Yo NoR B (f o) xs css w) ∧ (dn m = true → dn s = false → Zb1 B r (f m) w) ∧ (dn b = true → dn s = false → Zut B r (f b) w) ∧ (dn s = true → ∃ css, Yv Yo NoR B (f s) (xs ++ [r]) css w)
theorem K0.start (W : World) (B o m b s : Nat) (xs : List Rec) (r : Rec) (f : Nat → Value) : K0 W B o m b s xs r (fun _ => false) f W.drew := by
 refine ⟨(Zn.refl _).drew, ?_, ?_, ?_, ?_⟩ <;> (intro h; cases h)
theorem K0.on {s : Nat} {w' : World} (h : K0 W B o m b s xs r dn f w) (hg : Zn w w') : K0 W B o m b s xs r dn f w' := by
 refine ⟨h.1.trans hg, fun h1 h2 => ?_, fun h1 h2 => ?_, fun h1 h2 => ?_, fun h1 => ?_⟩
 ·exact (h.2.1 h1 h2).imp fun _ x => x.grow hg
 ·exact (h.2.2.1 h1 h2).grow hg
 ·obtain ⟨a, c, g, k1, k2, k3⟩ := h.2.2.2.1 h1 h2;exact ⟨a, c, g, k1, (hg.block _ (Za k2)).trans k2, Yb k3 hg⟩
 ·exact (h.2.2.2.2 h1).imp fun _ x => x.grow hg
theorem K0.own {s : Nat} (h : K0 W B o m b s xs r dn f w) (n : m ≠ o ∧ b ≠ o ∧ s ≠ o) (hR : Yv Yo NoR B v xs css w) : K0 W B o m b s xs r (upd dn o) (Ks f o v) w := by
 obtain ⟨n1, n2, n3⟩ := n;refine ⟨h.1, fun _ _ => ⟨css, by rw [Q5]; exact hR⟩, fun h1 h2 => ?_, fun h1 h2 => ?_, fun h1 => ?_⟩
 ·rw [X8 n1] at h1; rw [X8 n3] at h2; rw [Vy n1]; exact h.2.2.1 h1 h2
 ·rw [X8 n2] at h1; rw [X8 n3] at h2; rw [Vy n2]; exact h.2.2.2.1 h1 h2
 ·rw [X8 n3] at h1; rw [Vy n3]; exact h.2.2.2.2 h1
theorem K0.made {s : Nat} (h : K0 W B o m b s xs r dn f w) (n : o ≠ m ∧ b ≠ m ∧ s ≠ m) (hR : Zb1 B r v w) : K0 W B o m b s xs r (upd dn m) (Ks f m v) w := by
 obtain ⟨n1, n2, n3⟩ := n;refine ⟨h.1, fun h1 h2 => ?_, fun _ _ => by rw [Q5]; exact hR, fun h1 h2 => ?_, fun h1 => ?_⟩
 ·rw [X8 n1] at h1; rw [X8 n3] at h2; rw [Vy n1]; exact h.2.1 h1 h2
 ·rw [X8 n2] at h1; rw [X8 n3] at h2; rw [Vy n2]; exact h.2.2.2.1 h1 h2
 ·rw [X8 n3] at h1; rw [Vy n3]; exact h.2.2.2.2 h1
theorem K0.built {s : Nat} (h : K0 W B o m b s xs r dn f w) (n : o ≠ b ∧ m ≠ b ∧ s ≠ b) (hR : Zut B r v w) : K0 W B o m b s xs r (upd dn b) (Ks f b v) w := by
 obtain ⟨n1, n2, n3⟩ := n;refine ⟨h.1, fun h1 h2 => ?_, fun h1 h2 => ?_, fun _ _ => by rw [Q5]; exact hR, fun h1 => ?_⟩
 ·rw [X8 n1] at h1; rw [X8 n3] at h2; rw [Vy n1]; exact h.2.1 h1 h2
 ·rw [X8 n2] at h1; rw [X8 n3] at h2; rw [Vy n2]; exact h.2.2.1 h1 h2
 ·rw [X8 n3] at h1; rw [Vy n3]; exact h.2.2.2.2 h1
theorem K0.app {s : Nat} (h : K0 W B o m b s xs r dn f w) (_n : o ≠ s) (ho : dn o = true) (hb : dn b = true) (hs : dn s = false) (hB : B = W.heap.size) (hx : xs.length ≤ 1000) :
  ∃ v' w', (Builtin.append_ #[58, 58] 58 #[f o, f b]).run Tryz.prog w = .ok v' w' ∧ K0 W B o m b s xs r (upd dn s) (Ks f s v') w' := by
 subst hB;obtain ⟨i0, hif, hz0, hz1, hz2⟩ := info_parts Kv;obtain ⟨css, hR⟩ := h.2.1 ho hs;obtain ⟨a, c, g, hf, hh, hown0⟩ := h.2.2.2.1 hb hs;have henc : Yo.enc (InS NoR W.heap.size w) w r [.int .i64 r.kind, .int .i64 r.key, .int .i64 r.ver, .slice a r.data.length c] := ⟨_, rfl, Zd6 NoR (Nat.le_refl _) hown0⟩;obtain ⟨v', w', hrun, hown, hgb, -⟩ := run_append_own (P := Tryz.prog) (w := w) W.heap.size 58 58 61 i0 _ 4 48 Tryz.underlying58 hif hz0 hz1 hz2 (by decide) (by decide) (f o) xs.length css.flatten hR.row ⟨g, 0, none⟩ 1 1 [.int .i64 r.kind, .int .i64 r.key, .int .i64 r.ver, .slice a r.data.length c] rfl (fun j u hj => by
  have : (⟨g, 0, none⟩ : Addr).add j = ⟨g, j, none⟩ := by
   unfold Addr.add;split
   ·rename_i h; rw [h]
   ·rw [Nat.zero_add]
  rw [this];exact Zc hh j u (by simpa using hj)) (fun u hu => Yo.one henc u hu) (by unfold maxLen; omega) (by omega) h.1.size
 have hR' : Yv Yo NoR W.heap.size v' (xs ++ [r]) (css ++ [[.int .i64 r.kind, .int .i64 r.key, .int .i64 r.ver, .slice a r.data.length c]]) w' := hR.ext (by decide) (fun _ h => h.elim) rfl (fun i hi => by
  obtain rfl : i = 0 := by simpa using hi
  exact ⟨_, rfl, henc⟩) hgb (by
   have e : [([.int .i64 r.kind, .int .i64 r.key, .int .i64 r.ver, .slice a r.data.length c] : List Value)].flatten = [.int .i64 r.kind, .int .i64 r.key, .int .i64 r.ver, .slice a r.data.length c] := by simp
   rw [e]; exact hown)
 refine ⟨v', w', by rw [hf]; exact hrun, Ya h.1 hgb (fun k hk => (hR.row.lt k hk).1), fun _ h2 => ?_, fun _ h2 => ?_, fun _ h2 => ?_, fun _ => ⟨_, by rw [Q5]; exact hR'⟩⟩
 ·rw [Kc] at h2; cases h2
 ·rw [Kc] at h2; cases h2
 ·rw [Kc] at h2; cases h2
theorem Zb1.less (h : Zb1 B r v w) (hb : B' ≤ B) : Zb1 B' r v w := by
 obtain ⟨a, c, h1, h2⟩ := h; exact ⟨a, c, h1, Yk h2 hb⟩
theorem Ztl (S : Nat → Prop) (l : List Rec) (d : Dd) (v : Value) (ad : Option Addr) (c : Nat) (w : World) (hr : Za2 l = true) (hw : Yq d = 0) (hl : Qs S w v l) (hd : Bytes w (.slice ad d.data.length c) d.data) (hk : d.kind ≠ 3) :
  Calls Tryz.prog 100 #[v, .agg #[.int .i64 d.kind, .int .i64 d.key, .int .i64 d.num, .slice ad d.data.length c]] w fun r w' => ∃ v', r = .returned (.tuple #[v', .int .i64 (doR l d).n, .int .i64 (doR l d).e]) ∧ Qs (Zs S w.heap.size) w' v' (doR l d).l ∧ Zn w w' := by
 obtain ⟨hn0, hb0⟩ := Zaf hr;have hn : l.length ≤ 1000 := by omega
 have h8 : ∀ x ∈ l, x.data.length ≤ 8 := fun x h => (hb0 x h).2.2
 obtain ⟨ao, cp, rfl⟩ := hl.form;obtain ⟨R, hR⟩ : ∃ R, R = doR l d := ⟨_, rfl⟩;rw [← hR];have HR : Hid (R = if 5 < l.length then ⟨l, 0, 9⟩ else if 60000 < Xy l then ⟨l, 0, 4⟩ else ⟨l ++ [Y1 d (Xy l)], Xy l, 0⟩) := by show R = _; rw [hR]; unfold doR; rw [if_neg hk]
 clear hR hb0 hn0;have g0 := Zb w (.cells #[.int .i64 d.kind, .int .i64 d.key, .int .i64 d.num, .slice ad d.data.length c] 47);have hD0 := Zg w #[.int .i64 d.kind, .int .i64 d.key, .int .i64 d.num, .slice ad d.data.length c] 47;go_enter Tryz.func100, Tryz.ntmps100;go_wp2_with fail;refine (Zxt S l _ _ hr (hl.grow g0)).mono ?_;rintro r w1 ⟨rfl, g1⟩;have gW := g0.trans g1;have hD := (g1.block _ (Za hD0)).trans hD0;clear g0 g1 hD0 hr;generalize Xy l = nx at *;have hlW := hl.grow gW;have hdW := Z1 hd gW;clear hl hd;by_cases h5 : 5 < l.length
 ·have hRR : R = ⟨l, 0, 9⟩ := by rw [HR.out, if_pos h5]
  subst hRR;clear HR hD;go_wp2_with fail;refine (Zal S l _ _ hlW hn h8).mono ?_;rintro e w2 ⟨v2, css, rfl, hO, g2⟩;have gE := gW.trans g2;have hE := (hO.lessR gW.size).recs S;clear hO g2 gW hlW;obtain ⟨a2, c2, rfl⟩ := hE.form;go_wp2_with fail;exact bodyPost_ret (v := .tuple #[.slice a2 l.length c2, .int .i64 0, .int .i64 9]) (by simp [results, Tryz.results100, go_sem]) rfl ⟨_, rfl, hE, gE⟩
 ·by_cases h6 : 60000 < nx
  ·have hRR : R = ⟨l, 0, 4⟩ := by rw [HR.out, if_neg h5, if_pos h6]
   subst hRR;clear HR hD;go_wp2_with fail;refine (Zal S l _ _ hlW hn h8).mono ?_;rintro e w2 ⟨v2, css, rfl, hO, g2⟩;have gE := gW.trans g2;have hE := (hO.lessR gW.size).recs S;clear hO g2 gW hlW;obtain ⟨a2, c2, rfl⟩ := hE.form;go_wp2_with fail;exact bodyPost_ret (v := .tuple #[.slice a2 l.length c2, .int .i64 0, .int .i64 4]) (by simp [results, Tryz.results100, go_sem]) rfl ⟨_, rfl, hE, gE⟩
  ·have hRR : R = ⟨l ++ [Y1 d nx], nx, 0⟩ := by rw [HR.out, if_neg h5, if_neg h6]
   subst hRR;clear HR;have HW : Hid _ := hw;have HK : Hid _ := hk;clear hw hk;obtain ⟨W, rfl⟩ : ∃ W : World, W = w1 := ⟨_, rfl⟩;go_wp2_with fail;refine Vp [px (.slice ao l.length cp), pl ((fun _ _ => True)), px (.agg #[.int .i64 d.kind, .int .i64 d.key, .int .i64 d.num, .slice ad d.data.length c]), px (.int .i64 nx), pl ((fun _ _ => True)), pl ((fun _ _ => True)), pl ((fun _ _ => True)), px (.int .i64 nx), pl1 6 ((fun v u _ => v = u)), px (.int .i64 nx), px (.int .i64 0)] [none, none, none, none, none, none, some ((fun _ _ => True))] (K0 W W.heap.size 1 4 5 6 l (Y1 d nx)) (by kernel_rfl) (by kernel_rfl) ⟨se, Yj ((fun _ _ _ _ _ => trivial)), se, se, Yj ((fun _ _ _ _ _ => trivial)), Yj ((fun _ _ _ _ _ => trivial)), Yj ((fun _ _ _ _ _ => trivial)), se, (fun _ _ _ _ _ h => h), se, se, trivial⟩ ⟨⟨(fun _ => trivial), ⟨x5, .inr ((fun _ _ _ _ _ _ => trivial)), x5, x5, .inr ((fun _ _ _ _ _ _ => trivial)), .inr ((fun _ _ _ _ _ _ => trivial)), .inl (by kernel_rfl), x5, .inl (by kernel_rfl), .inl (by kernel_rfl), .inl (by kernel_rfl), trivial⟩⟩, trivial⟩ ⟨n5, n5, n5, n5, n5, n5, n5, n5, n5, n5, n5, trivial⟩ (K0.start _ _ _ _ _ _ _ _) ?_ ?_
   ·refine ⟨?_, ?_, ?_, ?_, ?_, ?_, ?_, ?_, ?_, ?_, ?_, trivial⟩
    ·exact Zt rfl fun a _ _ _ _ _ B A => Xn rfl B (Zl A 0 rfl)
    ·refine Zt rfl fun a B _ _ _ D C A => ?_;have e21 : a (.tmp 21) = _ := Ze A 0 rfl;refine Yf (f := 66) (args := #[.slice ao l.length cp]) ?_ ((Zal S l _ B (hlW.grow C.1) hn h8).mono ?_)
     ·clear A C D;go_simp;all_goals go_arith
     ·rintro e w2 ⟨v2, css, rfl, hO, g2⟩;exact ⟨_, rfl, g2, trivial, K0.own (K0.on C g2) (by decide) (hO.lessR C.1.size), trivial⟩
    ·refine Zt rfl fun a _ _ _ _ C B A => ?_;have e3 : a (.tmp 3) = .pointer (some ⟨w.heap.size, 0, none⟩) := Zl A 3 rfl;have hx := (B.1.block _ (Za hD)).trans hD;obtain ⟨z0, z1, z2, z3⟩ := Z4 hx rfl rfl rfl rfl;refine Qt ?_ B rfl;clear A B C hx;go_simp;all_goals go_arith
    ·exact Zt rfl fun a _ _ _ _ _ B A => Xn rfl B (Zl A 7 rfl)
    ·refine Zt rfl fun a B _ _ _ D C A => ?_;have e23 : a (.tmp 23) = _ := Ze A 2 rfl;have e24 : a (.tmp 24) = _ := Ze A 3 rfl;refine Yf (f := 135) (args := #[.agg #[.int .i64 d.kind, .int .i64 d.key, .int .i64 d.num, .slice ad d.data.length c], .int .i64 nx]) ?_ ((Zh3 d nx ad c B HW.out HK.out (Z1 hdW C.1)).mono ?_)
     ·clear A C D;go_simp;all_goals go_arith
     ·rintro e w2 ⟨v2, rfl, hM, g2⟩;exact ⟨_, rfl, g2, trivial, K0.made (K0.on C g2) (by decide) (hM.less C.1.size), trivial⟩
    ·refine Zt rfl fun a w' _ _ _ C B A => ?_;have e25 : ((fun _ _ => True)) (a (.tmp 25)) w' := Ze A 4 rfl;obtain ⟨a9, c9, h9, ho9⟩ := B.2.2.1 (C.rd 4 (by kernel_rfl)) (C.not1 6 (by kernel_rfl));replace h9 : a (.tmp 25) = .agg #[.int .i64 (Y1 d nx).kind, .int .i64 (Y1 d nx).key, .int .i64 (Y1 d nx).ver, .slice a9 (Y1 d nx).data.length c9] := h9;refine Qu (v := .slice (some ⟨w'.heap.size, 0, none⟩) 1 1) (w' := w'.alloc (.cells #[.int .i64 (Y1 d nx).kind, .int .i64 (Y1 d nx).key, .int .i64 (Y1 d nx).ver, .slice a9 (Y1 d nx).data.length c9] 61)) ?_ (Zb _ _) (K0.built (K0.on B (Zb _ _)) (by decide) ⟨a9, c9, _, rfl, Zg _ _ _, Yb ho9 (Zb _ _)⟩) trivial;clear A B C ho9;go_simp;all_goals go_arith
    ·refine Zt rfl fun a w' _ _ _ C B A => ?_;have e22 : ((fun _ _ => True)) (a (.tmp 22)) w' := Ze A 1 rfl;have e26 : ((fun _ _ => True)) (a (.tmp 26)) w' := Ze A 5 rfl;obtain ⟨v', w2, hrun, hJ⟩ := K0.app B (by decide) (C.rd 1 (by kernel_rfl)) (C.rd 5 (by kernel_rfl)) C.un rfl hn;exact Qu (v := v') (w' := w2) (Q1 (.tmp 22) (.tmp 26) 58 rfl _ _ rfl rfl hrun) trivial hJ trivial
    ·exact Zt rfl fun a _ _ _ _ _ B A => Xn rfl B (Zl A 7 rfl)
    ·refine Zt rfl fun a B _ _ _ _ C A => ?_;have e27 : ((fun _ _ => True)) (a (.tmp 27)) B := Ze A 6 rfl;exact Xm rfl C rfl
    ·exact Zt rfl fun a _ _ _ _ _ B A => Xm rfl B (Ze A 7 rfl)
    ·refine Zt rfl fun a _ C _ _ _ B A => ?_;exact Xm rfl B (C _)
   ·intro vs w' dn hdn hg ht;obtain ⟨(r21 : vs 0 = _), q22, (r23 : vs 2 = _), (r24 : vs 3 = _), q25, q26, q27, (r28 : vs 7 = _), q4, (r5 : vs 9 = _), (r6 : vs 10 = _), -⟩ := ht;replace q22 : ((fun _ _ => True)) (vs 1) w' := q22;replace q25 : ((fun _ _ => True)) (vs 4) w' := q25;replace q26 : ((fun _ _ => True)) (vs 5) w' := q26;replace q27 : ((fun _ _ => True)) (vs 6) w' := q27;replace q4 : ((fun v u _ => v = u)) (vs 8) (vs 6) w' := q4;simp only [Yi, Act.put, List.setIfInBounds_toArray, List.set_cons_zero, List.set_cons_succ, Nat.reduceAdd, r21, r23, r24, r28, r5, r6];clear r21 r23 r24 r28 r5 r6;obtain ⟨css, hO⟩ := hg.2.2.2.2 (hdn 6 (by decide));have e8 : vs 8 = vs 6 := q4;rw [← e8] at hO;have hE := (hO.lessR gW.size).recs S;have gE := gW.trans hg.1;have HL : Hid _ := hE;clear hO hg hdn q4 e8 q22 q25 q26 q27 hlW hdW hD hE;generalize vs 8 = v8 at *;go_wp2_with fail;exact bodyPost_ret (v := .tuple #[v8, .int .i64 nx, .int .i64 0]) (by simp [results, Tryz.results100, go_sem]) rfl ⟨_, rfl, HL.out, gE⟩
theorem Zyz : Zy1 := by
 intro S l d v a c w hS hr hw hl hd;obtain ⟨hn0, hb0⟩ := Zaf hr;obtain ⟨ao, cp, rfl⟩ := hl.form;have g0 := Zb w (.cells #[.int .i64 d.kind, .int .i64 d.key, .int .i64 d.num, .slice a d.data.length c] 47);have hD0 := Zg w #[.int .i64 d.kind, .int .i64 d.key, .int .i64 d.num, .slice a d.data.length c] 47;have HD8 : Hid _ := (Zaa hw);obtain ⟨R, hR⟩ : ∃ R, R = doR l d := ⟨_, rfl⟩;rw [← hR];have HR : Hid _ := hR;have HU : Hid (∀ b, Zs S (w.heap.size) b → Zs S (w.heap.size) b) := fun _ h => h
 clear hR;go_enter Tryz.func65, Tryz.ntmps65;have HW : Hid _ := hw;go_wp2_with fail;refine (Zo1 d a c _ (by have := HD8.out; omega) (Z1 hd.p g0)).mono ?_;rw [HW.out];rintro e w1 ⟨rfl, g1⟩;have gW := g0.trans g1;have hD := (g1.block _ (Za hD0)).trans hD0;obtain ⟨y0, y1, y2, y3⟩ := Z4 hD rfl rfl rfl rfl;clear g0 g1 hD0 hD;by_cases hk : d.kind = 3
 ·have d3 : (d.kind == 3) = true := by simp [hk]
  have HK : Hid _ := hk;clear hk;go_wp2_with fail;refine (Znb S l d _ w1 (hl.grow gW) (by omega) (fun x h => (hb0 x h).2.2) HK.out).mono ?_;rw [← HR.out];rintro e w2 ⟨v2, rfl, hL, g2⟩;have gE := gW.trans g2;have hE : Qs (Zs S w.heap.size) w2 v2 R.l := hL.mono fun b h => Xq h (fun x => x) (fun x => Nat.le_trans gW.size x)
  clear hL g2 gW y0 y1 y2 y3 hl hd;go_wp2_with fail;exact bodyPost_ret (v := .tuple #[v2, .int .i64 R.n, .int .i64 R.e]) (by simp [results, Tryz.results65, go_sem]) rfl ⟨_, rfl, hE, gE⟩
 ·have d3 : (d.kind == 3) = false := by simp [hk]
  have HK : Hid _ := hk;clear hk;go_wp2_with fail;refine (Ztl S l d _ a c w1 hr HW.out (hl.grow gW) (Z1 hd.p gW) HK.out).mono ?_;rw [← HR.out];rintro e w2 ⟨v2, rfl, hL, g2⟩;have gE := gW.trans g2;have hE : Qs (Zs S w.heap.size) w2 v2 R.l := hL.mono fun b h => Xq h (fun x => x) (fun x => Nat.le_trans gW.size x)
  clear hL g2 gW y0 y1 y2 y3 hl hd;go_wp2_with fail;exact bodyPost_ret (v := .tuple #[v2, .int .i64 R.n, .int .i64 R.e]) (by simp [results, Tryz.results65, go_sem]) rfl ⟨_, rfl, hE, gE⟩
end Go.Proofs.YtpdnapbchcdhlacGreat
