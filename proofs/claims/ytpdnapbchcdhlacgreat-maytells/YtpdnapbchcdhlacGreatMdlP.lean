import Derived.Test.YtpdnapbchcdhlacGreatMdlG
set_option maxHeartbeats 8000000
namespace Go.Proofs.YtpdnapbchcdhlacGreat
set_option maxRecDepth 100000
open Go.RowKit Go.Deep
open Plain Reg
variable {B B' b m o : Nat} {W w w2 : World} {css : List (List Value)} {dn : Nat → Bool} {f : Nat → Value} {r : Rec} {v : Value} {xs zs : List Rec}
theorem Yw.lessR (h : Yw Yo NoR B v xs css w) (hb : B' ≤ B) : Yw Yo NoR B' v xs css w :=
 ⟨h.len, fun i hi => (h.each i hi).imp fun _ x => ⟨x.1, Yo.mono x.2 fun _ k => Xo k (fun y => y) fun y => ⟨Nat.le_trans hb y.1, y.2⟩⟩, Yj h.row hb⟩
theorem Yw.recs (S : Nat → Prop) (h : Yw Yo NoR B v xs css w) : Y2 (Zt S B) w v xs := h.slice.mono fun _ h => h.elim (fun x => x.elim) (fun x => .inr x)
theorem Zh0 (args : Array Value) (w : World) : (callFunc 132 args).run Tryz.prog w = .ok (.enter 132 args) w := by
 simp [callFunc, Tryz.func132, Tryz.f132, mark]
theorem Zn3 (x : Rec) (d : Dd) (a : Option Addr) (c g h : Nat) (w : World) (hp : w.heap[g]? = some (.cells #[.int .i64 d.key] 3 (0, 0))) (hq : w.heap[h]? = some (.cells #[.int .i64 d.num] 3 (0, 0))) :
  Calls Tryz.prog 132 #[.agg #[.int .i64 x.kind, .int .i64 x.key, .int .i64 x.ver, .slice a x.data.length c], .pointer (some ⟨g, 0, none⟩), .pointer (some ⟨h, 0, none⟩)] w fun e w' => e = .returned (.bool (Q5 d x)) ∧ Zn w w' := by
 have g0 := Zb w (.cells #[.int .i64 x.kind, .int .i64 x.key, .int .i64 x.ver, .slice a x.data.length c] 61);have y0 := Zc ((g0.block _ (Za hp)).trans hp) 0 _ rfl;have y1 := Zc ((g0.block _ (Za hq)).trans hq) 0 _ rfl;have HB : Hid (Q5 d x = decide (x.key = d.key ∧ x.ver = d.num)) := rfl;rw [HB.out];clear HB;by_cases hk : x.key = d.key
 ·have d1 : (x.key == d.key) = true := by simp [hk]
  by_cases hv : x.ver = d.num
  ·have d2 : (x.ver == d.num) = true := by simp [hv]
   have HD : Hid (decide (x.key = d.key ∧ x.ver = d.num) = true) := decide_eq_true ⟨hk, hv⟩;rw [HD.out];clear hk hv HD;go_enter Tryz.func132, Tryz.ntmps132;go_wp2_with fail;go_ret;exact ⟨rfl, g0⟩
  ·have d2 : (x.ver == d.num) = false := by simp [hv]
   have HD : Hid (decide (x.key = d.key ∧ x.ver = d.num) = false) := decide_eq_false fun h => hv h.2
   rw [HD.out];clear hk hv HD;go_enter Tryz.func132, Tryz.ntmps132;go_wp2_with fail;go_ret;exact ⟨rfl, g0⟩
 ·have d1 : (x.key == d.key) = false := by simp [hk]
  have HD : Hid (decide (x.key = d.key ∧ x.ver = d.num) = false) := decide_eq_false fun h => hk h.1
  rw [HD.out];clear hk HD;go_enter Tryz.func132, Tryz.ntmps132;go_wp2_with fail;go_ret;exact ⟨rfl, g0⟩
def Zbu (W : World) (B o s : Nat) (xs zs : List Rec) (dn : Nat → Bool) (f : Nat → Value) (w : World) : Prop :=
 Zn W w ∧ (dn o = true → dn s = false → ∃ css, Yw Yo NoR B (f o) xs css w) ∧ (dn s = true → ∃ css, Yw Yo NoR B (f s) zs css w)
theorem Zbu.start (W : World) (B o s : Nat) (xs zs : List Rec) (f : Nat → Value) : Zbu W B o s xs zs (fun _ => false) f W.drew := by
 refine ⟨(Zn.refl _).drew, ?_, ?_⟩ <;> (intro h; cases h)
theorem Zbu.own {s : Nat} (h : Zbu W B o s xs zs dn f w) (n : s ≠ o) (hs : dn s = false) (hg : Zn w w2) (hR : Yw Yo NoR B v xs css w2) : Zbu W B o s xs zs (upd dn o) (K2 f o v) w2 :=
 ⟨h.1.trans hg, fun _ _ => ⟨css, by rw [Vb]; exact hR⟩, fun h1 => by rw [Qd n, hs] at h1; cases h1⟩
theorem Zbu.gone {s : Nat} (h : Zbu W B o s xs zs dn f w) (hB : W.heap.size ≤ B) (hg : ∀ w0, Zn w0 w → w0.heap.size ≤ B → Zn w0 w2) (hR : Yw Yo NoR B v zs css w2) : Zbu W B o s xs zs (upd dn s) (K2 f s v) w2 :=
 ⟨hg W h.1 hB, (fun _ h1 => by rw [Kj] at h1; cases h1), fun _ => ⟨css, by rw [Vb]; exact hR⟩⟩
theorem Zog (S : Nat → Prop) (l : List Rec) (d : Dd) (v : Value) (w : World) (hl : Y2 S w v l) (hn : l.length ≤ 1000) (h8 : ∀ x ∈ l, x.data.length ≤ 8) (hk : d.kind = 3) :
  Calls Tryz.prog 99 #[v, .int .i64 d.key, .int .i64 d.num] w fun r w' => ∃ v', r = .returned (.tuple #[v', .int .i64 (doR l d).n, .int .i64 (doR l d).e]) ∧ Y2 (Zt S w.heap.size) w' v' (doR l d).l ∧ Zn w w' := by
 obtain ⟨ao, cp, rfl⟩ := hl.form;obtain ⟨R, hR⟩ : ∃ R, R = doR l d := ⟨_, rfl⟩;rw [← hR];have HF : Hid (∀ i, l.findIdx? (Q5 d) = some i → R = ⟨l.take i ++ l.drop (i + 1), d.num, 0⟩) := fun i h => by rw [hR]; unfold doR; rw [if_pos hk, h]
 have HN : Hid (l.findIdx? (Q5 d) = none → R = ⟨l, 0, 6⟩) := fun h => by rw [hR]; unfold doR; rw [if_pos hk, h]
 clear hR hk;have g0 := Zq w (.cells #[.int .i64 d.key] 3) (.cells #[.int .i64 d.num] 3);have hp0 := Zh w #[.int .i64 d.key] 3;have hq0 := Zh (w.alloc (.cells #[.int .i64 d.key] 3)) #[.int .i64 d.num] 3;have hp1 := ((Zb (w.alloc (.cells #[.int .i64 d.key] 3)) (.cells #[.int .i64 d.num] 3)).block _ (Za hp0)).trans hp0;rw [World.size_alloc] at hq0;clear hp0;go_enter Tryz.func99, Tryz.ntmps99;go_wp2_with fail;refine (Zg3 132 #[.pointer (some ⟨w.heap.size, 0, none⟩), .pointer (some ⟨w.heap.size + 1, 0, none⟩)] (Q5 d) S l _ _ Zh0 (hl.grow g0) (by omega) (fun x a c w' _ hg _ => Zn3 x d a c _ _ w' ((hg.block _ (Za hp1)).trans hp1) ((hg.block _ (Za hq0)).trans hq0))).mono ?_;rintro e w1 ⟨rfl, g1⟩;have gw1 := g0.trans g1;have hq1 := (g1.block _ (Za hq0)).trans hq0;clear g0 g1 hp1 hq0;have HI : Hid (∀ i, l.findIdx? (Q5 d) = some i → i < l.length) := fun i h => (List.findIdx?_eq_some_iff_getElem.1 h).1
 generalize l.findIdx? (Q5 d) = I at *;cases I with
 | none =>
  obtain rfl : R = ⟨l, 0, 6⟩ := HN.out rfl;simp only [Zhy];go_wp2_with fail;refine (Kl S l _ _ (hl.grow gw1) hn h8).mono ?_;rintro e w2 ⟨v2, css, rfl, hO, g2⟩;have gE := gw1.trans g2;have hE := (hO.lessR gw1.size).recs S;clear hO g2 gw1 hq1 hl;obtain ⟨a2, c2, rfl⟩ := hE.form;go_wp2_with fail;exact bodyPost_ret (v := .tuple #[.slice a2 l.length c2, .int .i64 0, .int .i64 6]) (by simp [results, Tryz.results99, go_sem]) rfl ⟨_, rfl, hE, gE⟩
 | some i =>
  have hi := HI.out i rfl;simp only [Zhy];obtain ⟨j, hj⟩ : ∃ j, j = i + 1 := ⟨_, rfl⟩;obtain rfl : R = ⟨l.take i ++ l.drop j, d.num, 0⟩ := by rw [hj]; exact HF.out i rfl
  have hij : i < j := by omega
  have hji : j < i + 2 := by omega
  have HJ : Hid ((i : Int) + 1 = (j : Int)) := by show _ = _; omega
  clear hj;go_wp2_with fail;obtain ⟨W, rfl⟩ : ∃ W : World, W = w1 := ⟨_, rfl⟩;have hlW := hl.grow gw1;refine Vu [px (.slice ao l.length cp), pl ((fun _ _ => True)), px (.int .i64 (i : Int)), px (.int .i64 (i : Int)), px (.int .i64 (j : Int)), pl ((fun _ _ => True)), px (.int .i64 d.num), pl1 5 ((fun v u _ => v = u)), px (.int .i64 d.num), px (.int .i64 0)] [none, none, none, none, none, some ((fun _ _ => True))] (Zbu W W.heap.size 1 5 l (l.take i ++ l.drop j)) (by kernel_rfl) (by kernel_rfl) ⟨se, Yk ((fun _ _ _ _ _ => trivial)), se, se, se, Yk ((fun _ _ _ _ _ => trivial)), se, (fun _ _ _ _ _ h => h), se, se, trivial⟩ ⟨⟨(fun _ => trivial), ⟨x5, .inr ((fun _ _ _ _ _ _ => trivial)), x5, x5, x5, .inl (by kernel_rfl), x5, .inl (by kernel_rfl), .inl (by kernel_rfl), .inl (by kernel_rfl), trivial⟩⟩, trivial⟩ ⟨n5, n5, n5, n5, n5, n5, n5, n5, n5, n5, trivial⟩ (Zbu.start _ _ _ _ _ _) ?_ ?_
  ·refine ⟨?_, ?_, ?_, ?_, ?_, ?_, ?_, ?_, ?_, ?_, trivial⟩
   ·exact Zu rfl fun a _ _ _ _ _ B A => Xp rfl B (Zm A 0 rfl)
   ·refine Zu rfl fun a B _ _ _ D C A => ?_;have e17 : a (.tmp 17) = _ := Zf A 0 rfl;refine Yf (f := 66) (args := #[.slice ao l.length cp]) ?_ ((Kl S l _ B (hlW.grow C.1) hn h8).mono ?_)
    ·clear A C D;go_simp;all_goals go_arith
    ·rintro e w2 ⟨v2, css, rfl, hO, g2⟩;exact ⟨_, rfl, g2, trivial, Zbu.own C (by decide) (D.not1 5 (by kernel_rfl)) g2 (hO.lessR C.1.size), trivial⟩
   ·exact Zu rfl fun a _ _ _ _ _ B A => Xp rfl B (Zm A 9 rfl)
   ·exact Zu rfl fun a _ _ _ _ _ B A => Xp rfl B (Zm A 9 rfl)
   ·refine Zu rfl fun a _ _ _ _ C B A => ?_;have e20 : a (.tmp 20) = _ := Zf A 3 rfl;have hJ := HJ.out;refine Qx ?_ B rfl;clear A B C;rw [← hJ];go_simp;all_goals go_arith
   ·refine Zu rfl fun a B _ _ _ D C A => ?_;have e18 : ((fun _ _ => True)) (a (.tmp 18)) B := Zf A 1 rfl;have e19 : a (.tmp 19) = _ := Zf A 2 rfl;have e21 : a (.tmp 21) = _ := Zf A 4 rfl;obtain ⟨css, hO⟩ := C.2.1 (D.rd 1 (by kernel_rfl)) D.un;replace hO : Yw Yo NoR W.heap.size (a (.tmp 18)) l css B := hO;refine Yf (f := 133) (args := #[a (.tmp 18), .int .i64 (i : Int), .int .i64 (j : Int)]) ?_ ((Zo0 W.heap.size l css _ B i j hij hji (by omega) hn hO).mono ?_)
    ·clear A C D hO;go_simp;all_goals go_arith
    ·rintro e w2 ⟨v2, css2, rfl, hO2, g2⟩;exact ⟨_, rfl, trivial, trivial, Zbu.gone C (Nat.le_refl _) g2 hO2, trivial⟩
   ·refine Zu rfl fun a _ _ _ _ C B A => ?_;have e5 : a (.tmp 5) = .pointer (some ⟨w.heap.size + 1, 0, none⟩) := Zm A 5 rfl;have y0 := Zc ((B.1.block _ (Za hq1)).trans hq1) 0 _ rfl;refine Qx ?_ B rfl;clear A B C;go_simp;all_goals go_arith
   ·refine Zu rfl fun a B _ _ _ _ C A => ?_;have e22 : ((fun _ _ => True)) (a (.tmp 22)) B := Zf A 5 rfl;exact Xn rfl C rfl
   ·exact Zu rfl fun a _ _ _ _ _ B A => Xn rfl B (Zf A 6 rfl)
   ·refine Zu rfl fun a _ C _ _ _ B A => ?_;exact Xn rfl B (C _)
  ·intro vs w' dn hdn hg ht;obtain ⟨(r17 : vs 0 = _), q18, (r19 : vs 2 = _), (r20 : vs 3 = _), (r21 : vs 4 = _), q22, (r23 : vs 6 = _), q6, (r7 : vs 8 = _), (r8 : vs 9 = _), -⟩ := ht;replace q18 : ((fun _ _ => True)) (vs 1) w' := q18;replace q22 : ((fun _ _ => True)) (vs 5) w' := q22;replace q6 : ((fun v u _ => v = u)) (vs 7) (vs 5) w' := q6;simp only [Ye, Act.put, List.setIfInBounds_toArray, List.set_cons_zero, List.set_cons_succ, Nat.reduceAdd, r17, r19, r20, r21, r23, r7, r8];clear r17 r19 r20 r21 r23 r7 r8;obtain ⟨css, hO⟩ := hg.2.2 (hdn 5 (by decide));have e7 : vs 7 = vs 5 := q6;rw [← e7] at hO;have hE := (hO.lessR gw1.size).recs S;have gE := gw1.trans hg.1;have HL : Hid _ := hE;clear hO hg hdn q6 e7 q18 q22 hlW hq1 hl hE;generalize vs 7 = v7 at *;go_wp2_with fail;exact bodyPost_ret (v := .tuple #[v7, .int .i64 d.num, .int .i64 0]) (by simp [results, Tryz.results99, go_sem]) rfl ⟨_, rfl, HL.out, gE⟩
def Zwg (B : Nat) (r : Rec) (v : Value) (w : World) : Prop := ∃ a c g, v = .slice (some ⟨g, 0, none⟩) 1 1 ∧ w.heap[g]? = some (.cells #[.int .i64 r.kind, .int .i64 r.key, .int .i64 r.ver, .slice a r.data.length c] 61 (0, 0)) ∧ w.ownsRow B 5 1 (.slice a r.data.length c) r.data.length (r.data.map bv)
def Jb (W : World) (B o m b s : Nat) (xs : List Rec) (r : Rec) (dn : Nat → Bool) (f : Nat → Value) (w : World) : Prop :=
 Zn W w ∧ (dn o = true → dn s = false → ∃ css, Yw Yo NoR B (f o) xs css w) ∧ (dn m = true → dn s = false → Zce B r (f m) w) ∧ (dn b = true → dn s = false → Zwg B r (f b) w) ∧ (dn s = true → ∃ css, Yw Yo NoR B (f s) (xs ++ [r]) css w)
theorem Jb.start (W : World) (B o m b s : Nat) (xs : List Rec) (r : Rec) (f : Nat → Value) : Jb W B o m b s xs r (fun _ => false) f W.drew := by
 refine ⟨(Zn.refl _).drew, ?_, ?_, ?_, ?_⟩ <;> (intro h; cases h)
theorem Jb.on {s : Nat} {w' : World} (h : Jb W B o m b s xs r dn f w) (hg : Zn w w') : Jb W B o m b s xs r dn f w' := by
 refine ⟨h.1.trans hg, fun h1 h2 => ?_, fun h1 h2 => ?_, fun h1 h2 => ?_, fun h1 => ?_⟩
 ·exact (h.2.1 h1 h2).imp fun _ x => x.grow hg
 ·exact (h.2.2.1 h1 h2).grow hg
 ·obtain ⟨a, c, g, k1, k2, k3⟩ := h.2.2.2.1 h1 h2;exact ⟨a, c, g, k1, (hg.block _ (Za k2)).trans k2, Yd k3 hg⟩
 ·exact (h.2.2.2.2 h1).imp fun _ x => x.grow hg
theorem Jb.own {s : Nat} (h : Jb W B o m b s xs r dn f w) (n : m ≠ o ∧ b ≠ o ∧ s ≠ o) (hR : Yw Yo NoR B v xs css w) : Jb W B o m b s xs r (upd dn o) (K2 f o v) w := by
 obtain ⟨n1, n2, n3⟩ := n;refine ⟨h.1, fun _ _ => ⟨css, by rw [Vb]; exact hR⟩, fun h1 h2 => ?_, fun h1 h2 => ?_, fun h1 => ?_⟩
 ·rw [Qd n1] at h1; rw [Qd n3] at h2; rw [V4 n1]; exact h.2.2.1 h1 h2
 ·rw [Qd n2] at h1; rw [Qd n3] at h2; rw [V4 n2]; exact h.2.2.2.1 h1 h2
 ·rw [Qd n3] at h1; rw [V4 n3]; exact h.2.2.2.2 h1
theorem Jb.made {s : Nat} (h : Jb W B o m b s xs r dn f w) (n : o ≠ m ∧ b ≠ m ∧ s ≠ m) (hR : Zce B r v w) : Jb W B o m b s xs r (upd dn m) (K2 f m v) w := by
 obtain ⟨n1, n2, n3⟩ := n;refine ⟨h.1, fun h1 h2 => ?_, fun _ _ => by rw [Vb]; exact hR, fun h1 h2 => ?_, fun h1 => ?_⟩
 ·rw [Qd n1] at h1; rw [Qd n3] at h2; rw [V4 n1]; exact h.2.1 h1 h2
 ·rw [Qd n2] at h1; rw [Qd n3] at h2; rw [V4 n2]; exact h.2.2.2.1 h1 h2
 ·rw [Qd n3] at h1; rw [V4 n3]; exact h.2.2.2.2 h1
theorem Jb.built {s : Nat} (h : Jb W B o m b s xs r dn f w) (n : o ≠ b ∧ m ≠ b ∧ s ≠ b) (hR : Zwg B r v w) : Jb W B o m b s xs r (upd dn b) (K2 f b v) w := by
 obtain ⟨n1, n2, n3⟩ := n;refine ⟨h.1, fun h1 h2 => ?_, fun h1 h2 => ?_, fun _ _ => by rw [Vb]; exact hR, fun h1 => ?_⟩
 ·rw [Qd n1] at h1; rw [Qd n3] at h2; rw [V4 n1]; exact h.2.1 h1 h2
 ·rw [Qd n2] at h1; rw [Qd n3] at h2; rw [V4 n2]; exact h.2.2.1 h1 h2
 ·rw [Qd n3] at h1; rw [V4 n3]; exact h.2.2.2.2 h1
theorem Jb.app {s : Nat} (h : Jb W B o m b s xs r dn f w) (_n : o ≠ s) (ho : dn o = true) (hb : dn b = true) (hs : dn s = false) (hB : B = W.heap.size) (hx : xs.length ≤ 1000) :
  ∃ v' w', (Builtin.append_ #[58, 58] 58 #[f o, f b]).run Tryz.prog w = .ok v' w' ∧ Jb W B o m b s xs r (upd dn s) (K2 f s v') w' := by
 subst hB;obtain ⟨i0, hif, hz0, hz1, hz2⟩ := info_parts K6;obtain ⟨css, hR⟩ := h.2.1 ho hs;obtain ⟨a, c, g, hf, hh, hown0⟩ := h.2.2.2.1 hb hs;have henc : Yo.enc (InS NoR W.heap.size w) w r [.int .i64 r.kind, .int .i64 r.key, .int .i64 r.ver, .slice a r.data.length c] := ⟨_, rfl, Zej NoR (Nat.le_refl _) hown0⟩;obtain ⟨v', w', hrun, hown, hgb, -⟩ := run_append_own (P := Tryz.prog) (w := w) W.heap.size 58 58 61 i0 _ 4 48 Tryz.underlying58 hif hz0 hz1 hz2 (by decide) (by decide) (f o) xs.length css.flatten hR.row ⟨g, 0, none⟩ 1 1 [.int .i64 r.kind, .int .i64 r.key, .int .i64 r.ver, .slice a r.data.length c] rfl (fun j u hj => by
  have : (⟨g, 0, none⟩ : Addr).add j = ⟨g, j, none⟩ := by
   unfold Addr.add;split
   ·rename_i h; rw [h]
   ·rw [Nat.zero_add]
  rw [this];exact Zc hh j u (by simpa using hj)) (fun u hu => Yo.one henc u hu) (by unfold maxLen; omega) (by omega) h.1.size
 have hR' : Yw Yo NoR W.heap.size v' (xs ++ [r]) (css ++ [[.int .i64 r.kind, .int .i64 r.key, .int .i64 r.ver, .slice a r.data.length c]]) w' := hR.ext (by decide) (fun _ h => h.elim) rfl (fun i hi => by
  obtain rfl : i = 0 := by simpa using hi
  exact ⟨_, rfl, henc⟩) hgb (by
   have e : [([.int .i64 r.kind, .int .i64 r.key, .int .i64 r.ver, .slice a r.data.length c] : List Value)].flatten = [.int .i64 r.kind, .int .i64 r.key, .int .i64 r.ver, .slice a r.data.length c] := by simp
   rw [e]; exact hown)
 refine ⟨v', w', by rw [hf]; exact hrun, Z6 h.1 hgb (fun k hk => (hR.row.lt k hk).1), fun _ h2 => ?_, fun _ h2 => ?_, fun _ h2 => ?_, fun _ => ⟨_, by rw [Vb]; exact hR'⟩⟩
 ·rw [Kj] at h2; cases h2
 ·rw [Kj] at h2; cases h2
 ·rw [Kj] at h2; cases h2
theorem Zce.less (h : Zce B r v w) (hb : B' ≤ B) : Zce B' r v w := by
 obtain ⟨a, c, h1, h2⟩ := h; exact ⟨a, c, h1, Yj h2 hb⟩
theorem Zu3 (S : Nat → Prop) (l : List Rec) (d : Dd) (v : Value) (ad : Option Addr) (c : Nat) (w : World) (hr : Q3 l = true) (hw : Yl d = 0) (hl : Y2 S w v l) (hd : Bytes w (.slice ad d.data.length c) d.data) (hk : d.kind ≠ 3) :
  Calls Tryz.prog 100 #[v, .agg #[.int .i64 d.kind, .int .i64 d.key, .int .i64 d.num, .slice ad d.data.length c]] w fun r w' => ∃ v', r = .returned (.tuple #[v', .int .i64 (doR l d).n, .int .i64 (doR l d).e]) ∧ Y2 (Zt S w.heap.size) w' v' (doR l d).l ∧ Zn w w' := by
 obtain ⟨hn0, hb0⟩ := Kc hr;have hn : l.length ≤ 1000 := by omega
 have h8 : ∀ x ∈ l, x.data.length ≤ 8 := fun x h => (hb0 x h).2.2
 obtain ⟨ao, cp, rfl⟩ := hl.form;obtain ⟨R, hR⟩ : ∃ R, R = doR l d := ⟨_, rfl⟩;rw [← hR];have HR : Hid (R = if 5 < l.length then ⟨l, 0, 9⟩ else if 60000 < Xt l then ⟨l, 0, 4⟩ else ⟨l ++ [Xy d (Xt l)], Xt l, 0⟩) := by show R = _; rw [hR]; unfold doR; rw [if_neg hk]
 clear hR hb0 hn0;have g0 := Zb w (.cells #[.int .i64 d.kind, .int .i64 d.key, .int .i64 d.num, .slice ad d.data.length c] 47);have hD0 := Zh w #[.int .i64 d.kind, .int .i64 d.key, .int .i64 d.num, .slice ad d.data.length c] 47;go_enter Tryz.func100, Tryz.ntmps100;go_wp2_with fail;refine (Zzi S l _ _ hr (hl.grow g0)).mono ?_;rintro r w1 ⟨rfl, g1⟩;have gW := g0.trans g1;have hD := (g1.block _ (Za hD0)).trans hD0;clear g0 g1 hD0 hr;generalize Xt l = nx at *;have hlW := hl.grow gW;have hdW := Z3 hd gW;clear hl hd;by_cases h5 : 5 < l.length
 ·have hRR : R = ⟨l, 0, 9⟩ := by rw [HR.out, if_pos h5]
  subst hRR;clear HR hD;go_wp2_with fail;refine (Kl S l _ _ hlW hn h8).mono ?_;rintro e w2 ⟨v2, css, rfl, hO, g2⟩;have gE := gW.trans g2;have hE := (hO.lessR gW.size).recs S;clear hO g2 gW hlW;obtain ⟨a2, c2, rfl⟩ := hE.form;go_wp2_with fail;exact bodyPost_ret (v := .tuple #[.slice a2 l.length c2, .int .i64 0, .int .i64 9]) (by simp [results, Tryz.results100, go_sem]) rfl ⟨_, rfl, hE, gE⟩
 ·by_cases h6 : 60000 < nx
  ·have hRR : R = ⟨l, 0, 4⟩ := by rw [HR.out, if_neg h5, if_pos h6]
   subst hRR;clear HR hD;go_wp2_with fail;refine (Kl S l _ _ hlW hn h8).mono ?_;rintro e w2 ⟨v2, css, rfl, hO, g2⟩;have gE := gW.trans g2;have hE := (hO.lessR gW.size).recs S;clear hO g2 gW hlW;obtain ⟨a2, c2, rfl⟩ := hE.form;go_wp2_with fail;exact bodyPost_ret (v := .tuple #[.slice a2 l.length c2, .int .i64 0, .int .i64 4]) (by simp [results, Tryz.results100, go_sem]) rfl ⟨_, rfl, hE, gE⟩
  ·have hRR : R = ⟨l ++ [Xy d nx], nx, 0⟩ := by rw [HR.out, if_neg h5, if_neg h6]
   subst hRR;clear HR;have HW : Hid _ := hw;have HK : Hid _ := hk;clear hw hk;obtain ⟨W, rfl⟩ : ∃ W : World, W = w1 := ⟨_, rfl⟩;go_wp2_with fail;refine Vu [px (.slice ao l.length cp), pl ((fun _ _ => True)), px (.agg #[.int .i64 d.kind, .int .i64 d.key, .int .i64 d.num, .slice ad d.data.length c]), px (.int .i64 nx), pl ((fun _ _ => True)), pl ((fun _ _ => True)), pl ((fun _ _ => True)), px (.int .i64 nx), pl1 6 ((fun v u _ => v = u)), px (.int .i64 nx), px (.int .i64 0)] [none, none, none, none, none, none, some ((fun _ _ => True))] (Jb W W.heap.size 1 4 5 6 l (Xy d nx)) (by kernel_rfl) (by kernel_rfl) ⟨se, Yk ((fun _ _ _ _ _ => trivial)), se, se, Yk ((fun _ _ _ _ _ => trivial)), Yk ((fun _ _ _ _ _ => trivial)), Yk ((fun _ _ _ _ _ => trivial)), se, (fun _ _ _ _ _ h => h), se, se, trivial⟩ ⟨⟨(fun _ => trivial), ⟨x5, .inr ((fun _ _ _ _ _ _ => trivial)), x5, x5, .inr ((fun _ _ _ _ _ _ => trivial)), .inr ((fun _ _ _ _ _ _ => trivial)), .inl (by kernel_rfl), x5, .inl (by kernel_rfl), .inl (by kernel_rfl), .inl (by kernel_rfl), trivial⟩⟩, trivial⟩ ⟨n5, n5, n5, n5, n5, n5, n5, n5, n5, n5, n5, trivial⟩ (Jb.start _ _ _ _ _ _ _ _) ?_ ?_
   ·refine ⟨?_, ?_, ?_, ?_, ?_, ?_, ?_, ?_, ?_, ?_, ?_, trivial⟩
    ·exact Zu rfl fun a _ _ _ _ _ B A => Xp rfl B (Zm A 0 rfl)
    ·refine Zu rfl fun a B _ _ _ D C A => ?_;have e21 : a (.tmp 21) = _ := Zf A 0 rfl;refine Yf (f := 66) (args := #[.slice ao l.length cp]) ?_ ((Kl S l _ B (hlW.grow C.1) hn h8).mono ?_)
     ·clear A C D;go_simp;all_goals go_arith
     ·rintro e w2 ⟨v2, css, rfl, hO, g2⟩;exact ⟨_, rfl, g2, trivial, Jb.own (Jb.on C g2) (by decide) (hO.lessR C.1.size), trivial⟩
    ·refine Zu rfl fun a _ _ _ _ C B A => ?_;have e3 : a (.tmp 3) = .pointer (some ⟨w.heap.size, 0, none⟩) := Zm A 3 rfl;have hx := (B.1.block _ (Za hD)).trans hD;obtain ⟨z0, z1, z2, z3⟩ := Z7 hx rfl rfl rfl rfl;refine Qx ?_ B rfl;clear A B C hx;go_simp;all_goals go_arith
    ·exact Zu rfl fun a _ _ _ _ _ B A => Xp rfl B (Zm A 7 rfl)
    ·refine Zu rfl fun a B _ _ _ D C A => ?_;have e23 : a (.tmp 23) = _ := Zf A 2 rfl;have e24 : a (.tmp 24) = _ := Zf A 3 rfl;refine Yf (f := 135) (args := #[.agg #[.int .i64 d.kind, .int .i64 d.key, .int .i64 d.num, .slice ad d.data.length c], .int .i64 nx]) ?_ ((Zit d nx ad c B HW.out HK.out (Z3 hdW C.1)).mono ?_)
     ·clear A C D;go_simp;all_goals go_arith
     ·rintro e w2 ⟨v2, rfl, hM, g2⟩;exact ⟨_, rfl, g2, trivial, Jb.made (Jb.on C g2) (by decide) (hM.less C.1.size), trivial⟩
    ·refine Zu rfl fun a w' _ _ _ C B A => ?_;have e25 : ((fun _ _ => True)) (a (.tmp 25)) w' := Zf A 4 rfl;obtain ⟨a9, c9, h9, ho9⟩ := B.2.2.1 (C.rd 4 (by kernel_rfl)) (C.not1 6 (by kernel_rfl));replace h9 : a (.tmp 25) = .agg #[.int .i64 (Xy d nx).kind, .int .i64 (Xy d nx).key, .int .i64 (Xy d nx).ver, .slice a9 (Xy d nx).data.length c9] := h9;refine Qy (v := .slice (some ⟨w'.heap.size, 0, none⟩) 1 1) (w' := w'.alloc (.cells #[.int .i64 (Xy d nx).kind, .int .i64 (Xy d nx).key, .int .i64 (Xy d nx).ver, .slice a9 (Xy d nx).data.length c9] 61)) ?_ (Zb _ _) (Jb.built (Jb.on B (Zb _ _)) (by decide) ⟨a9, c9, _, rfl, Zh _ _ _, Yd ho9 (Zb _ _)⟩) trivial;clear A B C ho9;go_simp;all_goals go_arith
    ·refine Zu rfl fun a w' _ _ _ C B A => ?_;have e22 : ((fun _ _ => True)) (a (.tmp 22)) w' := Zf A 1 rfl;have e26 : ((fun _ _ => True)) (a (.tmp 26)) w' := Zf A 5 rfl;obtain ⟨v', w2, hrun, hJ⟩ := Jb.app B (by decide) (C.rd 1 (by kernel_rfl)) (C.rd 5 (by kernel_rfl)) C.un rfl hn;exact Qy (v := v') (w' := w2) (Q7 (.tmp 22) (.tmp 26) 58 rfl _ _ rfl rfl hrun) trivial hJ trivial
    ·exact Zu rfl fun a _ _ _ _ _ B A => Xp rfl B (Zm A 7 rfl)
    ·refine Zu rfl fun a B _ _ _ _ C A => ?_;have e27 : ((fun _ _ => True)) (a (.tmp 27)) B := Zf A 6 rfl;exact Xn rfl C rfl
    ·exact Zu rfl fun a _ _ _ _ _ B A => Xn rfl B (Zf A 7 rfl)
    ·refine Zu rfl fun a _ C _ _ _ B A => ?_;exact Xn rfl B (C _)
   ·intro vs w' dn hdn hg ht;obtain ⟨(r21 : vs 0 = _), q22, (r23 : vs 2 = _), (r24 : vs 3 = _), q25, q26, q27, (r28 : vs 7 = _), q4, (r5 : vs 9 = _), (r6 : vs 10 = _), -⟩ := ht;replace q22 : ((fun _ _ => True)) (vs 1) w' := q22;replace q25 : ((fun _ _ => True)) (vs 4) w' := q25;replace q26 : ((fun _ _ => True)) (vs 5) w' := q26;replace q27 : ((fun _ _ => True)) (vs 6) w' := q27;replace q4 : ((fun v u _ => v = u)) (vs 8) (vs 6) w' := q4;simp only [Ye, Act.put, List.setIfInBounds_toArray, List.set_cons_zero, List.set_cons_succ, Nat.reduceAdd, r21, r23, r24, r28, r5, r6];clear r21 r23 r24 r28 r5 r6;obtain ⟨css, hO⟩ := hg.2.2.2.2 (hdn 6 (by decide));have e8 : vs 8 = vs 6 := q4;rw [← e8] at hO;have hE := (hO.lessR gW.size).recs S;have gE := gW.trans hg.1;have HL : Hid _ := hE;clear hO hg hdn q4 e8 q22 q25 q26 q27 hlW hdW hD hE;generalize vs 8 = v8 at *;go_wp2_with fail;exact bodyPost_ret (v := .tuple #[v8, .int .i64 nx, .int .i64 0]) (by simp [results, Tryz.results100, go_sem]) rfl ⟨_, rfl, HL.out, gE⟩
theorem Zz8 : Z0t := by
 intro S l d v a c w hS hr hw hl hd;obtain ⟨hn0, hb0⟩ := Kc hr;obtain ⟨ao, cp, rfl⟩ := hl.form;have g0 := Zb w (.cells #[.int .i64 d.kind, .int .i64 d.key, .int .i64 d.num, .slice a d.data.length c] 47);have hD0 := Zh w #[.int .i64 d.kind, .int .i64 d.key, .int .i64 d.num, .slice a d.data.length c] 47;have HD8 : Hid _ := (Vy hw);obtain ⟨R, hR⟩ : ∃ R, R = doR l d := ⟨_, rfl⟩;rw [← hR];have HR : Hid _ := hR;have HU : Hid (∀ b, Zt S (w.heap.size) b → Zt S (w.heap.size) b) := fun _ h => h
 clear hR;go_enter Tryz.func65, Tryz.ntmps65;have HW : Hid _ := hw;go_wp2_with fail;refine (Zqa d a c _ (by have := HD8.out; omega) (Z3 hd.p g0)).mono ?_;rw [HW.out];rintro e w1 ⟨rfl, g1⟩;have gW := g0.trans g1;have hD := (g1.block _ (Za hD0)).trans hD0;obtain ⟨y0, y1, y2, y3⟩ := Z7 hD rfl rfl rfl rfl;clear g0 g1 hD0 hD;by_cases hk : d.kind = 3
 ·have d3 : (d.kind == 3) = true := by simp [hk]
  have HK : Hid _ := hk;clear hk;go_wp2_with fail;refine (Zog S l d _ w1 (hl.grow gW) (by omega) (fun x h => (hb0 x h).2.2) HK.out).mono ?_;rw [← HR.out];rintro e w2 ⟨v2, rfl, hL, g2⟩;have gE := gW.trans g2;have hE : Y2 (Zt S w.heap.size) w2 v2 R.l := hL.mono fun b h => Xo h (fun x => x) (fun x => Nat.le_trans gW.size x)
  clear hL g2 gW y0 y1 y2 y3 hl hd;go_wp2_with fail;exact bodyPost_ret (v := .tuple #[v2, .int .i64 R.n, .int .i64 R.e]) (by simp [results, Tryz.results65, go_sem]) rfl ⟨_, rfl, hE, gE⟩
 ·have d3 : (d.kind == 3) = false := by simp [hk]
  have HK : Hid _ := hk;clear hk;go_wp2_with fail;refine (Zu3 S l d _ a c w1 hr HW.out (hl.grow gW) (Z3 hd.p gW) HK.out).mono ?_;rw [← HR.out];rintro e w2 ⟨v2, rfl, hL, g2⟩;have gE := gW.trans g2;have hE : Y2 (Zt S w.heap.size) w2 v2 R.l := hL.mono fun b h => Xo h (fun x => x) (fun x => Nat.le_trans gW.size x)
  clear hL g2 gW y0 y1 y2 y3 hl hd;go_wp2_with fail;exact bodyPost_ret (v := .tuple #[v2, .int .i64 R.n, .int .i64 R.e]) (by simp [results, Tryz.results65, go_sem]) rfl ⟨_, rfl, hE, gE⟩
theorem Zed {l : List Ent} (h : Q4 l = true) (h6 : l.length ≤ 6) : Q3 (l.map Ent.rc) = true := by
 rw [Zbc];refine ⟨fun r hr => ?_, by rw [List.length_map]; omega⟩;obtain ⟨x, hx, rfl⟩ := List.mem_map.1 hr;have := ((Xv l).1 h).2 x hx;exact ⟨this.1, this.2.1⟩
theorem Zdq (S : Nat → Prop) (s : St) (v : Value) (w : World) (hs : Z8 S s v w) (hn : s.idx.length ≤ 1000) (h8 : ∀ r ∈ s.recs, r.data.length ≤ 8) :
  Calls Tryz.prog 97 #[v] w fun r w' => ∃ v' css, r = .returned v' ∧ Yw Yo NoR w.heap.size v' s.recs css w' ∧ Zn w w' := by
 obtain ⟨ab, cb, al, cl, ai, ci, rfl, -, -, hi⟩ := hs.form;have g00 := Zb w (.cells #[.slice ab s.dk.blocks.length cb, .slice al s.dk.late.length cl, .slice ai s.idx.length ci, .int .i64 s.next] 29);have hx := Zh w #[.slice ab s.dk.blocks.length cb, .slice al s.dk.late.length cl, .slice ai s.idx.length ci, .int .i64 s.next] 29;have x2 := Zc hx 2 _ rfl;have s00 := World.size_alloc w (.cells #[.slice ab s.dk.blocks.length cb, .slice al s.dk.late.length cl, .slice ai s.idx.length ci, .int .i64 s.next] 29);have hln : s.recs.length = s.idx.length := List.length_map ..;have HLN : Hid _ := hln;obtain ⟨c0, hc0, mk⟩ := Zlz (w.alloc (.cells #[.slice ab s.dk.blocks.length cb, .slice al s.dk.late.length cl, .slice ai s.idx.length ci, .int .i64 s.next] 29)) s.idx.length hn;have g0 := g00.trans (Zb (w.alloc (.cells #[.slice ab s.dk.blocks.length cb, .slice al s.dk.late.length cl, .slice ai s.idx.length ci, .int .i64 s.next] 29)) (.cells c0 61));have hF0 : Jg (w.heap.size + 1) s.recs 0 c0 ((w.alloc (.cells #[.slice ab s.dk.blocks.length cb, .slice al s.dk.late.length cl, .slice ai s.idx.length ci, .int .i64 s.next] 29)).alloc (.cells c0 61)) := ⟨by rw [← s00]; exact Zh _ _ _, by rw [hln]; exact hc0, fun i _ h => by omega⟩;have x2' := (Below.cell (Zb (w.alloc (.cells #[.slice ab s.dk.blocks.length cb, .slice al s.dk.late.length cl, .slice ai s.idx.length ci, .int .i64 s.next] 29)) (.cells c0 61)) (Zv x2)).trans x2;rw [s00] at mk;clear hs g00 hx hln;go_enter Tryz.func97, Tryz.ntmps97
 go_wp2_with fail;clear mk x2 x2';generalize World.alloc (World.alloc w _) _ = W at *;go_loopw [13] (fun i wr => ∃ k : Nat, k ≤ s.idx.length ∧ i = .int .i64 k ∧ Zn w wr ∧ ∃ cur, Jg (w.heap.size + 1) s.recs k cur wr) (fun i _ => s.idx.length - (intOf i).toNat)
 case atStart => exact ⟨0, Nat.zero_le _, rfl, g0, _, hF0⟩
 case round =>
  clear hF0 g0 hc0;obtain ⟨k, hk, rfl, hg, cur, hF⟩ := hrel;by_cases hlt : k < s.idx.length
  ·obtain ⟨b, off, a1, c1, hv1, q0, q1, q2, q3, q4, hu⟩ := Jm (hi.grow hg) k hlt;cases hv1;have hrk : k < s.recs.length := by rw [HLN.out]; exact hlt
   have HXR : Hid (s.recs[k] = s.idx[k].rc) := by show _ = _; simp [St.recs]
   have HB : Hid (s.idx[k].rc.data.length ≤ 8) := by show _ ≤ _; rw [← HXR.out]; exact h8 _ (List.getElem_mem hrk)
   have HP : Hid (∀ (w3 : World) (x0 x1 x2 x3 : Value), Jg (w.heap.size + 1) s.recs k cur w3 → Yo.enc (InS NoR (w.heap.size + 1) w3) w3 s.idx[k].rc [x0, x1, x2, x3] → _) := fun w3 x0 x1 x2 x3 h h2 => Jg.put h hrk (by rw [HXR.out]; exact h2)
   clear HXR;generalize s.idx[k] = x at *;have g1 := Zb wr (.cells #[.int .i64 x.rc.kind, .int .i64 x.rc.key, .int .i64 x.rc.ver, .slice a1 x.rc.data.length c1, .int .i64 x.pair] 92);have hX1 := Zh wr #[.int .i64 x.rc.kind, .int .i64 x.rc.key, .int .i64 x.rc.ver, .slice a1 x.rc.data.length c1, .int .i64 x.pair] 92;have hF1 := hF.grow g1;have hu1 := hu.grow g1;have gw1 := hg.trans g1;have HSZ : Hid (w.heap.size + 1 ≤ (wr.alloc (.cells #[.int .i64 x.rc.kind, .int .i64 x.rc.key, .int .i64 x.rc.ver, .slice a1 x.rc.data.length c1, .int .i64 x.pair] 92)).heap.size) := Nat.le_of_lt (Za hF1.row);clear hF hu hg g1;obtain ⟨x0, x1, x2, x3⟩ := Z7 hX1 rfl rfl rfl rfl;go_wp2_with fail;refine (Zfn x.rc.kind x.rc.key x.rc.ver x.rc.data _ _ (by have := HB.out; omega) hu1.p).mono ?_;rintro e w3 ⟨v3, rfl, ho, g3⟩;have hF3 := hF1.grow g3;have gw3 := gw1.trans g3;have hbi := Zej NoR HSZ.out ho;obtain ⟨a3, c3, rfl⟩ := Ya ho;have hp := HP.out w3 _ _ _ _ hF3 ⟨_, rfl, hbi⟩;have hsz : k * 4 + 4 ≤ cur.size := by rw [hF3.size]; omega
   have z0 := Zc hF3.row (k * 4) _ (Array.getElem?_eq_getElem (by omega));have z1 := Zc hF3.row (k * 4 + 1) _ (Array.getElem?_eq_getElem (by omega));have z2 := Zc hF3.row (k * 4 + 2) _ (Array.getElem?_eq_getElem (by omega));have z3 := Zc hF3.row (k * 4 + 3) _ (Array.getElem?_eq_getElem (by omega));have f0 := Zk hF3.row (k * 4);have f1 := Zk hF3.row (k * 4 + 1);have f2 := Zk hF3.row (k * 4 + 2);have f3 := Zk hF3.row (k * 4 + 3);have gE := (((((Zp.refl (w.heap.size + 1) w3).set (k * 4) none (.int .i64 x.rc.kind)).set (k * 4 + 1) none (.int .i64 x.rc.key)).set (k * 4 + 2) none (.int .i64 x.rc.ver)).set (k * 4 + 3) none (.slice a3 x.rc.data.length c3)).grow gw3 (by omega);generalize cur[k * 4]'(by omega) = y0 at z0;generalize cur[k * 4 + 1]'(by omega) = y1 at z1;generalize cur[k * 4 + 2]'(by omega) = y2 at z2;generalize cur[k * 4 + 3]'(by omega) = y3 at z3;clear hF3 hF1 hbi ho hsz HP x0 x1 x2 x3 hX1 hu1 gw1 gw3 g3 q0 q1 q2 q3 q4 HSZ;go_wp2_with fail;go_roundw
   case rel => exact ⟨k + 1, by omega, by go_num, gE, _, hp⟩
   case measure => simp [intOf]; omega
  ·obtain ⟨css, hE⟩ := hF.out (by rw [HLN.out]; omega) (by rw [HLN.out]; exact hn);have hE2 := hE.lessR (B' := w.heap.size) (by omega);rw [HLN.out] at hE2;clear hF hi hE;go_wp2_with fail;go_ret;exact ⟨_, css, rfl, hE2, hg⟩
theorem Ziu (S : Nat → Prop) (l : List Rec) (d : Dd) (v : Value) (a : Option Addr) (c : Nat) (w : World) (hr : Q3 l = true) (hw : Yl d ≠ 0) (hdl : d.data.length ≤ 140737488355328) (hl : Y2 S w v l) (hd : Bytes w (.slice a d.data.length c) d.data) :
  Calls Tryz.prog 65 #[v, .agg #[.int .i64 d.kind, .int .i64 d.key, .int .i64 d.num, .slice a d.data.length c]] w fun r w' => ∃ v', r = .returned (.tuple #[v', .int .i64 0, .int .i64 (Yl d)]) ∧ Y2 (Zt S w.heap.size) w' v' l ∧ Zn w w' := by
 obtain ⟨hn0, hb0⟩ := Kc hr;obtain ⟨ao, cp, rfl⟩ := hl.form;have g0 := Zb w (.cells #[.int .i64 d.kind, .int .i64 d.key, .int .i64 d.num, .slice a d.data.length c] 47);have hD0 := Zh w #[.int .i64 d.kind, .int .i64 d.key, .int .i64 d.num, .slice a d.data.length c] 47;obtain ⟨y0, y1, y2, y3⟩ := Z7 hD0 rfl rfl rfl rfl;clear hD0;obtain ⟨W, hW⟩ : ∃ W, W = Yl d := ⟨_, rfl⟩;rw [← hW] at hw ⊢;have HW : Hid _ := hW;have HD : Hid ((W != 0) = true) := by show _ = _; simpa using hw
 clear hw hW;go_enter Tryz.func65, Tryz.ntmps65;go_wp2_with fail;refine (Zqa d a c _ hdl (Z3 hd g0)).mono ?_;rw [← HW.out];rintro e w1 ⟨rfl, g1⟩;have gW := g0.trans g1;have d0 := HD.out;clear g0 g1 y0 y1 y2 y3 HW HD;go_wp2_with fail;refine (Kl S l _ w1 (hl.grow gW) (by omega) (fun x h => (hb0 x h).2.2)).mono ?_;rintro e w2 ⟨v2, css, rfl, hO, g2⟩;have gE := gW.trans g2;have hE : Y2 (Zt S w.heap.size) w2 v2 l := (hO.recs S).mono fun b h => Xo h (fun x => x) (fun x => Nat.le_trans gW.size x)
 obtain ⟨a2, c2, rfl⟩ := hE.form;clear hO g2 gW hl hd d0;go_wp2_with fail;exact bodyPost_ret (v := .tuple #[.slice a2 l.length c2, .int .i64 0, .int .i64 W]) (by simp [results, Tryz.results65, go_sem]) rfl ⟨_, rfl, hE, gE⟩
end Go.Proofs.YtpdnapbchcdhlacGreat
namespace Go.Proofs.YtpdnapbchcdhlacGreat
set_option maxRecDepth 100000
open Go.RowKit
open Plain Reg
theorem Zeh (d : Dk) (a : Int) (v : Value) (w : World) (hF : d.Fine 1000) (hd : Vf d v w) (h0 : 0 ≤ a) (h1 : a < 12) :
  Calls Tryz.prog 80 #[v, .int .i64 a] w fun e w' => ∃ dv, e = .returned (.tuple #[.agg #[.int .i64 (Y4 (Yq d a) a).kind, .int .i64 (Y4 (Yq d a) a).key, .int .i64 (Y4 (Yq d a) a).ver, dv], .int .i64 (Qf d a)]) ∧ w'.ownsRow w.heap.size 5 1 dv (Y4 (Yq d a) a).data.length ((Y4 (Yq d a) a).data.map bv) ∧ Zn w w' := by
 obtain ⟨ab, cb, al, cl, rfl, hb, hl⟩ := hd.form;rw [show Qf d a = X5 (Yq d a) a from rfl];obtain ⟨r, hr⟩ : ∃ r, r = Y4 (Yq d a) a := ⟨_, rfl⟩;obtain ⟨E, hE⟩ : ∃ E, E = X5 (Yq d a) a := ⟨_, rfl⟩;rw [← hr, ← hE];have HR : Hid _ := hr;have HX : Hid _ := hE;clear hr hE;have HE : Hid (d.getE a = 0) := by show d.getE a = 0; unfold Dk.getE; rw [if_neg (by rw [hF.len]; omega)]
 have hb16 := hF.b16;have hl16 := hF.l16;have hm2 : d.late.length ≤ 999990 := by have := hF.few; omega
 have gW := Zq w (.cells #[.slice ab d.blocks.length cb, .slice al d.late.length cl] 26) (.cells #[.int .i64 0, .int .i64 0, .int .i64 0, .slice none 0 0] 61);have hz : ((w.alloc (.cells #[.slice ab d.blocks.length cb, .slice al d.late.length cl] 26)).alloc (.cells #[.int .i64 0, .int .i64 0, .int .i64 0, .slice none 0 0] 61)).heap[w.heap.size + 1]? = some (.cells #[.int .i64 0, .int .i64 0, .int .i64 0, .slice none 0 0] 61 (0, 0)) := by
  have h := Zh (w.alloc (.cells #[.slice ab d.blocks.length cb, .slice al d.late.length cl] 26)) #[.int .i64 0, .int .i64 0, .int .i64 0, .slice none 0 0] 61;rw [World.size_alloc] at h;exact h
 have hbW := hb.grow gW;have hlW := hl.grow gW;clear hd hF hb hl h0 h1;go_enter Tryz.func80, Tryz.ntmps80;go_wp2_with fail;refine (Zxw d a _ _ _ hbW hlW hm2 hb16 hl16).mono ?_;rw [HE.out];rintro e w1 ⟨v1, rfl, ho, g1⟩;have hv : Bytes w1 v1 (Yq d a) := Qq ho;obtain ⟨a1, c1, rfl⟩ := Ya ho;have hz1 := (g1.block _ (Za hz)).trans hz;have gw1 := gW.trans g1;have hsz1 : w.heap.size + 1 < w1.heap.size := Za hz1;clear ho g1 gW hz hbW hlW hb16 hl16 hm2 HE;go_wp2_with fail;refine (Zua (Yq d a) a _ _ hv).mono ?_;rw [← HR.out, ← HX.out];rintro e w2 ⟨dv, rfl, ho2, g2⟩;have hz2 := (g2.block _ (Za hz1)).trans hz1;have gw2 := gw1.trans g2;obtain ⟨a2, c2, rfl⟩ := Ya ho2;obtain ⟨hp1, hp2⟩ := Yg hz2 (.int .i64 r.kind) (.int .i64 r.key) (.int .i64 r.ver) (.slice a2 r.data.length c2);have gE := hp2.grow gw2 (by omega);have hoE := Yj (Ks hp2 (by omega) ho2) (base' := w.heap.size) (by omega);obtain ⟨y0, y1, y2, y3⟩ := Z7 hz2 rfl rfl rfl rfl;obtain ⟨f0, f1, f2, f3⟩ := Yr hz2;have cs := Zr;clear hp1 hp2 hz1 hz2 gw1 gw2 g2 ho2 hv hsz1;go_wp2_with fail;exact bodyPost_ret (v := .tuple #[.agg #[.int .i64 r.kind, .int .i64 r.key, .int .i64 r.ver, .slice a2 r.data.length c2], .int .i64 E]) (by simp [results, Tryz.results80, go_sem, y0, y1, y2, y3, cs]) rfl ⟨_, rfl, hoE, gE⟩
end Go.Proofs.YtpdnapbchcdhlacGreat
