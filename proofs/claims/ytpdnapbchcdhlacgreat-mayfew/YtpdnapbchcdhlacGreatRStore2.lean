import Derived.Test.YtpdnapbchcdhlacGreatRowApp
set_option maxHeartbeats 8000000
namespace Go.Proofs.YtpdnapbchcdhlacGreat
set_option maxRecDepth 100000
open Go.RowKit
open Plain Reg
variable {g : Nat}
theorem Zbt {w : World} {T : TypeId} {f} {c0 c1 : Value} (h : w.heap[g]? = some (.cells #[c0, c1] T f)) (x0 x1 : Value) :
  ((w.setCell ⟨g, 0, none⟩ x0).setCell ⟨g, 1, none⟩ x1).heap[g]? = some (.cells #[x0, x1] T f) ∧ Zp g w ((w.setCell ⟨g, 0, none⟩ x0).setCell ⟨g, 1, none⟩ x1) :=
 ⟨Yb (Yb h 0 x0) 1 x1, ((Zp.refl g w).set _ _ _).set _ _ _⟩
abbrev Xm : Obj := .cells #[.slice none 0 0, .slice none 0 0, .slice none 0 0, .int .i64 0] 29 (0, 0)
def Kb (g : Nat) (w w' : World) : Prop := Zp g w w'
theorem Y6 {S : Nat → Prop} {B : Nat} (hS : ∀ b, S b → b < g) (hB : g < B) : ¬ Z2 S B g := fun h => h.elim (fun x => by have := hS g x; omega) (fun x => by omega)
def Zhw (S : Nat → Prop) (g : Nat) (s : St) (w : World) : Prop := ∃ v cs, v = .agg cs ∧ w.heap[g]? = some (.cells cs 29 (0, 0)) ∧ Yc S s v w
theorem Zl4 (S : Nat → Prop) (n : Nat) (d : Dk) (v : Value) (w : World) (hS : ∀ b, S b → b < w.heap.size) (hd : Yt S d v w) (hF : d.Fine n) (hn : n ≤ 1000) :
  Calls Tryz.prog 56 #[v] w fun r w' => ∃ v', r = .returned v' ∧ Yc (Z2 S w.heap.size) (Xy d) v' w' ∧ Zl w w' := by
 obtain ⟨ab, cb, al, cl, rfl, hb, hl⟩ := hd.form;have g0 := Zq w (.cells #[.slice ab d.blocks.length cb, .slice al d.late.length cl] 26) Xm;have hD0 := Zk w #[.slice ab d.blocks.length cb, .slice al d.late.length cl] 26;have hZ0 := Zk (w.alloc (.cells #[.slice ab d.blocks.length cb, .slice al d.late.length cl] 26)) #[.slice none 0 0, .slice none 0 0, .slice none 0 0, .int .i64 0] 29;have hDD := ((Zb (w.alloc (.cells #[.slice ab d.blocks.length cb, .slice al d.late.length cl] 26)) Xm).block _ (Za hD0)).trans hD0;rw [World.size_alloc] at hZ0;clear hD0 hb hl;have HF : Hid (d.Fine n) := hF;have HFK : Hid ((d.keep 0).Fine 0) := hF.kept 0;obtain ⟨K, hK⟩ : ∃ K, K = d.keep 0 := ⟨_, rfl⟩;have HM : Hid (Xy d = ⟨K, Z4 K 6, 0⟩) := by show _ = _; rw [hK]; rfl
 rw [HM.out];rw [← hK] at HFK;have HK : Hid _ := hK;clear hK hF HM;go_enter Tryz.func56, Tryz.ntmps56;go_wp2_with fail;obtain ⟨W, hW⟩ : ∃ W, W = (w.alloc (.cells #[.slice ab d.blocks.length cb, .slice al d.late.length cl] 26)).alloc Xm := ⟨_, rfl⟩;have hWs : W.heap.size = w.heap.size + 2 := by rw [hW]; simp
 rw [← hW] at g0 hDD hZ0 ⊢;clear hW;refine (Zur S n d 0 _ W (fun b h => by have := hS b h; omega) (hd.grow g0) HF.out hn).mono ?_;rw [← HK.out, hWs];rintro r w1 ⟨v1, rfl, h1, g1⟩;obtain ⟨b1, e1, l1, m1, rfl, h1b, h1l⟩ := h1.form;have hD1 := (g1.block _ (Za hDD)).trans hDD;have hZ1 := (g1.block _ (Za hZ0)).trans hZ0;have gw1 := g0.trans g1;obtain ⟨y0, y1⟩ := X1 hD1 rfl rfl;have f0 := Zo hD1 0;have f1 := Zo hD1 1;obtain ⟨hp1, hp2⟩ := Zbt hD1 (.slice b1 K.blocks.length e1) (.slice l1 K.late.length m1);have hZ2 := (hp2.block _ (Za hZ1) (by omega)).trans hZ1;have hbb := h1b.but hp2 (Y6 hS (by omega));have hll := h1l.but hp2 (Y6 hS (by omega));have gw2 := hp2.grow gw1 (Nat.le_refl _);have HSZ : Hid (w.heap.size + 2 ≤ ((w1.setCell ⟨w.heap.size, 0, none⟩ (.slice b1 K.blocks.length e1)).setCell ⟨w.heap.size, 1, none⟩ (.slice l1 K.late.length m1)).heap.size) := Za hZ2;have cs := Zu;clear h1 h1b h1l hD1 hZ1 hp2 gw1 g1 g0 hDD hZ0 hd HF;go_wp2_with fail;clear y0 y1 f0 f1 cs;generalize (w1.setCell ⟨w.heap.size, 0, none⟩ (.slice b1 K.blocks.length e1)).setCell ⟨w.heap.size, 1, none⟩ (.slice l1 K.late.length m1) = W2 at *;have hsm := HFK.out.small (by omega)
 refine Y1 [px (.agg #[.slice b1 K.blocks.length e1, .slice l1 K.late.length m1]), px (.agg #[.slice b1 K.blocks.length e1, .slice l1 K.late.length m1]), pl ((fun v w' => Yq (Z2 S (w.heap.size + 2)) w' v (Z4 K 6))), pl ((fun v w' => ∃ ai ci, v = .agg #[.slice b1 K.blocks.length e1, .slice l1 K.late.length m1, .slice ai (Z4 K 6).length ci, .int .i64 0] ∧ Yq (Z2 S (w.heap.size + 2)) w' (.slice ai (Z4 K 6).length ci) (Z4 K 6))), pl ((fun _ w' => ∃ ai ci, w'.heap[w.heap.size + 1]? = some (.cells #[.slice b1 K.blocks.length e1, .slice l1 K.late.length m1, .slice ai (Z4 K 6).length ci, .int .i64 0] 29 (0, 0)) ∧ Yq (Z2 S (w.heap.size + 2)) w' (.slice ai (Z4 K 6).length ci) (Z4 K 6)))] [none, none, none, none, some ((Kb (w.heap.size + 1)))] (fun dn w' => Zl w w' ∧ w.heap.size + 2 ≤ w'.heap.size ∧ w'.heap[w.heap.size]? = some (.cells #[.slice b1 K.blocks.length e1, .slice l1 K.late.length m1] 26 (0, 0)) ∧ Y5 (Z2 S (w.heap.size + 2)) w' (.slice b1 K.blocks.length e1) K.blocks ∧ Qk (Z2 S (w.heap.size + 2)) w' (.slice l1 K.late.length m1) K.late ∧ (dn 4 = false → w'.heap[w.heap.size + 1]? = some Xm)) (by kernel_rfl) (by kernel_rfl) ⟨se, se, Yn ((fun _ _ _ hg h => Zt.grow h hg)), Yn ((fun _ _ _ hg ⟨ai, ci, h1, h2⟩ => ⟨ai, ci, h1, Zt.grow h2 hg⟩)), Yn ((fun _ _ _ hg ⟨ai, ci, h1, h2⟩ => ⟨ai, ci, (hg.block _ (Za h1)).trans h1, Zt.grow h2 hg⟩)), trivial⟩ ⟨⟨(fun w => Zp.refl _ w), ⟨x5, x5, .inr ((fun v _ w1 w' hs hq => Zt.but hq hs (Y6 (fun b h => Nat.lt_succ_of_lt (hS b h)) (Nat.lt_succ_self _)))), .inr ((fun v _ w1 w' hs ⟨ai, ci, h1, h2⟩ => ⟨ai, ci, h1, Zt.but h2 hs (Y6 (fun b h => Nat.lt_succ_of_lt (hS b h)) (Nat.lt_succ_self _))⟩)), .inl (by kernel_rfl), trivial⟩⟩, trivial⟩ ⟨n5, n5, n5, n5, fun _ _ _ _ h => h, trivial⟩ ⟨gw2.drew, HSZ.out, hp1, hbb, hll, fun _ => hZ2⟩ ?_ ?_
 ·refine ⟨?_, ?_, ?_, ?_, ?_, trivial⟩
  ·refine Zd rfl fun a _ _ _ _ C B A => ?_;have e1 : a (.tmp 1) = .pointer (some ⟨w.heap.size, 0, none⟩) := Zm A 1 rfl;have z0 := Zc B.2.2.1 0 _ rfl;have z1 := Zc B.2.2.1 1 _ rfl;refine Zi ?_ B rfl;clear A B C;go_simp;all_goals go_arith
  ·refine Zd rfl fun a _ _ _ _ C B A => ?_;have e1 : a (.tmp 1) = .pointer (some ⟨w.heap.size, 0, none⟩) := Zm A 1 rfl;have z0 := Zc B.2.2.1 0 _ rfl;have z1 := Zc B.2.2.1 1 _ rfl;refine Zi ?_ B rfl;clear A B C;go_simp;all_goals go_arith
  ·refine Zd rfl fun a B _ _ _ D C A => ?_;have e6 : a (.tmp 6) = _ := Zf A 1 rfl;refine Yi (f := 27) (args := #[.agg #[.slice b1 K.blocks.length e1, .slice l1 K.late.length m1]]) ?_ ((Zoy (Z2 S (w.heap.size + 2)) K _ _ B C.2.2.2.1 C.2.2.2.2.1 hsm.1 hsm.2).mono ?_)
   ·clear A C D;go_simp;all_goals go_arith
   ·rintro e w2 ⟨v2, rfl, hE, g2⟩;refine ⟨_, rfl, g2, ⟨C.1.trans g2, Nat.le_trans C.2.1 g2.size, (g2.block _ (Za C.2.2.1)).trans C.2.2.1, C.2.2.2.1.grow g2, C.2.2.2.2.1.grow g2, fun h => (g2.block _ (Za (C.2.2.2.2.2 h))).trans (C.2.2.2.2.2 h)⟩, ?_⟩;rw [show K.blocks.length / 2 = 6 from by rw [HFK.out.len]] at hE;exact hE.mono (Zq5 C.2.1)
  ·refine Zd rfl fun a B _ _ _ D C A => ?_;have e5 : a (.tmp 5) = _ := Zf A 0 rfl;have e7 : ((fun v B => Yq (Z2 S (w.heap.size + 2)) B v (Z4 K 6))) (a (.tmp 7)) B := Zf A 2 rfl;obtain ⟨ai, ci, h7⟩ := Zt.form e7;rw [h7] at e7;refine Zi (v := .agg #[.slice b1 K.blocks.length e1, .slice l1 K.late.length m1, .slice ai (Z4 K 6).length ci, .int .i64 0]) ?_ C ⟨ai, ci, rfl, e7⟩;clear A C D e7;go_simp;all_goals go_arith
  ·refine Zd rfl fun a w' _ _ _ C B A => ?_;have e2 : a (.tmp 2) = .pointer (some ⟨w.heap.size + 1, 0, none⟩) := Zm A 2 rfl;have e8 : ((fun v w' => ∃ ai ci, v = .agg #[.slice b1 K.blocks.length e1, .slice l1 K.late.length m1, .slice ai (Z4 K 6).length ci, .int .i64 0] ∧ Yq (Z2 S (w.heap.size + 2)) w' (.slice ai (Z4 K 6).length ci) (Z4 K 6))) (a (.tmp 8)) w' := Zf A 3 rfl;obtain ⟨ai, ci, h8, hE⟩ := e8;have hh := B.2.2.2.2.2 C.un;obtain ⟨hq1, hq2⟩ := Yu hh (.slice b1 K.blocks.length e1) (.slice l1 K.late.length m1) (.slice ai (Z4 K 6).length ci) (.int .i64 0);obtain ⟨y0, y1, y2, y3⟩ := Yk hh rfl rfl rfl rfl;obtain ⟨f0, f1, f2, f3⟩ := Y8 hh;have cs := Zu;have hnu : ¬ Z2 S (w.heap.size + 2) (w.heap.size + 1) := Y6 (fun b h => Nat.lt_succ_of_lt (hS b h)) (Nat.lt_succ_self _);refine Yg (w' := _) ?_ hq2 ⟨hq2.grow B.1 (by omega), Nat.le_trans B.2.1 hq2.size, (hq2.block _ (Za B.2.2.1) (by omega)).trans B.2.2.1, B.2.2.2.1.but hq2 hnu, B.2.2.2.2.1.but hq2 hnu, fun h => by simp [upd] at h⟩ ⟨ai, ci, hq1, hE.but hq2 hnu⟩;clear A B C hq1 hq2 hh hE hnu;go_simp;all_goals go_arith
 ·intro vs w' dn hdn hg ht;obtain ⟨q5, q6, q7, q8, qo4, -⟩ := ht;have r5 : vs 0 = _ := q5;have r6 : vs 1 = _ := q6;replace q7 : ((fun v w' => Yq (Z2 S (w.heap.size + 2)) w' v (Z4 K 6))) (vs 2) w' := q7;replace q8 : ((fun v w' => ∃ ai ci, v = .agg #[.slice b1 K.blocks.length e1, .slice l1 K.late.length m1, .slice ai (Z4 K 6).length ci, .int .i64 0] ∧ Yq (Z2 S (w.heap.size + 2)) w' (.slice ai (Z4 K 6).length ci) (Z4 K 6))) (vs 3) w' := q8;replace qo4 : ((fun _ w' => ∃ ai ci, w'.heap[w.heap.size + 1]? = some (.cells #[.slice b1 K.blocks.length e1, .slice l1 K.late.length m1, .slice ai (Z4 K 6).length ci, .int .i64 0] 29 (0, 0)) ∧ Yq (Z2 S (w.heap.size + 2)) w' (.slice ai (Z4 K 6).length ci) (Z4 K 6))) (vs 4) w' := qo4;clear q5 q6;simp only [Ye, Act.put, List.setIfInBounds_toArray, List.set_cons_zero, List.set_cons_succ, Nat.reduceAdd, r5, r6];clear r5 r6;obtain ⟨ai, ci, hp, hE⟩ := qo4;obtain ⟨y0, y1, y2, y3⟩ := Yk hp rfl rfl rfl rfl;have gE := hg.1;have hSt : Yc (Z2 S w.heap.size) ⟨K, Z4 K 6, 0⟩ (.agg #[.slice b1 K.blocks.length e1, .slice l1 K.late.length m1, .slice ai (Z4 K 6).length ci, .int .i64 0]) w' := ⟨_, _, _, rfl, hg.2.2.2.1.mono (Z6 (by omega)), hg.2.2.2.2.1.mono (Z6 (by omega)), hE.mono (Z6 (by omega))⟩;clear q7 q8 hdn hg hp hE hp1 hZ2 hbb hll gw2;go_wp2_with fail
  exact bodyPost_ret (v := .agg #[.slice b1 K.blocks.length e1, .slice l1 K.late.length m1, .slice ai (Z4 K 6).length ci, .int .i64 0]) (by simp [results, Tryz.results56, go_sem, y0, y1, y2, y3]) rfl ⟨_, rfl, hSt, gE⟩
theorem Zo1 (S : Nat → Prop) (w : World) (hS : ∀ b, S b → b < w.heap.size) :
  Calls Tryz.prog 30 #[] w fun r w' => ∃ v', r = .returned v' ∧ Yc (Z2 S w.heap.size) Q3 v' w' ∧ Zl w w' := by
 have g0 := Zb w Xm;have hZ0 := Zk w #[.slice none 0 0, .slice none 0 0, .slice none 0 0, .int .i64 0] 29;have s0 := World.size_alloc w Xm;go_enter Tryz.func30, Tryz.ntmps30;go_wp2_with fail;generalize World.alloc w _ = W at *;refine (Zwf S W).mono ?_;rintro r w1 ⟨v1, rfl, h1, g1⟩;have hZ1 := (g1.block _ (Za hZ0)).trans hZ0;have gw1 := g0.trans g1;obtain ⟨ab, cb, al, cl, hv, -, -⟩ := h1.form;subst hv;clear hZ0 g0;go_wp2_with fail;have HSZ : Hid (W.heap.size ≤ w1.heap.size) := g1.size;refine (Zl4 (fun b => Z2 S W.heap.size b ∧ b < w1.heap.size) 0 Dk.new _ w1 (fun b h => h.2) ?_ J4 (by omega)).mono ?_
 ·obtain ⟨vb, vl, h2, h3, h4⟩ := h1;exact ⟨vb, vl, h2, h3.capd, h4.capd⟩
 ·rintro r w2 ⟨v2, rfl, h2, g2⟩;have hZ2 := (g2.block _ (Za hZ1)).trans hZ1;have gw2 := gw1.trans g2;have h3 : Yc (Z2 S W.heap.size) Q3 v2 w2 := h2.mono fun b h => h.elim (fun x => x.1) (fun x => .inr (Nat.le_trans HSZ.out x))
  obtain ⟨ab, cb, al, cl, ai, ci, hv, -, -, -⟩ := h3.form;subst hv;obtain ⟨hq1, hq2⟩ := Yu hZ2 (.slice ab Q3.dk.blocks.length cb) (.slice al Q3.dk.late.length cl) (.slice ai Q3.idx.length ci) (.int .i64 Q3.next);obtain ⟨y0, y1, y2, y3⟩ := Yk hZ2 rfl rfl rfl rfl;obtain ⟨f0, f1, f2, f3⟩ := Y8 hZ2;have cs := Zu;obtain ⟨x0, x1, x2, x3⟩ := Yk hq1 rfl rfl rfl rfl;have gE := hq2.grow gw2 (Nat.le_refl _);have hE := (h3.but hq2 (Y6 hS (by omega))).mono (Z6 (B := w.heap.size) (by omega));clear hq1 hq2 h3 h2 hZ2 hZ1 gw2 gw1 g1 g2 h1;go_wp2_with fail;exact bodyPost_ret (v := .agg #[.slice ab Q3.dk.blocks.length cb, .slice al Q3.dk.late.length cl, .slice ai Q3.idx.length ci, .int .i64 Q3.next]) (by simp [results, Tryz.results30, go_sem, x0, x1, x2, x3]) rfl ⟨_, rfl, hE, gE⟩
def Zvu : Prop := ∀ (d : Dd) (a : Option Addr) (c : Nat) (w : World), d.data.length ≤ 140737488355328 → Bytes w (.slice a d.data.length c) d.data →
 Calls Tryz.prog 98 #[.agg #[.int .i64 d.kind, .int .i64 d.key, .int .i64 d.num, .slice a d.data.length c]] w fun r w' => r = .returned (.int .i64 (Yh d)) ∧ Zl w w'
variable {k : Nat} {l : List Rec}
def Ve (l : List Rec) (r : Rec) : Bool := l.any fun x => Xr x r
def Xs (a b : List Rec) : Bool := a.all (Ve b) && decide (a.length = b.length)
theorem Ztl (p : Rec → Bool) (h : k < l.length) : (l.take (k + 1)).any p = ((l.take k).any p || p l[k]) := by
 rw [List.take_succ_eq_append_getElem h, List.any_append]; simp
theorem Ztm (p : Rec → Bool) (h : k < l.length) : (l.take (k + 1)).all p = ((l.take k).all p && p l[k]) := by
 rw [List.take_succ_eq_append_getElem h, List.all_append]; simp
theorem Zcb (S S' : Nat → Prop) (s t : List Rec) (v u : Value) (w : World) (hs : Y4 S w v s) (ht : Y4 S' w u t) (hm : s.length ≤ 1000) (hn : t.length ≤ 1000) :
  Calls Tryz.prog 35 #[v, u] w fun e w' => e = .returned (.bool (Xs s t)) ∧ Zl w w' := by
 obtain ⟨ao, ca, rfl⟩ := hs.form;obtain ⟨bo, cb, rfl⟩ := ht.form;have g0 := Zb w (.cells #[.slice ao s.length ca, .slice bo t.length cb] 58);have hL0 := Zk w #[.slice ao s.length ca, .slice bo t.length cb] 58;obtain ⟨R, hR⟩ : ∃ R, R = Xs s t := ⟨_, rfl⟩;rw [← hR];have HR : Hid _ := hR;clear hR;go_enter Tryz.func35, Tryz.ntmps35;go_wp2_with fail;generalize World.alloc w _ = W at *;go_loopw [16] (fun i wr => ∃ k : Nat, k ≤ 2 ∧ i = .int .i64 k ∧ (1 ≤ k → s.all (Ve t) = true) ∧ Zl w wr ∧ wr.heap[w.heap.size]? = some (.cells #[.slice ao s.length ca, .slice bo t.length cb] 58 (0, 0))) (fun i _ => 2 - (intOf i).toNat)
 case atStart => exact ⟨0, Nat.zero_le _, rfl, fun h => by omega, g0, hL0⟩
 case round =>
  clear g0 hL0;obtain ⟨k, hk, rfl, hall, hg, hL⟩ := hrel;have HAL : Hid _ := hall;clear hall;by_cases hlt : k < 2
  ·obtain ⟨S1, S2, l1, l2, v1, v2, hl1, hl2, hm1, hm2, hc1, hc2, hc3⟩ : ∃ (S1 S2 : Nat → Prop) (l1 l2 : List Rec) (v1 v2 : Value), Y4 S1 w v1 l1 ∧ Y4 S2 w v2 l2 ∧ l1.length ≤ 1000 ∧ l2.length ≤ 1000 ∧ (#[.slice ao s.length ca, .slice bo t.length cb] : Array Value)[k]? = some v1 ∧ (#[.slice bo t.length cb, .slice ao s.length ca] : Array Value)[k]? = some v2 ∧ (k = 0 → l1 = s ∧ l2 = t) := by
    rcases k with _ | _ | k
    ·exact ⟨S, S', s, t, _, _, hs, ht, hm, hn, rfl, rfl, fun _ => ⟨rfl, rfl⟩⟩
    ·exact ⟨S', S, t, s, _, _, ht, hs, hn, hm, rfl, rfl, fun h => by omega⟩
    ·omega
   have q0 := Zc hL k _ hc1;have HC2 : Hid (∀ W : World, (W.alloc (.cells #[.slice bo t.length cb, .slice ao s.length ca] 58)).cell? ⟨W.heap.size, k, none⟩ = some v2) := fun W => Zc (Zk W _ _) k _ hc2
   have HC3 : Hid _ := hc3;obtain ⟨b1, d1, hf1⟩ := hl1.form;obtain ⟨b2, d2, hf2⟩ := hl2.form;subst hf1;subst hf2;clear hc1 hc2 hc3;go_wp2_with fail;have HLT : Hid (k < 2) := hlt;have hd : decide ((k : Int) < 2) = true := by simp; omega
   simp only [hd];clear q0 hlt hd;go_loopw [23] (fun i wo => ∃ j : Nat, j ≤ l1.length ∧ i = .int .i64 j ∧ (k = 0 → (l1.take j).all (Ve l2) = true) ∧ Zl w wo ∧ wo.heap[w.heap.size]? = some (.cells #[.slice ao s.length ca, .slice bo t.length cb] 58 (0, 0))) (fun i _ => l1.length - (intOf i).toNat)
   case atStart => exact ⟨0, Nat.zero_le _, rfl, fun _ => rfl, hg, hL⟩
   case round =>
    clear hg hL;obtain ⟨j, hj, rfl, hall, hg, hL⟩ := hrel;have HA1 : Hid _ := hall;clear hall;by_cases hjl : j < l1.length
    ·obtain ⟨b, off, a1, c1, hv1, q0, q1, q2, q3, hu⟩ := Jf (hl1.grow hg) j hjl;cases hv1;have HAN : Hid ((l1.take (j + 1)).all (Ve l2) = ((l1.take j).all (Ve l2) && Ve l2 l1[j])) := Ztm _ hjl;have HMM : Hid (k = 0 → l1[j] ∈ s) := fun h => by have := (HC3.out h).1; rw [← this]; exact List.getElem_mem hjl
     generalize l1[j] = r at *;have g1 := Zq wr (.cells #[.int .i64 r.kind, .int .i64 r.key, .int .i64 r.ver, .slice a1 r.data.length c1] 61) (.cells #[.slice bo t.length cb, .slice ao s.length ca] 58);have hX0 := Zk wr #[.int .i64 r.kind, .int .i64 r.key, .int .i64 r.ver, .slice a1 r.data.length c1] 61;have hX1 := ((Zb (wr.alloc (.cells #[.int .i64 r.kind, .int .i64 r.key, .int .i64 r.ver, .slice a1 r.data.length c1] 61)) (.cells #[.slice bo t.length cb, .slice ao s.length ca] 58)).block _ (Za hX0)).trans hX0;have hL1 := (g1.block _ (Za hL)).trans hL;have c2 := HC2.out (wr.alloc (.cells #[.int .i64 r.kind, .int .i64 r.key, .int .i64 r.ver, .slice a1 r.data.length c1] 61));rw [World.size_alloc] at c2;have gw1 := hg.trans g1;have hu1 := hu.grow g1;clear hX0 hL hg hu g1;go_wp2_with fail;clear c2 q0 q1 q2 q3;generalize World.alloc (World.alloc wr _) _ = W2 at *;generalize wr.heap.size = gr at *;go_loopw [9, 34] (fun inn i wq => ∃ m : Nat, m ≤ l2.length ∧ i = .int .i64 m ∧ inn = .bool ((l2.take m).any fun x => Xr x r) ∧ Zl W2 wq) (fun _ i _ => l2.length - (intOf i).toNat)
     case atStart => exact ⟨0, Nat.zero_le _, rfl, rfl, Zl.refl _⟩
     case round =>
      obtain ⟨m, hm3, rfl, rfl, hgq⟩ := hrel;have hXq := (hgq.block _ (Za hX1)).trans hX1;have hLq := (hgq.block _ (Za hL1)).trans hL1;have gwq := gw1.trans hgq;have huq := hu1.grow hgq;by_cases hml : m < l2.length
      ·obtain ⟨b3, off3, a3, c3, hv3, p0, p1, p2, p3, hz⟩ := Jf (hl2.grow gwq) m hml;cases hv3;have HAN2 : Hid ((l2.take (m + 1)).any (fun x => Xr x r) = ((l2.take m).any (fun x => Xr x r) || Xr l2[m] r)) := Ztl _ hml;generalize l2[m] = x at *;generalize (l2.take m).any (fun x => Xr x r) = I at *;have g3 := Zb wr (.cells #[.int .i64 x.kind, .int .i64 x.key, .int .i64 x.ver, .slice a3 x.data.length c3] 61);have hY := Zk wr #[.int .i64 x.kind, .int .i64 x.key, .int .i64 x.ver, .slice a3 x.data.length c3] 61;have hXy := (g3.block _ (Za hXq)).trans hXq;have gq3 := hgq.trans g3;have hz3 := hz.grow g3;have hu3 := huq.grow g3;clear hLq gwq huq hXq hgq g3 hz;cases I with
       | true =>
        have HT : Hid ((l2.take (m + 1)).any (fun x => Xr x r) = true) := by show _ = _; rw [HAN2.out]; rfl
        clear HAN2 hY hXy;go_wp2_with fail;go_roundw
        case rel => exact ⟨m + 1, by omega, by go_num, by rw [HT.out], gq3⟩
        case measure => simp [intOf]; omega
       | false =>
        have HT : Hid ((l2.take (m + 1)).any (fun x => Xr x r) = Xr x r) := by show _ = _; rw [HAN2.out]; rfl
        obtain ⟨x0, x1, x2, x3⟩ := Yk hY rfl rfl rfl rfl;obtain ⟨y0, y1, y2, y3⟩ := Yk hXy rfl rfl rfl rfl;clear HAN2 hY hXy;go_wp2_with fail;refine (Zg2 _ _ _ _ _ _ x.data r.data _ _ _ hz3.p hu3.p).mono ?_;obtain ⟨I2, hI2⟩ : ∃ I2, I2 = Xr x r := ⟨_, rfl⟩;rintro e w4 ⟨he, g4⟩;have he2 : e = .returned (.bool I2) := by rw [he, hI2]
        clear he;subst he2;have HI2 : Hid _ := hI2;clear hI2;have gq4 := gq3.trans g4;clear g4 gq3 hz3 hu3 x0 x1 x2 x3 y0 y1 y2 y3 p0 p1 p2 p3;go_wp2_with fail;go_roundw
        case rel => exact ⟨m + 1, by omega, by go_num, by rw [HT.out, HI2.out], gq4⟩
        case measure => simp [intOf]; omega
      ·have HIN : Hid ((l2.take m).any (fun x => Xr x r) = Ve l2 r) := by show _ = _; rw [List.take_of_length_le (by omega)]; rfl
       rw [HIN.out];clear HIN hXq huq;generalize hI : Ve l2 r = I at *;cases I with
       | true =>
        have HNX : Hid (k = 0 → (l1.take (j + 1)).all (Ve l2) = true) := fun h => by rw [HAN.out, HA1.out h]; simp
        clear hI HAN HA1 HMM;go_wp2_with fail;go_roundw
        case rel => exact ⟨j + 1, by omega, by go_num, HNX.out, gwq, hLq⟩
        case measure => simp [intOf]; omega
       | false =>
        by_cases hk0 : k = 0
        ·have hRf : R = false := by
          rw [HR.out];unfold Xs;have h1 : s.all (Ve t) = false := by
           rw [List.all_eq_false];exact ⟨r, HMM.out hk0, by rw [← (HC3.out hk0).2, hI]; simp⟩
          rw [h1]; rfl
         subst hRf;have d0 : ((k : Int) == 0) = true := by simp [hk0]
         clear hI HAN HA1 HMM hk0;go_wp2_with fail;go_ret;exact ⟨rfl, gwq⟩
        ·have HNX : Hid (k = 0 → (l1.take (j + 1)).all (Ve l2) = true) := fun h => absurd h hk0
         have d0 : ((k : Int) == 0) = false := by simp; omega
         clear hI HAN HA1 HMM hk0;go_wp2_with fail;go_roundw
         case rel => exact ⟨j + 1, by omega, by go_num, HNX.out, gwq, hLq⟩
         case measure => simp [intOf]; omega
    ·have HNX : Hid (1 ≤ k + 1 → s.all (Ve t) = true) := fun _ => by
      by_cases hk0 : k = 0
      ·have h1 := HA1.out hk0;rw [List.take_of_length_le (by omega), (HC3.out hk0).1, (HC3.out hk0).2] at h1;exact h1
      ·exact HAL.out (by omega)
     clear HA1;go_wp2_with fail;go_roundw
     case rel => exact ⟨k + 1, HLT.out, by go_num, HNX.out, hg, hL⟩
     case measure => have := HLT.out; simp [intOf]; omega
  ·have HRR : Hid (R = decide (s.length = t.length)) := by show R = _; rw [HR.out]; unfold Xs; rw [HAL.out (by omega)]; simp
   by_cases hle : s.length = t.length
   ·have d0 : ((s.length : Int) == (t.length : Int)) = true := by simp [hle]
    have HRT : Hid (R = true) := by show R = _; rw [HRR.out]; simp [hle]
    clear HRR hle;go_wp2_with fail;go_ret;exact ⟨by rw [HRT.out]; rfl, hg⟩
   ·have d0 : ((s.length : Int) == (t.length : Int)) = false := by simp; omega
    have HRF : Hid (R = false) := by show R = _; rw [HRR.out]; simp [hle]
    clear HRR hle;go_wp2_with fail;go_ret;exact ⟨by rw [HRF.out]; rfl, hg⟩
end Go.Proofs.YtpdnapbchcdhlacGreat
