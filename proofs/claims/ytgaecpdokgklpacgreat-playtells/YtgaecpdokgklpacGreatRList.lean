import Derived.Test.YtgaecpdokgklpacGreatRStore3
set_option maxHeartbeats 8000000
namespace Go.Proofs.YtgaecpdokgklpacGreat
set_option maxRecDepth 100000
open Go.RowKit
open Plain Reg
def Xp : Qk Int where
 T := 3
 size := 1
 enc _ _ x cs := cs = [.int .i64 x]
 len := by rintro S w x cs rfl; rfl
 keep := by rintro S w w' x cs rfl _; rfl
 mono := by rintro S S' w x cs rfl _; rfl
 cap := by rintro S w x cs rfl; rfl
 one := by
  rintro S w x cs rfl c hc;rw [List.mem_singleton.1 hc]; rfl
theorem Zbr : (Tryz.prog.info? 3).map (fun i => (i.zero, i.size, i.bytes)) = some (some (.int .i64 0), 1, 8) := by kernel_rfl
def X3 (d : Dk) (p : Nat) : Nat → Bool
 | 0 => false
 | q + 1 => X3 d p q || decide ((d.tell (q : Int)).kind ≠ 1 ∧ (d.tell (q : Int)).ver = (d.tell (p : Int)).ver)
def Yo (d : Dk) : Nat → List Int
 | 0 => []
 | p + 1 => if (d.tell (p : Int)).kind ≠ 1 ∧ X3 d p p = true then Yo d p ++ [(p : Int)] else Yo d p
theorem Ke (d : Dk) : ∀ p, (Yo d p).length ≤ p
 | 0 => Nat.le_refl _
 | p + 1 => by
  have := Ke d p;unfold Yo;split
  ·simp; omega
  ·omega
theorem Zln (n : Nat) (d : Dk) (v : Value) (w : World) (hd : Qx d v w) (hF : d.Fine n) (hn : n ≤ 900) :
  Calls Tryz.prog 25 #[v] w fun r w' => ∃ v' css, r = .returned v' ∧ Yt Xp (fun _ => False) w.heap.size v' (Yo d 6) css w' ∧ Zo w w' := by
 obtain ⟨i0, hif, hz0, hz1, hz2⟩ := info_parts Zbr;obtain ⟨vb, vl, rfl, hb, hl⟩ := hd;obtain ⟨ab, cb, rfl⟩ := hb.form;obtain ⟨al, cl, rfl⟩ := hl.form;have g0 := Zc w (.cells #[.slice ab d.blocks.length cb, .slice al d.late.length cl] 26);have hd0 := Zj w #[.slice ab d.blocks.length cb, .slice al d.late.length cl] 26;have hsm := hF.small (by omega);go_enter Tryz.func25, Tryz.ntmps25;go_wp2_with fail;generalize World.alloc w _ = W at *;go_loopw [3, 11] (fun o i wr => ∃ (k : Nat) (css : List (List Value)), k ≤ 6 ∧ i = .int .i64 (k : Int) ∧ Yt Xp (fun _ => False) (w.heap.size + 1) o (Yo d k) css wr ∧ Zo w wr ∧ wr.heap[w.heap.size]? = some (.cells #[.slice ab d.blocks.length cb, .slice al d.late.length cl] 26 (0, 0))) (fun _ i _ => 6 - (intOf i).toNat)
 case atStart => exact ⟨0, [], by omega, rfl, Yt.nil _ _ _ _, g0, hd0⟩
 case round =>
  clear g0 hd0;obtain ⟨k, css, hk, rfl, hR, gw, hd1⟩ := hrel;by_cases hlt : k < 6
  ·have HT : Hid (Yo d (k + 1) = if (d.tell (k : Int)).kind ≠ 1 ∧ X3 d k k = true then Yo d k ++ [(k : Int)] else Yo d k) := rfl;have HAG : Hid (∀ q : Nat, X3 d k (q + 1) = (X3 d k q || decide ((d.tell (q : Int)).kind ≠ 1 ∧ (d.tell (q : Int)).ver = (d.tell (k : Int)).ver))) := fun _ => rfl
   have hll := Ke d k;generalize Yo d k = xs at *;obtain ⟨a0, c0, rfl⟩ := hR.form;obtain ⟨y0, y1⟩ := Xb hd1 rfl rfl;go_wp2_with fail;refine (Zem d (k : Int) _ wr ⟨_, _, rfl, hb.grow gw, hl.grow gw⟩ hsm.1 hsm.2).mono ?_;rintro r w1 ⟨dv, rfl, ho, g1⟩;obtain ⟨a9, c9, rfl⟩ := Z6 ho;generalize hTL : d.tell (k : Int) = tl at *;clear hTL;have g2 := Zc w1 (.cells #[.int .i64 tl.kind, .int .i64 tl.key, .int .i64 tl.ver, .slice a9 tl.data.length c9] 61);have hX2 := Zj w1 #[.int .i64 tl.kind, .int .i64 tl.key, .int .i64 tl.ver, .slice a9 tl.data.length c9] 61;have hR2 := (hR.grow g1).grow g2;have gw2 := (gw.trans g1).trans g2;have hd2 := (g2.block _ (Za ((g1.block _ (Za hd1)).trans hd1))).trans ((g1.block _ (Za hd1)).trans hd1);clear y0 y1 hR gw hd1 g1 g2 ho;go_wp2_with fail;obtain ⟨gr, hgr⟩ : ∃ gr, gr = w1.heap.size := ⟨_, rfl⟩;rw [← hgr] at hX2 ⊢;clear hgr;obtain ⟨W2, hW2⟩ : ∃ W2, W2 = w1.alloc (.cells #[.int .i64 tl.kind, .int .i64 tl.key, .int .i64 tl.ver, .slice a9 tl.data.length c9] 61) := ⟨_, rfl⟩;rw [← hW2] at hX2 hR2 gw2 hd2 ⊢;clear hW2;go_loopw [7, 21] (fun ag i wq => ∃ q : Nat, q ≤ k ∧ i = .int .i64 (q : Int) ∧ ag = .bool (X3 d k q) ∧ Zo W2 wq ∧ wq.heap[gr]? = some (.cells #[.int .i64 tl.kind, .int .i64 tl.key, .int .i64 tl.ver, .slice a9 tl.data.length c9] 61 (0, 0))) (fun _ i _ => k - (intOf i).toNat)
   case atStart => exact ⟨0, Nat.zero_le _, rfl, rfl, Zo.refl _, hX2⟩
   case round =>
    clear hX2;obtain ⟨q, hq, rfl, rfl, gq, hX2⟩ := hrel;have hdq := (gq.block _ (Za hd2)).trans hd2;by_cases hql : q < k
    ·obtain ⟨y0, y1⟩ := Xb hdq rfl rfl;have HAQ : Hid _ := HAG.out q;generalize X3 d k q = AG at *;go_wp2_with fail;refine (Zem d (q : Int) _ wr ⟨_, _, rfl, hb.grow (gw2.trans gq), hl.grow (gw2.trans gq)⟩ hsm.1 hsm.2).mono ?_;rintro r w3 ⟨dv, rfl, ho, g3⟩;obtain ⟨a8, c8, rfl⟩ := Z6 ho;generalize d.tell (q : Int) = tq at *;have g4 := Zc w3 (.cells #[.int .i64 tq.kind, .int .i64 tq.key, .int .i64 tq.ver, .slice a8 tq.data.length c8] 61);have hY := Zj w3 #[.int .i64 tq.kind, .int .i64 tq.key, .int .i64 tq.ver, .slice a8 tq.data.length c8] 61;have hX3 := (g4.block _ (Za ((g3.block _ (Za hX2)).trans hX2))).trans ((g3.block _ (Za hX2)).trans hX2);have gq3 := (gq.trans g3).trans g4;clear y0 y1 hdq gq g3 g4 ho hX2;have z0 := Zd hY 0 _ rfl;have z2 := Zd hY 2 _ rfl;have x2 := Zd hX3 2 _ rfl;clear hY;cases AG with
     | true =>
      have HA2 : Hid (X3 d k (q + 1) = true) := by show _ = _; rw [HAQ.out]; rfl
      clear HAQ;go_wp2_with fail;go_roundw
      case rel => exact ⟨q + 1, by omega, by go_num, by rw [HA2.out], gq3, hX3⟩
      case measure => simp [intOf]; omega
     | false =>
      by_cases h1 : tq.kind = 1
      ·have d1 : (tq.kind != 1) = false := by simp [h1]
       have HA2 : Hid (X3 d k (q + 1) = false) := by show _ = _; rw [HAQ.out]; simp [h1]
       clear HAQ h1;go_wp2_with fail;go_roundw
       case rel => exact ⟨q + 1, by omega, by go_num, by rw [HA2.out], gq3, hX3⟩
       case measure => simp [intOf]; omega
      ·have d1 : (tq.kind != 1) = true := by simp [h1]
       by_cases hv : tq.ver = tl.ver
       ·have dv : (tq.ver == tl.ver) = true := by simp [hv]
        have HA2 : Hid (X3 d k (q + 1) = true) := by show _ = _; rw [HAQ.out]; simp [h1, hv]
        clear HAQ h1 hv;go_wp2_with fail;go_roundw
        case rel => exact ⟨q + 1, by omega, by go_num, by rw [HA2.out], gq3, hX3⟩
        case measure => simp [intOf]; omega
       ·have dv : (tq.ver == tl.ver) = false := by simp [hv]
        have HA2 : Hid (X3 d k (q + 1) = false) := by show _ = _; rw [HAQ.out]; simp [hv]
        clear HAQ h1 hv;go_wp2_with fail;go_roundw
        case rel => exact ⟨q + 1, by omega, by go_num, by rw [HA2.out], gq3, hX3⟩
        case measure => simp [intOf]; omega
    ·have HQK : Hid (X3 d k q = X3 d k k) := by show _ = _; rw [show q = k by omega]
     rw [HQK.out];have hR4 := hR2.grow gq;have gw4 := gw2.trans gq;have hd4 := hdq;have x0 := Zd hX2 0 _ rfl;obtain ⟨AG, hAG⟩ : ∃ AG, AG = X3 d k k := ⟨_, rfl⟩;rw [← hAG] at HT ⊢;clear hX2 gq hdq HQK HAG hAG hR2 gw2 hd2;by_cases h1 : tl.kind = 1
     ·have d1 : (tl.kind != 1) = false := by simp [h1]
      have HT2 : Hid (Yo d (k + 1) = xs) := by show _ = _; rw [HT.out, if_neg (fun h => h.1 h1)]
      clear HT h1;go_wp2_with fail;go_roundw
      case rel => exact ⟨k + 1, css, by omega, by go_num, by rw [HT2.out]; exact hR4, gw4, hd4⟩
      case measure => simp [intOf]; omega
     ·have d1 : (tl.kind != 1) = true := by simp [h1]
      cases AG with
      | false =>
       have HT2 : Hid (Yo d (k + 1) = xs) := by show _ = _; rw [HT.out, if_neg (fun h => by cases h.2)]
       clear HT h1;go_wp2_with fail;go_roundw
       case rel => exact ⟨k + 1, css, by omega, by go_num, by rw [HT2.out]; exact hR4, gw4, hd4⟩
       case measure => simp [intOf]; omega
      | true =>
       have HT2 : Hid (Yo d (k + 1) = xs ++ [(k : Int)]) := by show _ = _; rw [HT.out, if_pos ⟨h1, rfl⟩]
       have HSZ : Hid (w.heap.size + 1 ≤ wr.heap.size) := Za hd4;have hnew : ∀ (t : Nat) u, ([.int .i64 (k : Int)] : List Value)[t]? = some u → (wr.alloc (.cells #[.int .i64 (k : Int)] 3)).cell? ((⟨wr.heap.size, 0, none⟩ : Addr).add t) = some u := by
        intro t u ht
        match t, ht with
        | 0, ht => simp at ht; subst ht; simp [Addr.add]
        | t + 1, ht => simp at ht
       clear HT h1;go_wp2_with (at_builtin; refine wpList_append_own _ rfl (.tmp 50) (.tmp 52) 31 rfl (w.heap.size + 1) 3 i0 (.int .i64 0) 1 8 Tryz.underlying31 hif hz0 hz1 hz2 rfl (by decide) (.slice a0 xs.length c0) _ _ rfl (hR4.row.alloc _) ⟨wr.heap.size, 0, none⟩ 1 1 [.int .i64 (k : Int)] rfl rfl hnew (by intro u hu; simp at hu; subst hu; rfl) (by unfold maxLen; omega) (by omega) (by have := HSZ.out; simp; omega) ?_; intro v5 w5 hown5 hgrow5 _; have hR6 := hR4.step (x := (k : Int)) (by decide) (fun b h => h.elim) rfl hgrow5 hown5; have g6 : Zo w w5 := Yb (gw4.trans (Zc _ _)) hgrow5 (fun k hk => by have := (hR4.row.lt k hk).1; omega); have hd6 := (Xx hR4.row hgrow5 (Vt hR4.row (by omega)) (Za hd4)).trans hd4; have hsl := Z6 hown5; obtain ⟨a4, c4, hv4⟩ := hsl; subst hv4; clear hgrow5 hown5 hR4 hnew gw4 hd4);go_roundw
       case rel => exact ⟨k + 1, _, by omega, by go_num, by rw [HT2.out]; exact hR6, g6, hd6⟩
       case measure => simp [intOf]; omega
  ·have hRE : ∃ css, Yt Xp (fun _ => False) w.heap.size _ (Yo d 6) css wr := ⟨css, by
    have e : k = 6 := by omega
    subst e;exact ⟨hR.len, fun i hi => (hR.each i hi).imp fun _ x => ⟨x.1, x.2⟩, Yj hR.row (by omega)⟩⟩
   obtain ⟨css2, hE⟩ := hRE;clear hR;obtain ⟨a4, c4, rfl⟩ := hE.form;go_wp2_with fail;go_ret;exact ⟨_, _, rfl, hE, gw⟩
theorem Zsq (d : Dk) (p : Int) : 0 ≤ d.how p ∧ d.how p < 6 := by
 unfold Dk.how;split
 ·omega
 ·split
  ·split <;> omega
  ·split
   ·omega
   ·split
    ·omega
    ·split <;> omega
def cnt (d : Dk) : Nat → Int → Int
 | 0, _ => 0
 | k + 1, i => cnt d k i + (if d.how (k : Int) = i then 1 else 0)
theorem Zm0 (d : Dk) : ∀ (k : Nat) (i : Int), 0 ≤ cnt d k i ∧ cnt d k i ≤ (k : Int)
 | 0, _ => by simp [cnt]
 | k + 1, i => by
  have := Zm0 d k i;unfold cnt;split <;> omega
abbrev Q1 (f : Int → Int) : Array Value := #[.int .i64 (f 0), .int .i64 (f 1), .int .i64 (f 2), .int .i64 (f 3), .int .i64 (f 4), .int .i64 (f 5)]
abbrev X8 : Obj := .cells #[.int .i64 0, .int .i64 0, .int .i64 0, .int .i64 0, .int .i64 0, .int .i64 0] 39 (0, 0)
theorem Zbd {w : World} {g : Nat} {T : TypeId} {f} {c0 c1 c2 c3 c4 c5 : Value} (h : w.heap[g]? = some (.cells #[c0, c1, c2, c3, c4, c5] T f)) (x0 x1 x2 x3 x4 x5 : Value) :
  ((((((w.setCell ⟨g, 0, none⟩ x0).setCell ⟨g, 1, none⟩ x1).setCell ⟨g, 2, none⟩ x2).setCell ⟨g, 3, none⟩ x3).setCell ⟨g, 4, none⟩ x4).setCell ⟨g, 5, none⟩ x5).heap[g]? = some (.cells #[x0, x1, x2, x3, x4, x5] T f) ∧ Zr g w ((((((w.setCell ⟨g, 0, none⟩ x0).setCell ⟨g, 1, none⟩ x1).setCell ⟨g, 2, none⟩ x2).setCell ⟨g, 3, none⟩ x3).setCell ⟨g, 4, none⟩ x4).setCell ⟨g, 5, none⟩ x5) :=
 ⟨Yg (Yg (Yg (Yg (Yg (Yg h 0 x0) 1 x1) 2 x2) 3 x3) 4 x4) 5 x5, ((((((Zr.refl g w).set _ _ _).set _ _ _).set _ _ _).set _ _ _).set _ _ _).set _ _ _⟩
theorem Zrl {w : World} {g : Nat} {T : TypeId} {c : Int → Int} (h : w.heap[g]? = some (.cells (Q1 c) T (0, 0))) {j : Nat} (hj : j < 6) :
  w.cell? ⟨g, j, none⟩ = some (.int .i64 (c (j : Int))) ∧ w.frozen? ⟨g, j, none⟩ = false ∧ (w.setCell ⟨g, j, none⟩ (.int .i64 (c (j : Int) + 1))).heap[g]? = some (.cells (Q1 (fun i => c i + (if (j : Int) = i then 1 else 0))) T (0, 0)) := by
 have hs := Yg h j (.int .i64 (c (j : Int) + 1))
 match j, hj with
 | 0, _ | 1, _ | 2, _ | 3, _ | 4, _ | 5, _ => exact ⟨Zd h _ _ rfl, Zl h _, by rw [hs]; simp [Q1]⟩
theorem Zjm (n : Nat) (d : Dk) (v : Value) (w : World) (hd : Qx d v w) (hF : d.Fine n) (hn : n ≤ 900) :
  Calls Tryz.prog 13 #[v] w fun r w' => r = .returned (.agg (Q1 (cnt d 6))) ∧ Zo w w' := by
 obtain ⟨vb, vl, rfl, hb, hl⟩ := hd;obtain ⟨ab, cb, rfl⟩ := hb.form;obtain ⟨al, cl, rfl⟩ := hl.form;have g0 := (Zs w (.cells #[.slice ab d.blocks.length cb, .slice al d.late.length cl] 26) X8).trans (Zc _ X8);have hd0 := Zj w #[.slice ab d.blocks.length cb, .slice al d.late.length cl] 26;have hz0 := Zj (w.alloc (.cells #[.slice ab d.blocks.length cb, .slice al d.late.length cl] 26)) #[.int .i64 0, .int .i64 0, .int .i64 0, .int .i64 0, .int .i64 0, .int .i64 0] 39;have hr0 := Zj ((w.alloc (.cells #[.slice ab d.blocks.length cb, .slice al d.late.length cl] 26)).alloc X8) #[.int .i64 0, .int .i64 0, .int .i64 0, .int .i64 0, .int .i64 0, .int .i64 0] 39;have hd1 := ((Zs (w.alloc (.cells #[.slice ab d.blocks.length cb, .slice al d.late.length cl] 26)) X8 X8).block _ (Za hd0)).trans hd0;have hz1 := ((Zc ((w.alloc (.cells #[.slice ab d.blocks.length cb, .slice al d.late.length cl] 26)).alloc X8) X8).block _ (Za hz0)).trans hz0;rw [World.size_alloc] at hz1;rw [World.size_alloc, World.size_alloc] at hr0;clear hd0 hz0;have hsm := hF.small (by omega);go_enter Tryz.func13, Tryz.ntmps13;go_wp2_with fail;obtain ⟨W, hW⟩ : ∃ W, W = ((w.alloc (.cells #[.slice ab d.blocks.length cb, .slice al d.late.length cl] 26)).alloc X8).alloc X8 := ⟨_, rfl⟩;rw [← hW] at g0 hd1 hz1 hr0 ⊢;clear hW
 go_loopw [8] (fun i wr => ∃ k : Nat, k ≤ 6 ∧ i = .int .i64 (k : Int) ∧ Zo w wr ∧ wr.heap[w.heap.size]? = some (.cells #[.slice ab d.blocks.length cb, .slice al d.late.length cl] 26 (0, 0)) ∧ wr.heap[w.heap.size + 1]? = some X8 ∧ wr.heap[w.heap.size + 2]? = some (.cells (Q1 (cnt d k)) 39 (0, 0))) (fun i _ => 6 - (intOf i).toNat)
 case atStart => exact ⟨0, by omega, rfl, g0, hd1, hz1, hr0⟩
 case round =>
  clear g0 hd1 hz1 hr0;obtain ⟨k, hk, rfl, gw, hd1, hz1, hr1⟩ := hrel;by_cases hlt : k < 6
  ·obtain ⟨y0, y1⟩ := Xb hd1 rfl rfl;go_wp2_with fail;refine (Zem d (k : Int) _ wr ⟨_, _, rfl, hb.grow gw, hl.grow gw⟩ hsm.1 hsm.2).mono ?_;rintro r w1 ⟨dv, rfl, ho, g1⟩;obtain ⟨a9, c9, rfl⟩ := Z6 ho;have g2 := Zc w1 (.cells #[.int .i64 (d.tell (k : Int)).kind, .int .i64 (d.tell (k : Int)).key, .int .i64 (d.tell (k : Int)).ver, .slice a9 (d.tell (k : Int)).data.length c9] 61);have gw2 := (gw.trans g1).trans g2;have hd2 := (g2.block _ (Za ((g1.block _ (Za hd1)).trans hd1))).trans ((g1.block _ (Za hd1)).trans hd1);have hz2 := (g2.block _ (Za ((g1.block _ (Za hz1)).trans hz1))).trans ((g1.block _ (Za hz1)).trans hz1);have hr2 := (g2.block _ (Za ((g1.block _ (Za hr1)).trans hr1))).trans ((g1.block _ (Za hr1)).trans hr1);have HC : Hid (Q1 (cnt d (k + 1)) = Q1 (fun i => cnt d k i + (if d.how (k : Int) = i then 1 else 0))) := rfl;have hHb := Zsq d (k : Int);generalize d.tell (k : Int) = tl at *;generalize d.how (k : Int) = H at *;clear y0 y1 gw hd1 hz1 hr1 g1 ho;have hbd := Zm0 d k H;obtain ⟨j, rfl⟩ : ∃ j : Nat, H = (j : Int) := ⟨H.toNat, by omega⟩;have hj6 : j < 6 := by omega
   clear hHb g2;obtain ⟨y0, f0, hr3⟩ := Zrl hr2 hj6;have hb3 := (Zr.refl (w.heap.size + 2) (w1.alloc (.cells #[.int .i64 tl.kind, .int .i64 tl.key, .int .i64 tl.ver, .slice a9 tl.data.length c9] 61))).set j none (.int .i64 (cnt d k (j : Int) + 1));have hd3 := (hb3.block _ (Za hd2) (by omega)).trans hd2;have hz3 := (hb3.block _ (Za hz2) (by omega)).trans hz2;have gw3 := hb3.grow gw2 (by omega);clear hr2 hd2 hz2 gw2 hb3;generalize cnt d k (j : Int) = cj at *;go_wp2_with fail;go_roundw
   case rel => exact ⟨k + 1, by omega, by go_num, gw3, hd3, hz3, by rw [HC.out]; exact hr3⟩
   case measure => simp [intOf]; omega
  ·have hk6 : k = 6 := by omega
   subst hk6;clear hlt;obtain ⟨y0, y1, y2, y3, y4⟩ := Qa hr1 rfl rfl rfl rfl rfl;have y5 := Zd hr1 5 _ rfl;obtain ⟨z0, z1, z2, z3, z4⟩ := Qa hz1 rfl rfl rfl rfl rfl;have z5 := Zd hz1 5 _ rfl;obtain ⟨f0, f1, f2, f3⟩ := Yq hz1;have f4 := Zl hz1 4;have f5 := Zl hz1 5;have cs := Zv;obtain ⟨hq1, hq2⟩ := Zbd hz1 (.int .i64 (cnt d 6 0)) (.int .i64 (cnt d 6 1)) (.int .i64 (cnt d 6 2)) (.int .i64 (cnt d 6 3)) (.int .i64 (cnt d 6 4)) (.int .i64 (cnt d 6 5));obtain ⟨x0, x1, x2, x3, x4⟩ := Qa hq1 rfl rfl rfl rfl rfl;have x5 := Zd hq1 5 _ rfl;have gE := hq2.grow gw (by omega);clear hq1 hq2 hz1 hr1 gw;go_wp2_with fail;exact bodyPost_ret (v := .agg (Q1 (cnt d 6))) (by simp [results, Tryz.results13, go_sem, x0, x1, x2, x3, x4, x5]) rfl ⟨rfl, gE⟩
end Go.Proofs.YtgaecpdokgklpacGreat
