import Derived.Test.YtpdnapbchcdhlacGreatRStore3
set_option maxHeartbeats 8000000
namespace Go.Proofs.YtpdnapbchcdhlacGreat
set_option maxRecDepth 100000
open Go.RowKit
open Plain Reg
def Xr : Ql Int where
 T := 3
 size := 1
 enc _ _ x cs := cs = [.int .i64 x]
 len := by rintro S w x cs rfl; rfl
 keep := by rintro S w w' x cs rfl _; rfl
 mono := by rintro S S' w x cs rfl _; rfl
 cap := by rintro S w x cs rfl; rfl
 one := by
  rintro S w x cs rfl c hc;rw [List.mem_singleton.1 hc]; rfl
theorem Zes : (Tryz.prog.info? 3).map (fun i => (i.zero, i.size, i.bytes)) = some (some (.int .i64 0), 1, 8) := by kernel_rfl
def X7 (d : Dk) (p : Nat) : Nat → Bool
 | 0 => false
 | q + 1 => X7 d p q || decide ((d.tell (q : Int)).kind ≠ 1 ∧ (d.tell (q : Int)).ver = (d.tell (p : Int)).ver)
def Yn (d : Dk) : Nat → List Int
 | 0 => []
 | p + 1 => if (d.tell (p : Int)).kind ≠ 1 ∧ X7 d p p = true then Yn d p ++ [(p : Int)] else Yn d p
theorem K1 (d : Dk) : ∀ p, (Yn d p).length ≤ p
 | 0 => Nat.le_refl _
 | p + 1 => by
  have := K1 d p;unfold Yn;split
  ·simp; omega
  ·omega
theorem Znl (n : Nat) (d : Dk) (v : Value) (w : World) (hd : Vf d v w) (hF : d.Fine n) (hn : n ≤ 900) :
  Calls Tryz.prog 28 #[v] w fun r w' => ∃ v' css, r = .returned v' ∧ Yw Xr (fun _ => False) w.heap.size v' (Yn d 6) css w' ∧ Zn w w' := by
 obtain ⟨i0, hif, hz0, hz1, hz2⟩ := info_parts Zes;obtain ⟨vb, vl, rfl, hb, hl⟩ := hd;obtain ⟨ab, cb, rfl⟩ := hb.form;obtain ⟨al, cl, rfl⟩ := hl.form;have g0 := Zb w (.cells #[.slice ab d.blocks.length cb, .slice al d.late.length cl] 26);have hd0 := Zh w #[.slice ab d.blocks.length cb, .slice al d.late.length cl] 26;have hsm := hF.small (by omega);go_enter Tryz.func28, Tryz.ntmps28;go_wp2_with fail;generalize World.alloc w _ = W at *;go_loopw [3, 11] (fun o i wr => ∃ (k : Nat) (css : List (List Value)), k ≤ 6 ∧ i = .int .i64 (k : Int) ∧ Yw Xr (fun _ => False) (w.heap.size + 1) o (Yn d k) css wr ∧ Zn w wr ∧ wr.heap[w.heap.size]? = some (.cells #[.slice ab d.blocks.length cb, .slice al d.late.length cl] 26 (0, 0))) (fun _ i _ => 6 - (intOf i).toNat)
 case atStart => exact ⟨0, [], by omega, rfl, Yw.nil _ _ _ _, g0, hd0⟩
 case round =>
  clear g0 hd0;obtain ⟨k, css, hk, rfl, hR, gw, hd1⟩ := hrel;by_cases hlt : k < 6
  ·have HT : Hid (Yn d (k + 1) = if (d.tell (k : Int)).kind ≠ 1 ∧ X7 d k k = true then Yn d k ++ [(k : Int)] else Yn d k) := rfl;have HAG : Hid (∀ q : Nat, X7 d k (q + 1) = (X7 d k q || decide ((d.tell (q : Int)).kind ≠ 1 ∧ (d.tell (q : Int)).ver = (d.tell (k : Int)).ver))) := fun _ => rfl
   have hll := K1 d k;generalize Yn d k = xs at *;obtain ⟨a0, c0, rfl⟩ := hR.form;obtain ⟨y0, y1⟩ := Y9 hd1 rfl rfl;go_wp2_with fail;refine (Zdo d (k : Int) _ wr ⟨_, _, rfl, hb.grow gw, hl.grow gw⟩ hsm.1 hsm.2).mono ?_;rintro r w1 ⟨dv, rfl, ho, g1⟩;obtain ⟨a9, c9, rfl⟩ := Ya ho;generalize hTL : d.tell (k : Int) = tl at *;clear hTL;have g2 := Zb w1 (.cells #[.int .i64 tl.kind, .int .i64 tl.key, .int .i64 tl.ver, .slice a9 tl.data.length c9] 61);have hX2 := Zh w1 #[.int .i64 tl.kind, .int .i64 tl.key, .int .i64 tl.ver, .slice a9 tl.data.length c9] 61;have hR2 := (hR.grow g1).grow g2;have gw2 := (gw.trans g1).trans g2;have hd2 := (g2.block _ (Za ((g1.block _ (Za hd1)).trans hd1))).trans ((g1.block _ (Za hd1)).trans hd1);clear y0 y1 hR gw hd1 g1 g2 ho;go_wp2_with fail;obtain ⟨gr, hgr⟩ : ∃ gr, gr = w1.heap.size := ⟨_, rfl⟩;rw [← hgr] at hX2 ⊢;clear hgr;obtain ⟨W2, hW2⟩ : ∃ W2, W2 = w1.alloc (.cells #[.int .i64 tl.kind, .int .i64 tl.key, .int .i64 tl.ver, .slice a9 tl.data.length c9] 61) := ⟨_, rfl⟩;rw [← hW2] at hX2 hR2 gw2 hd2 ⊢;clear hW2;go_loopw [7, 21] (fun ag i wq => ∃ q : Nat, q ≤ k ∧ i = .int .i64 (q : Int) ∧ ag = .bool (X7 d k q) ∧ Zn W2 wq ∧ wq.heap[gr]? = some (.cells #[.int .i64 tl.kind, .int .i64 tl.key, .int .i64 tl.ver, .slice a9 tl.data.length c9] 61 (0, 0))) (fun _ i _ => k - (intOf i).toNat)
   case atStart => exact ⟨0, Nat.zero_le _, rfl, rfl, Zn.refl _, hX2⟩
   case round =>
    clear hX2;obtain ⟨q, hq, rfl, rfl, gq, hX2⟩ := hrel;have hdq := (gq.block _ (Za hd2)).trans hd2;by_cases hql : q < k
    ·obtain ⟨y0, y1⟩ := Y9 hdq rfl rfl;have HAQ : Hid _ := HAG.out q;generalize X7 d k q = AG at *;go_wp2_with fail;refine (Zdo d (q : Int) _ wr ⟨_, _, rfl, hb.grow (gw2.trans gq), hl.grow (gw2.trans gq)⟩ hsm.1 hsm.2).mono ?_;rintro r w3 ⟨dv, rfl, ho, g3⟩;obtain ⟨a8, c8, rfl⟩ := Ya ho;generalize d.tell (q : Int) = tq at *;have g4 := Zb w3 (.cells #[.int .i64 tq.kind, .int .i64 tq.key, .int .i64 tq.ver, .slice a8 tq.data.length c8] 61);have hY := Zh w3 #[.int .i64 tq.kind, .int .i64 tq.key, .int .i64 tq.ver, .slice a8 tq.data.length c8] 61;have hX3 := (g4.block _ (Za ((g3.block _ (Za hX2)).trans hX2))).trans ((g3.block _ (Za hX2)).trans hX2);have gq3 := (gq.trans g3).trans g4;clear y0 y1 hdq gq g3 g4 ho hX2;have z0 := Zc hY 0 _ rfl;have z2 := Zc hY 2 _ rfl;have x2 := Zc hX3 2 _ rfl;clear hY;cases AG with
     | true =>
      have HA2 : Hid (X7 d k (q + 1) = true) := by show _ = _; rw [HAQ.out]; rfl
      clear HAQ;go_wp2_with fail;go_roundw
      case rel => exact ⟨q + 1, by omega, by go_num, by rw [HA2.out], gq3, hX3⟩
      case measure => simp [intOf]; omega
     | false =>
      by_cases h1 : tq.kind = 1
      ·have d1 : (tq.kind != 1) = false := by simp [h1]
       have HA2 : Hid (X7 d k (q + 1) = false) := by show _ = _; rw [HAQ.out]; simp [h1]
       clear HAQ h1;go_wp2_with fail;go_roundw
       case rel => exact ⟨q + 1, by omega, by go_num, by rw [HA2.out], gq3, hX3⟩
       case measure => simp [intOf]; omega
      ·have d1 : (tq.kind != 1) = true := by simp [h1]
       by_cases hv : tq.ver = tl.ver
       ·have dv : (tq.ver == tl.ver) = true := by simp [hv]
        have HA2 : Hid (X7 d k (q + 1) = true) := by show _ = _; rw [HAQ.out]; simp [h1, hv]
        clear HAQ h1 hv;go_wp2_with fail;go_roundw
        case rel => exact ⟨q + 1, by omega, by go_num, by rw [HA2.out], gq3, hX3⟩
        case measure => simp [intOf]; omega
       ·have dv : (tq.ver == tl.ver) = false := by simp [hv]
        have HA2 : Hid (X7 d k (q + 1) = false) := by show _ = _; rw [HAQ.out]; simp [hv]
        clear HAQ h1 hv;go_wp2_with fail;go_roundw
        case rel => exact ⟨q + 1, by omega, by go_num, by rw [HA2.out], gq3, hX3⟩
        case measure => simp [intOf]; omega
    ·have HQK : Hid (X7 d k q = X7 d k k) := by show _ = _; rw [show q = k by omega]
     rw [HQK.out];have hR4 := hR2.grow gq;have gw4 := gw2.trans gq;have hd4 := hdq;have x0 := Zc hX2 0 _ rfl;obtain ⟨AG, hAG⟩ : ∃ AG, AG = X7 d k k := ⟨_, rfl⟩;rw [← hAG] at HT ⊢;clear hX2 gq hdq HQK HAG hAG hR2 gw2 hd2;by_cases h1 : tl.kind = 1
     ·have d1 : (tl.kind != 1) = false := by simp [h1]
      have HT2 : Hid (Yn d (k + 1) = xs) := by show _ = _; rw [HT.out, if_neg (fun h => h.1 h1)]
      clear HT h1;go_wp2_with fail;go_roundw
      case rel => exact ⟨k + 1, css, by omega, by go_num, by rw [HT2.out]; exact hR4, gw4, hd4⟩
      case measure => simp [intOf]; omega
     ·have d1 : (tl.kind != 1) = true := by simp [h1]
      cases AG with
      | false =>
       have HT2 : Hid (Yn d (k + 1) = xs) := by show _ = _; rw [HT.out, if_neg (fun h => by cases h.2)]
       clear HT h1;go_wp2_with fail;go_roundw
       case rel => exact ⟨k + 1, css, by omega, by go_num, by rw [HT2.out]; exact hR4, gw4, hd4⟩
       case measure => simp [intOf]; omega
      | true =>
       have HT2 : Hid (Yn d (k + 1) = xs ++ [(k : Int)]) := by show _ = _; rw [HT.out, if_pos ⟨h1, rfl⟩]
       have HSZ : Hid (w.heap.size + 1 ≤ wr.heap.size) := Za hd4;have hnew : ∀ (t : Nat) u, ([.int .i64 (k : Int)] : List Value)[t]? = some u → (wr.alloc (.cells #[.int .i64 (k : Int)] 3)).cell? ((⟨wr.heap.size, 0, none⟩ : Addr).add t) = some u := by
        intro t u ht
        match t, ht with
        | 0, ht => simp at ht; subst ht; simp [Addr.add]
        | t + 1, ht => simp at ht
       clear HT h1;go_wp2_with (at_builtin; refine wpList_append_own _ rfl (.tmp 50) (.tmp 52) 31 rfl (w.heap.size + 1) 3 i0 (.int .i64 0) 1 8 Tryz.underlying31 hif hz0 hz1 hz2 rfl (by decide) (.slice a0 xs.length c0) _ _ rfl (hR4.row.alloc _) ⟨wr.heap.size, 0, none⟩ 1 1 [.int .i64 (k : Int)] rfl rfl hnew (by intro u hu; simp at hu; subst hu; rfl) (by unfold maxLen; omega) (by omega) (by have := HSZ.out; simp; omega) ?_; intro v5 w5 hown5 hgrow5 _; have hR6 := hR4.step (x := (k : Int)) (by decide) (fun b h => h.elim) rfl hgrow5 hown5; have g6 : Zn w w5 := Z6 (gw4.trans (Zb _ _)) hgrow5 (fun k hk => by have := (hR4.row.lt k hk).1; omega); have hd6 := (X4 hR4.row hgrow5 (Ka hR4.row (by omega)) (Za hd4)).trans hd4; have hsl := Ya hown5; obtain ⟨a4, c4, hv4⟩ := hsl; subst hv4; clear hgrow5 hown5 hR4 hnew gw4 hd4);go_roundw
       case rel => exact ⟨k + 1, _, by omega, by go_num, by rw [HT2.out]; exact hR6, g6, hd6⟩
       case measure => simp [intOf]; omega
  ·have hRE : ∃ css, Yw Xr (fun _ => False) w.heap.size _ (Yn d 6) css wr := ⟨css, by
    have e : k = 6 := by omega
    subst e;exact ⟨hR.len, fun i hi => (hR.each i hi).imp fun _ x => ⟨x.1, x.2⟩, Yj hR.row (by omega)⟩⟩
   obtain ⟨css2, hE⟩ := hRE;clear hR;obtain ⟨a4, c4, rfl⟩ := hE.form;go_wp2_with fail;go_ret;exact ⟨_, _, rfl, hE, gw⟩
variable {T : TypeId} {g : Nat} {w : World}
theorem Zvf (d : Dk) (p : Int) : 0 ≤ d.how p ∧ d.how p < 6 := by
 unfold Dk.how;split
 ·omega
 ·split
  ·split <;> omega
  ·split
   ·omega
   ·split
    ·omega
    ·split <;> omega
def cnt (d : Dk) : Nat → Int → Int
 | 0, _ => 0
 | k + 1, i => cnt d k i + (if d.how (k : Int) = i then 1 else 0)
theorem Zo5 (d : Dk) : ∀ (k : Nat) (i : Int), 0 ≤ cnt d k i ∧ cnt d k i ≤ (k : Int)
 | 0, _ => by simp [cnt]
 | k + 1, i => by
  have := Zo5 d k i;unfold cnt;split <;> omega
abbrev Vl (f : Int → Int) : Array Value := #[.int .i64 (f 0), .int .i64 (f 1), .int .i64 (f 2), .int .i64 (f 3), .int .i64 (f 4), .int .i64 (f 5)]
abbrev Qn : Obj := .cells #[.int .i64 0, .int .i64 0, .int .i64 0, .int .i64 0, .int .i64 0, .int .i64 0] 39 (0, 0)
theorem Zca {f} {c0 c1 c2 c3 c4 c5 : Value} (h : w.heap[g]? = some (.cells #[c0, c1, c2, c3, c4, c5] T f)) (x0 x1 x2 x3 x4 x5 : Value) :
  ((((((w.setCell ⟨g, 0, none⟩ x0).setCell ⟨g, 1, none⟩ x1).setCell ⟨g, 2, none⟩ x2).setCell ⟨g, 3, none⟩ x3).setCell ⟨g, 4, none⟩ x4).setCell ⟨g, 5, none⟩ x5).heap[g]? = some (.cells #[x0, x1, x2, x3, x4, x5] T f) ∧ Zp g w ((((((w.setCell ⟨g, 0, none⟩ x0).setCell ⟨g, 1, none⟩ x1).setCell ⟨g, 2, none⟩ x2).setCell ⟨g, 3, none⟩ x3).setCell ⟨g, 4, none⟩ x4).setCell ⟨g, 5, none⟩ x5) :=
 ⟨Yh (Yh (Yh (Yh (Yh (Yh h 0 x0) 1 x1) 2 x2) 3 x3) 4 x4) 5 x5, ((((((Zp.refl g w).set _ _ _).set _ _ _).set _ _ _).set _ _ _).set _ _ _).set _ _ _⟩
theorem Zt7 {c : Int → Int} (h : w.heap[g]? = some (.cells (Vl c) T (0, 0))) {j : Nat} (hj : j < 6) :
  w.cell? ⟨g, j, none⟩ = some (.int .i64 (c (j : Int))) ∧ w.frozen? ⟨g, j, none⟩ = false ∧ (w.setCell ⟨g, j, none⟩ (.int .i64 (c (j : Int) + 1))).heap[g]? = some (.cells (Vl (fun i => c i + (if (j : Int) = i then 1 else 0))) T (0, 0)) := by
 have hs := Yh h j (.int .i64 (c (j : Int) + 1))
 match j, hj with
 | 0, _ | 1, _ | 2, _ | 3, _ | 4, _ | 5, _ => exact ⟨Zc h _ _ rfl, Zk h _, by rw [hs]; simp [Vl]⟩
theorem Zk4 (n : Nat) (d : Dk) (v : Value) (w : World) (hd : Vf d v w) (hF : d.Fine n) (hn : n ≤ 900) :
  Calls Tryz.prog 16 #[v] w fun r w' => r = .returned (.agg (Vl (cnt d 6))) ∧ Zn w w' := by
 obtain ⟨vb, vl, rfl, hb, hl⟩ := hd;obtain ⟨ab, cb, rfl⟩ := hb.form;obtain ⟨al, cl, rfl⟩ := hl.form;have g0 := (Zq w (.cells #[.slice ab d.blocks.length cb, .slice al d.late.length cl] 26) Qn).trans (Zb _ Qn);have hd0 := Zh w #[.slice ab d.blocks.length cb, .slice al d.late.length cl] 26;have hz0 := Zh (w.alloc (.cells #[.slice ab d.blocks.length cb, .slice al d.late.length cl] 26)) #[.int .i64 0, .int .i64 0, .int .i64 0, .int .i64 0, .int .i64 0, .int .i64 0] 39;have hr0 := Zh ((w.alloc (.cells #[.slice ab d.blocks.length cb, .slice al d.late.length cl] 26)).alloc Qn) #[.int .i64 0, .int .i64 0, .int .i64 0, .int .i64 0, .int .i64 0, .int .i64 0] 39;have hd1 := ((Zq (w.alloc (.cells #[.slice ab d.blocks.length cb, .slice al d.late.length cl] 26)) Qn Qn).block _ (Za hd0)).trans hd0;have hz1 := ((Zb ((w.alloc (.cells #[.slice ab d.blocks.length cb, .slice al d.late.length cl] 26)).alloc Qn) Qn).block _ (Za hz0)).trans hz0;rw [World.size_alloc] at hz1;rw [World.size_alloc, World.size_alloc] at hr0;clear hd0 hz0;have hsm := hF.small (by omega);go_enter Tryz.func16, Tryz.ntmps16;go_wp2_with fail;obtain ⟨W, hW⟩ : ∃ W, W = ((w.alloc (.cells #[.slice ab d.blocks.length cb, .slice al d.late.length cl] 26)).alloc Qn).alloc Qn := ⟨_, rfl⟩;rw [← hW] at g0 hd1 hz1 hr0 ⊢;clear hW
 go_loopw [8] (fun i wr => ∃ k : Nat, k ≤ 6 ∧ i = .int .i64 (k : Int) ∧ Zn w wr ∧ wr.heap[w.heap.size]? = some (.cells #[.slice ab d.blocks.length cb, .slice al d.late.length cl] 26 (0, 0)) ∧ wr.heap[w.heap.size + 1]? = some Qn ∧ wr.heap[w.heap.size + 2]? = some (.cells (Vl (cnt d k)) 39 (0, 0))) (fun i _ => 6 - (intOf i).toNat)
 case atStart => exact ⟨0, by omega, rfl, g0, hd1, hz1, hr0⟩
 case round =>
  clear g0 hd1 hz1 hr0;obtain ⟨k, hk, rfl, gw, hd1, hz1, hr1⟩ := hrel;by_cases hlt : k < 6
  ·obtain ⟨y0, y1⟩ := Y9 hd1 rfl rfl;go_wp2_with fail;refine (Zdo d (k : Int) _ wr ⟨_, _, rfl, hb.grow gw, hl.grow gw⟩ hsm.1 hsm.2).mono ?_;rintro r w1 ⟨dv, rfl, ho, g1⟩;obtain ⟨a9, c9, rfl⟩ := Ya ho;have g2 := Zb w1 (.cells #[.int .i64 (d.tell (k : Int)).kind, .int .i64 (d.tell (k : Int)).key, .int .i64 (d.tell (k : Int)).ver, .slice a9 (d.tell (k : Int)).data.length c9] 61);have gw2 := (gw.trans g1).trans g2;have hd2 := (g2.block _ (Za ((g1.block _ (Za hd1)).trans hd1))).trans ((g1.block _ (Za hd1)).trans hd1);have hz2 := (g2.block _ (Za ((g1.block _ (Za hz1)).trans hz1))).trans ((g1.block _ (Za hz1)).trans hz1);have hr2 := (g2.block _ (Za ((g1.block _ (Za hr1)).trans hr1))).trans ((g1.block _ (Za hr1)).trans hr1);have HC : Hid (Vl (cnt d (k + 1)) = Vl (fun i => cnt d k i + (if d.how (k : Int) = i then 1 else 0))) := rfl;have hHb := Zvf d (k : Int);generalize d.tell (k : Int) = tl at *;generalize d.how (k : Int) = H at *;clear y0 y1 gw hd1 hz1 hr1 g1 ho;have hbd := Zo5 d k H;obtain ⟨j, rfl⟩ : ∃ j : Nat, H = (j : Int) := ⟨H.toNat, by omega⟩;have hj6 : j < 6 := by omega
   clear hHb g2;obtain ⟨y0, f0, hr3⟩ := Zt7 hr2 hj6;have hb3 := (Zp.refl (w.heap.size + 2) (w1.alloc (.cells #[.int .i64 tl.kind, .int .i64 tl.key, .int .i64 tl.ver, .slice a9 tl.data.length c9] 61))).set j none (.int .i64 (cnt d k (j : Int) + 1));have hd3 := (hb3.block _ (Za hd2) (by omega)).trans hd2;have hz3 := (hb3.block _ (Za hz2) (by omega)).trans hz2;have gw3 := hb3.grow gw2 (by omega);clear hr2 hd2 hz2 gw2 hb3;generalize cnt d k (j : Int) = cj at *;go_wp2_with fail;go_roundw
   case rel => exact ⟨k + 1, by omega, by go_num, gw3, hd3, hz3, by rw [HC.out]; exact hr3⟩
   case measure => simp [intOf]; omega
  ·have hk6 : k = 6 := by omega
   subst hk6;clear hlt;obtain ⟨y0, y1, y2, y3, y4⟩ := Qb hr1 rfl rfl rfl rfl rfl;have y5 := Zc hr1 5 _ rfl;obtain ⟨z0, z1, z2, z3, z4⟩ := Qb hz1 rfl rfl rfl rfl rfl;have z5 := Zc hz1 5 _ rfl;obtain ⟨f0, f1, f2, f3⟩ := Yr hz1;have f4 := Zk hz1 4;have f5 := Zk hz1 5;have cs := Zr;obtain ⟨hq1, hq2⟩ := Zca hz1 (.int .i64 (cnt d 6 0)) (.int .i64 (cnt d 6 1)) (.int .i64 (cnt d 6 2)) (.int .i64 (cnt d 6 3)) (.int .i64 (cnt d 6 4)) (.int .i64 (cnt d 6 5));obtain ⟨x0, x1, x2, x3, x4⟩ := Qb hq1 rfl rfl rfl rfl rfl;have x5 := Zc hq1 5 _ rfl;have gE := hq2.grow gw (by omega);clear hq1 hq2 hz1 hr1 gw;go_wp2_with fail;exact bodyPost_ret (v := .agg (Vl (cnt d 6))) (by simp [results, Tryz.results16, go_sem, x0, x1, x2, x3, x4, x5]) rfl ⟨rfl, gE⟩
variable {R : Array Value} {W w w' : World} {a : Nat} {dn : Nat → Bool} {f : Nat → Value}
def Vh (D : Dk) (tw : List Int) : Nat → Dk
 | 0 => D
 | p + 1 => ((Vh D tw p).pairD (p : Int) (if tw.contains (p : Int) = true then Rec.free else (Vh D tw p).tell (p : Int))).flush
def Dk.clean (d : Dk) : Dk := Vh (d.keep 0) (Yn (d.keep 0) 6) 6
theorem Zby {D : Dk} (h : D.Fine 0) (tw : List Int) : ∀ p, (Vh D tw p).Fine 0
 | 0 => h
 | p + 1 => ((Zby h tw p).pair _ _).flush
theorem Yw.boxI {B : Nat} {v : Value} {xs : List Int} {css : List (List Value)} {T : TypeId} (h : Yw Xr (fun _ => False) B v xs css w) (hT : 3 ≠ T) (hs : Yz T w w') : Yw Xr (fun _ => False) B v xs css w' :=
 ⟨h.len, fun i hi => (h.each i hi).imp fun _ x => ⟨x.1, x.2⟩, Qt hT hs h.row⟩
theorem Zc6 (l : List Int) (k : Nat) (h : k < l.length) (x : Int) : (l.take (k + 1)).contains x = ((l.take k).contains x || x == l[k]) := by
 rw [Bool.eq_iff_iff];simp only [Bool.or_eq_true, List.contains_iff_mem, beq_iff_eq];rw [List.take_succ_eq_append_getElem h, List.mem_append, List.mem_singleton]
def Zcc (W : World) (R : Array Value) (a s : Nat) (dn : Nat → Bool) (f : Nat → Value) (w : World) : Prop :=
 Zn W w ∧ (dn a = true → dn s = false → ∃ g, f a = .pointer (some ⟨g, 0, none⟩) ∧ W.heap.size ≤ g ∧ w.heap[g]? = some Qn) ∧ (dn s = true → ∃ g, f a = .pointer (some ⟨g, 0, none⟩) ∧ W.heap.size ≤ g ∧ w.heap[g]? = some (.cells R 39 (0, 0)))
theorem Zcc.start (W : World) (R : Array Value) (a s : Nat) (f : Nat → Value) : Zcc W R a s (fun _ => false) f W.drew := ⟨(Zn.refl _).drew, (fun h => by cases h), (fun h => by cases h)⟩
theorem Zcc.on {s : Nat} (h : Zcc W R a s dn f w) (hg : Zn w w') : Zcc W R a s dn f w' := by
 refine ⟨h.1.trans hg, fun h1 h2 => ?_, fun h1 => ?_⟩
 ·obtain ⟨g, k1, k2, k3⟩ := h.2.1 h1 h2;exact ⟨g, k1, k2, (hg.block _ (Za k3)).trans k3⟩
 ·obtain ⟨g, k1, k2, k3⟩ := h.2.2 h1;exact ⟨g, k1, k2, (hg.block _ (Za k3)).trans k3⟩
theorem Zcc.made {s : Nat} (h : Zcc W R a s dn f w) (n : s ≠ a) (hs : dn s = false) : Zcc W R a s (upd dn a) (K2 f a (.pointer (some ⟨w.heap.size, 0, none⟩))) (w.alloc Qn) :=
 ⟨h.1.trans (Zb _ _), fun _ _ => ⟨_, Vb, h.1.size, Zh _ _ _⟩, fun h1 => by rw [Qd n, hs] at h1; cases h1⟩
theorem Zcc.put {s g : Nat} {u : Value} (h : Zcc W R a s dn f w) (n : a ≠ s) (hf : f a = .pointer (some ⟨g, 0, none⟩)) (hg : W.heap.size ≤ g) (hb : Zp g w w') (hh : w'.heap[g]? = some (.cells R 39 (0, 0))) : Zcc W R a s (upd dn s) (K2 f s u) w' :=
 ⟨hb.grow h.1 hg, (fun _ h2 => by rw [Kj] at h2; cases h2), fun _ => ⟨g, by rw [V4 n]; exact hf, hg, hh⟩⟩
theorem Zn0 (S : Nat → Prop) (n : Nat) (d : Dk) (v : Value) (w : World) (hS : ∀ b, S b → b < w.heap.size) (hd : Yu S d v w) (hF : d.Fine n) (hn : n ≤ 900) :
  Calls Tryz.prog 58 #[v] w fun r w' => ∃ v' vt, r = .returned (.tuple #[v', .agg (Vl (cnt (d.keep 0) 6)), vt]) ∧ Yu (Zt S w.heap.size) d.clean v' w' ∧ Zs Xr (Zt (fun _ => False) w.heap.size) w' vt (Yn (d.keep 0) 6) ∧ Zn w w' := by
 obtain ⟨ab, cb, al, cl, rfl, hb, hl⟩ := hd.form;have g0 := (Zq w (.cells #[.slice ab d.blocks.length cb, .slice al d.late.length cl] 26) (.cells #[.slice none 0 0, .slice none 0 0] 26)).trans (Zb _ Qn);have hD0 := Zh w #[.slice ab d.blocks.length cb, .slice al d.late.length cl] 26;have hZ0 := Zh (w.alloc (.cells #[.slice ab d.blocks.length cb, .slice al d.late.length cl] 26)) #[.slice none 0 0, .slice none 0 0] 26;have hQ1 := Zh ((w.alloc (.cells #[.slice ab d.blocks.length cb, .slice al d.late.length cl] 26)).alloc (.cells #[.slice none 0 0, .slice none 0 0] 26)) #[.int .i64 0, .int .i64 0, .int .i64 0, .int .i64 0, .int .i64 0, .int .i64 0] 39;have hD1 := ((Zq (w.alloc (.cells #[.slice ab d.blocks.length cb, .slice al d.late.length cl] 26)) (.cells #[.slice none 0 0, .slice none 0 0] 26) Qn).block _ (Za hD0)).trans hD0;have hZ1 := ((Zb ((w.alloc (.cells #[.slice ab d.blocks.length cb, .slice al d.late.length cl] 26)).alloc (.cells #[.slice none 0 0, .slice none 0 0] 26)) Qn).block _ (Za hZ0)).trans hZ0;rw [World.size_alloc] at hZ1;rw [World.size_alloc, World.size_alloc] at hQ1;clear hD0 hZ0 hb hl;have HF : Hid (d.Fine n) := hF;obtain ⟨K, hK⟩ : ∃ K, K = d.keep 0 := ⟨_, rfl⟩;have HFK : Hid (K.Fine 0) := by rw [hK]; exact hF.kept 0
 have HCL : Hid (d.clean = Vh K (Yn K 6) 6) := by rw [hK]; rfl
 rw [HCL.out, ← hK];obtain ⟨tw, htw⟩ : ∃ tw, tw = Yn K 6 := ⟨_, rfl⟩;rw [← htw];have HTW : Hid _ := htw;have HTL : Hid (tw.length ≤ 6) := by rw [htw]; exact K1 K 6
 have HK : Hid _ := hK;clear hK hF HCL htw;go_enter Tryz.func58, Tryz.ntmps58;obtain ⟨y0, y1⟩ := Y9 hD1 rfl rfl;go_wp2_with fail;obtain ⟨W, hW⟩ : ∃ W, W = ((w.alloc (.cells #[.slice ab d.blocks.length cb, .slice al d.late.length cl] 26)).alloc (.cells #[.slice none 0 0, .slice none 0 0] 26)).alloc Qn := ⟨_, rfl⟩;have hWs : W.heap.size = w.heap.size + 3 := by rw [hW]; simp
 rw [← hW] at g0 hD1 hZ1 hQ1 y0 y1 ⊢;clear hW;refine (Zjp S n d 0 _ W (fun b h => by have := hS b h; omega) (hd.grow g0) HF.out (by omega)).mono ?_;rw [← HK.out, hWs];rintro r w1 ⟨v1, rfl, h1, g1⟩;obtain ⟨b1, e1, l1, m1, rfl, h1b, h1l⟩ := h1.form;have hD2 := (g1.block _ (Za hD1)).trans hD1;have hZ2 := (g1.block _ (Za hZ1)).trans hZ1;have hQ2 := (g1.block _ (Za hQ1)).trans hQ1;have gw1 := g0.trans g1;clear y0 y1;obtain ⟨y0, y1⟩ := Y9 hD2 rfl rfl;have f0 := Zk hD2 0;have f1 := Zk hD2 1;obtain ⟨hp1, hp2⟩ := Ky hD2 (.slice b1 K.blocks.length e1) (.slice l1 K.late.length m1);have hZ3 := (hp2.block _ (Za hZ2) (by omega)).trans hZ2;have hQ3 := (hp2.block _ (Za hQ2) (by omega)).trans hQ2;have hns : ¬ Zt S (w.heap.size + 3) w.heap.size := Ym hS (by omega);have hbb := h1b.but hp2 hns;have hll := h1l.but hp2 hns;have gw2 := hp2.grow gw1 (Nat.le_refl _);have cs := Zr;clear h1 h1b h1l hD2 hZ2 hQ2 hp2 gw1 g1 g0 hD1 hZ1 hQ1 hd HF;go_wp2_with fail;clear y0 y1 f0 f1 cs;generalize (w1.setCell ⟨w.heap.size, 0, none⟩ (.slice b1 K.blocks.length e1)).setCell ⟨w.heap.size, 1, none⟩ (.slice l1 K.late.length m1) = W2 at *;have HSZ2 : Hid (w.heap.size + 3 ≤ W2.heap.size) := Za hQ3
 refine Vu [px (.agg #[.slice b1 K.blocks.length e1, .slice l1 K.late.length m1]), px (.agg (Vl (cnt K 6))), px (.agg #[.slice b1 K.blocks.length e1, .slice l1 K.late.length m1]), pl ((fun v w' => ∃ css, Yw Xr (fun _ => False) W2.heap.size v tw css w')), pl ((fun _ _ => True)), pl ((fun _ _ => True)), pl1 3 ((fun v u _ => v = u))] [none, none, none, none, none, some ((Yz 39))] (Zcc W2 (Vl (cnt K 6)) 4 5) (by kernel_rfl) (by kernel_rfl) ⟨se, se, se, Yk ((fun _ _ _ hg h => h.imp fun _ x => x.grow hg)), Yk ((fun _ _ _ _ _ => trivial)), Yk ((fun _ _ _ _ _ => trivial)), (fun _ _ _ _ _ h => h), trivial⟩ ⟨⟨(fun w => .inl rfl), ⟨x5, x5, x5, .inr ((fun v _ w1 w' hs hq => hq.imp fun _ x => Yw.boxI x (by decide) hs)), .inr ((fun _ _ _ _ _ _ => trivial)), .inl (by kernel_rfl), .inl (by kernel_rfl), trivial⟩⟩, trivial⟩ ⟨n5, n5, n5, n5, n5, fun _ _ _ _ h => h, n5, trivial⟩ (Zcc.start _ _ _ _) ?_ ?_
 ·refine ⟨?_, ?_, ?_, ?_, ?_, ?_, ?_, trivial⟩
  ·refine Zu rfl fun a _ _ _ _ C B A => ?_;have e1 : a (.tmp 1) = .pointer (some ⟨w.heap.size, 0, none⟩) := Zm A 1 rfl;have hh := (B.1.block _ (Za hp1)).trans hp1;obtain ⟨z0, z1⟩ := Y9 hh rfl rfl;refine Qx ?_ B rfl;clear A B C hh;go_simp;all_goals go_arith
  ·refine Zu rfl fun a B _ _ _ D C A => ?_;have e16 : a (.tmp 16) = _ := Zf A 0 rfl;refine Yf (f := 16) (args := #[.agg #[.slice b1 K.blocks.length e1, .slice l1 K.late.length m1]]) ?_ ((Zk4 0 K _ B ⟨_, _, rfl, hbb.p.grow C.1, hll.p.grow C.1⟩ HFK.out (by omega)).mono ?_)
   ·clear A C D;go_simp;all_goals go_arith
   ·rintro e w2 ⟨rfl, g2⟩;exact ⟨_, rfl, g2, trivial, Zcc.on C g2, rfl⟩
  ·refine Zu rfl fun a _ _ _ _ C B A => ?_;have e1 : a (.tmp 1) = .pointer (some ⟨w.heap.size, 0, none⟩) := Zm A 1 rfl;have hh := (B.1.block _ (Za hp1)).trans hp1;obtain ⟨z0, z1⟩ := Y9 hh rfl rfl;refine Qx ?_ B rfl;clear A B C hh;go_simp;all_goals go_arith
  ·refine Zu rfl fun a B _ _ _ D C A => ?_;have e18 : a (.tmp 18) = _ := Zf A 2 rfl;refine Yf (f := 28) (args := #[.agg #[.slice b1 K.blocks.length e1, .slice l1 K.late.length m1]]) ?_ ((Znl 0 K _ B ⟨_, _, rfl, hbb.p.grow C.1, hll.p.grow C.1⟩ HFK.out (by omega)).mono ?_)
   ·clear A C D;go_simp;all_goals go_arith
   ·rw [← HTW.out];rintro e w2 ⟨v2, css, rfl, hO, g2⟩;exact ⟨_, rfl, g2, trivial, Zcc.on C g2, css, hO.len, fun i hi => hO.each i hi, Yj hO.row C.1.size⟩
  ·refine Zu rfl fun a w' _ _ _ C B A => ?_;refine Qy (v := .pointer (some ⟨w'.heap.size, 0, none⟩)) (w' := w'.alloc Qn) ?_ (Zb _ _) (Zcc.made B (by decide) (C.not1 5 (by kernel_rfl))) trivial;clear A B C;go_simp;all_goals go_arith
  ·refine Zu rfl fun a w' _ _ _ C B A => ?_;have e5 : ((fun _ _ => True)) (a (.tmp 5)) w' := Zf A 4 rfl;have e17 : a (.tmp 17) = _ := Zf A 1 rfl;obtain ⟨g, hf, hgg, hh⟩ := B.2.1 (C.rd 4 (by kernel_rfl)) C.un;replace hf : a (.tmp 5) = .pointer (some ⟨g, 0, none⟩) := hf;obtain ⟨hq1, hq2⟩ := Zca hh (.int .i64 (cnt K 6 0)) (.int .i64 (cnt K 6 1)) (.int .i64 (cnt K 6 2)) (.int .i64 (cnt K 6 3)) (.int .i64 (cnt K 6 4)) (.int .i64 (cnt K 6 5));obtain ⟨y0, y1, y2, y3, y4⟩ := Qb hh rfl rfl rfl rfl rfl;have y5 := Zc hh 5 _ rfl;obtain ⟨f0, f1, f2, f3⟩ := Yr hh;have f4 := Zk hh 4;have f5 := Zk hh 5;have cs := Zr;refine Zm3 (w' := _) ?_ (.inr ⟨g, _, _, hq2, hh, hq1, rfl⟩) (Zcc.put B (by decide) hf hgg hq2 hq1) trivial;clear A B C hq1 hq2 hh;go_simp;all_goals go_arith
  ·refine Zu rfl fun a B _ _ _ _ C A => ?_;have e19 : ((fun v B => ∃ css, Yw Xr (fun _ => False) W2.heap.size v tw css B)) (a (.tmp 19)) B := Zf A 3 rfl;exact Xn rfl C rfl
 ·intro vs w' dn hdn hg ht;obtain ⟨q16, q17, q18, q19, q5, qo5, q6, -⟩ := ht;have r16 : vs 0 = _ := q16;have r17 : vs 1 = _ := q17;have r18 : vs 2 = _ := q18;replace q19 : ((fun v w' => ∃ css, Yw Xr (fun _ => False) W2.heap.size v tw css w')) (vs 3) w' := q19;replace q5 : ((fun _ _ => True)) (vs 4) w' := q5;replace qo5 : ((fun _ _ => True)) (vs 5) w' := qo5;replace q6 : ((fun v u _ => v = u)) (vs 6) (vs 3) w' := q6;clear q16 q17 q18;simp only [Ye, Act.put, List.setIfInBounds_toArray, List.set_cons_zero, List.set_cons_succ, Nat.reduceAdd, r16, r17, r18];clear r16 r17 r18;obtain ⟨g5, hf5, hg5, hr5⟩ := hg.2.2 (hdn 5 (by decide));obtain ⟨css, hT⟩ := q19;have e6 : vs 6 = vs 3 := q6;rw [e6, hf5];have hTS := hT.slice;obtain ⟨at3, ct3, h3⟩ := hTS.form;rw [h3] at hTS ⊢;have gw3 := gw2.trans hg.1;have hD3 := (hg.1.block _ (Za hp1)).trans hp1;have hZ4 := (hg.1.block _ (Za hZ3)).trans hZ3;have hQ4 := (hg.1.block _ (Za hQ3)).trans hQ3;have hbb3 := hbb.grow hg.1;have hll3 := hll.grow hg.1;have hTT : Zs Xr (Zt (fun _ => False) (w.heap.size + 3)) w' (.slice at3 tw.length ct3) tw := hTS.mono (Z0 HSZ2.out);have HG5 : Hid (w.heap.size + 3 ≤ g5) := Nat.le_trans HSZ2.out hg5;clear hg hdn q5 qo5 q6 e6 hT hTS hf5 h3 hg5 hp1 hZ3 hQ3 hbb hll gw2;go_wp2_with fail
  go_loopw [20] (fun i wr => ∃ (p : Nat) (D : Dk) (bo : Option Addr) (eo : Nat) (lo : Option Addr) (mo : Nat), p ≤ 6 ∧ i = .int .i64 (p : Int) ∧ Hid (D = Vh K tw p) ∧ Zn w wr ∧ wr.heap[w.heap.size]? = some (.cells #[.slice bo D.blocks.length eo, .slice lo D.late.length mo] 26 (0, 0)) ∧ Y1 (Zt S (w.heap.size + 3)) wr (.slice bo D.blocks.length eo) D.blocks ∧ Xm (Zt S (w.heap.size + 3)) wr (.slice lo D.late.length mo) D.late ∧ wr.heap[w.heap.size + 1]? = some (.cells #[.slice none 0 0, .slice none 0 0] 26 (0, 0)) ∧ wr.heap[w.heap.size + 2]? = some Qn ∧ wr.heap[g5]? = some (.cells (Vl (cnt K 6)) 39 (0, 0)) ∧ Zs Xr (Zt (fun _ => False) (w.heap.size + 3)) wr (.slice at3 tw.length ct3) tw) (fun i _ => 6 - (intOf i).toNat)
  case atStart => exact ⟨0, K, b1, e1, l1, m1, by omega, rfl, (by show _ = _; rfl), gw3, hD3, hbb3, hll3, hZ4, hQ4, hr5, hTT⟩
  case round =>
   clear gw3 hD3 hbb3 hll3 hZ4 hQ4 hr5 hTT;obtain ⟨p, D, bo, eo, lo, mo, hp, rfl, HD, gw, hD, hb, hl, hZ, hQ, hr5, hTT⟩ := hrel;have HFD : Hid (D.Fine 0) := by rw [HD.out]; exact Zby HFK.out tw p
   have hsm := HFD.out.small (by omega);by_cases hlt : p < 6
   ·have HDN : Hid (Vh K tw (p + 1) = (D.pairD (p : Int) (if tw.contains (p : Int) = true then Rec.free else D.tell (p : Int))).flush) := by show _ = _; rw [HD.out]; rfl
    obtain ⟨y0, y1⟩ := Y9 hD rfl rfl;go_wp2_with fail;refine (Zdo D (p : Int) _ wr ⟨_, _, rfl, hb.p, hl.p⟩ hsm.1 hsm.2).mono ?_;rintro r w4 ⟨dv, rfl, ho, g4⟩;obtain ⟨a9, c9, rfl⟩ := Ya ho;generalize D.tell (p : Int) = tl at *;obtain ⟨g9, hg9⟩ : ∃ g9, g9 = w4.heap.size := ⟨_, rfl⟩;have hBt : Z2 (fun b => b < g9) w4 (.slice a9 tl.data.length c9) tl.data := by rw [hg9]; exact (Zc0 (fun _ => False) ho).caps.mono fun _ h => h.2
    have HLE : Hid (wr.heap.size ≤ g9) := by rw [hg9]; exact g4.size
    have g5' := Zb w4 (.cells #[.int .i64 tl.kind, .int .i64 tl.key, .int .i64 tl.ver, .slice a9 tl.data.length c9] 61);have hX := Zh w4 #[.int .i64 tl.kind, .int .i64 tl.key, .int .i64 tl.ver, .slice a9 tl.data.length c9] 61;rw [← hg9] at hX;have gg := g4.trans g5';have hD5 := (gg.block _ (Za hD)).trans hD;have hZ5 := (gg.block _ (Za hZ)).trans hZ;have hQ5 := (gg.block _ (Za hQ)).trans hQ;have hr6 := (gg.block _ (Za hr5)).trans hr5;have hbC := hb.capd.grow gg;have hlC := hl.capd.grow gg;have hTC := (hTT.caps (by decide)).grow gg;have gw5 := gw.trans gg;have hB5 := hBt.grow g5';have HDL : Hid (w.heap.size + 2 < wr.heap.size ∧ g5 < wr.heap.size) := ⟨Za hQ, Za hr5⟩;obtain ⟨N0, hN0⟩ : ∃ N0, N0 = wr.heap.size := ⟨_, rfl⟩;rw [← hN0] at hbC hlC hTC HDL HLE;clear y0 y1 hD hZ hQ hr5 hb hl hTT gw ho g4 g5' gg hBt hN0;go_wp2_with fail;rw [← hg9];obtain ⟨W5, hW5⟩ : ∃ W5, W5 = w4.alloc (.cells #[.int .i64 tl.kind, .int .i64 tl.key, .int .i64 tl.ver, .slice a9 tl.data.length c9] 61) := ⟨_, rfl⟩;rw [← hW5] at hX hD5 hZ5 hQ5 hr6 hbC hlC hTC gw5 hB5 ⊢;clear hW5 hg9
    go_loopw [31] (fun i wq => ∃ (q : Nat) (rr : Rec) (ar : Option Addr) (cr : Nat), q ≤ tw.length ∧ i = .int .i64 (q : Int) ∧ Hid (rr = if (tw.take q).contains (p : Int) = true then Rec.free else tl) ∧ Zp g9 W5 wq ∧ wq.heap[g9]? = some (.cells #[.int .i64 rr.kind, .int .i64 rr.key, .int .i64 rr.ver, .slice ar rr.data.length cr] 61 (0, 0)) ∧ Z2 (fun b => b < g9) wq (.slice ar rr.data.length cr) rr.data) (fun i _ => tw.length - (intOf i).toNat)
    case atStart => exact ⟨0, tl, a9, c9, Nat.zero_le _, rfl, (by show _ = _; simp), Zp.refl _ _, hX, hB5⟩
    case round =>
     clear hX hB5;obtain ⟨q, rr, ar, cr, hq, rfl, HRR, gb, hX, hB⟩ := hrel;have htl := HTL.out;by_cases hql : q < tw.length
     ·obtain ⟨b, off, hv1, hSb, cs1, hcs1, hc1⟩ := (hTC.but gb (fun h => by have := HLE.out; omega)).at q hql;cases hv1;have hcs2 : cs1 = [.int .i64 tw[q]] := hcs1;subst hcs2;have t0 : wr.cell? ⟨b, off + q, none⟩ = some (.int .i64 tw[q]) := by
       have := hc1 0 _ rfl;simpa [Xr] using this
      have HTK : Hid ((tw.take (q + 1)).contains (p : Int) = ((tw.take q).contains (p : Int) || (p : Int) == tw[q])) := Zc6 tw q hql _;generalize tw[q] = x at *;clear hc1 hcs1;by_cases hx : x = (p : Int)
      ·have dx : (x == (p : Int)) = true := by simp [hx]
       have HR2 : Hid (Rec.free = if (tw.take (q + 1)).contains (p : Int) = true then Rec.free else tl) := by show _ = _; rw [HTK.out, hx]; simp
       obtain ⟨hq1, hq2⟩ := Yg hX (.int .i64 1) (.int .i64 0) (.int .i64 0) (.slice none 0 0);obtain ⟨y0, y1, y2, y3⟩ := Z7 hX rfl rfl rfl rfl;obtain ⟨f0, f1, f2, f3⟩ := Yr hX;have cs := Zr;have gb2 := gb.trans hq2;clear hq2 HRR HTK hx hX hB;go_wp2_with fail;go_roundw
       case rel => exact ⟨q + 1, Rec.free, none, 0, by omega, by go_num, HR2, gb2, hq1, .inl ⟨none, 0, rfl, rfl, fun _ => rfl⟩⟩
       case measure => simp [intOf]; omega
      ·have dx : (x == (p : Int)) = false := by simp [hx]
       have HR2 : Hid (rr = if (tw.take (q + 1)).contains (p : Int) = true then Rec.free else tl) := by
        show _ = _;rw [HTK.out, HRR.out];have : ((p : Int) == x) = false := by simp; omega
        rw [this, Bool.or_false]
       clear HRR HTK hx;go_wp2_with fail;go_roundw
       case rel => exact ⟨q + 1, rr, ar, cr, by omega, by go_num, HR2, gb, hX, hB⟩
       case measure => simp [intOf]; omega
     ·have HRE : Hid (rr = if tw.contains (p : Int) = true then Rec.free else tl) := by
       show _ = _;have h := HRR.out;rw [List.take_of_length_le (by omega)] at h;exact h
      have HGS : Hid (w.heap.size + 2 < g9 ∧ g5 < g9 ∧ N0 ≤ g9) := ⟨by have := HLE.out; have := HDL.out; omega, by have := HLE.out; have := HDL.out; omega, HLE.out⟩;have hD6 := (gb.block _ (Za hD5) (by have := HGS.out; omega)).trans hD5;have hZ6 := (gb.block _ (Za hZ5) (by have := HGS.out; omega)).trans hZ5;have hQ6 := (gb.block _ (Za hQ5) (by have := HGS.out; omega)).trans hQ5;have hr7 := (gb.block _ (Za hr6) (by have := HGS.out; omega)).trans hr6;have hb6 := hbC.but gb (fun h => by have := HGS.out; have := h.2; omega);have hl6 := hlC.but gb (fun h => by have := HGS.out; have := h.2; omega);have hT6 := hTC.but gb (fun h => by have := HGS.out; have := h.2; omega);have gw6 := gb.grow gw5 (by have := HGS.out; omega);have HXL : Hid (g9 < wr.heap.size) := Za hX;clear hD5 hZ5 hQ5 hr6 hbC hlC hTC gw5 gb HRR;obtain ⟨y0, y1⟩ := Y9 hD6 rfl rfl;obtain ⟨x0, x1, x2, x3⟩ := Z7 hX rfl rfl rfl rfl;obtain ⟨PD, hPD⟩ : ∃ PD, PD = D.pairD (p : Int) ⟨rr.kind, rr.key, rr.ver, rr.data⟩ := ⟨_, rfl⟩;have HPD : Hid _ := hPD;have HFP : Hid (PD.Fine 2) := by rw [hPD]; exact HFD.out.pair _ _
      clear hPD;go_wp2_with fail;refine (Zdc (fun b => Zt S (w.heap.size + 3) b ∧ b < N0) D (p : Int) rr.kind rr.key rr.ver rr.data _ _ wr (fun b h => by have := HGS.out; have := HXL.out; have := h.2; omega) ⟨_, _, rfl, hb6, hl6⟩ hB.p hsm.1 hsm.2).mono ?_;rw [← HPD.out];rintro r w7 ⟨v7, rfl, h7, g7⟩;obtain ⟨b7, e7, l7, m7, rfl, h7b, h7l⟩ := h7.form;have k7b := h7b.capd;have k7l := h7l.capd;have g8 := Zb w7 (.cells #[.slice b7 PD.blocks.length e7, .slice l7 PD.late.length m7] 26);have hV := Zh w7 #[.slice b7 PD.blocks.length e7, .slice l7 PD.late.length m7] 26;have s8 := World.size_alloc w7 (.cells #[.slice b7 PD.blocks.length e7, .slice l7 PD.late.length m7] 26);have gg := g7.trans g8;have hD8 := (gg.block _ (Za hD6)).trans hD6;have hZ8 := (gg.block _ (Za hZ6)).trans hZ6;have hQ8 := (gg.block _ (Za hQ6)).trans hQ6;have hr8 := (gg.block _ (Za hr7)).trans hr7;have hT8 := hT6.grow gg;have gw8 := gw6.trans gg;have u8b := k7b.grow g8;have u8l := k7l.grow g8;have HW7 : Hid (wr.heap.size ≤ w7.heap.size) := g7.size;clear y0 y1 x0 x1 x2 x3 hD6 hZ6 hQ6 hr7 hb6 hl6 hT6 gw6 hX hB g7 g8 gg h7 h7b h7l k7b k7l;obtain ⟨v0, v1⟩ := Y9 hV rfl rfl;go_wp2_with fail;obtain ⟨N7, hN7⟩ : ∃ N7, N7 = w7.heap.size := ⟨_, rfl⟩;rw [← hN7] at u8b u8l s8 hV v0 v1 HW7 ⊢;clear hN7;obtain ⟨W8, hW8⟩ : ∃ W8, W8 = w7.alloc (.cells #[.slice b7 PD.blocks.length e7, .slice l7 PD.late.length m7] 26) := ⟨_, rfl⟩;rw [← hW8] at hV s8 hD8 hZ8 hQ8 hr8 hT8 gw8 u8b u8l v0 v1 ⊢;clear hW8
      obtain ⟨N6, hN6⟩ : ∃ N6, N6 = wr.heap.size := ⟨_, rfl⟩;rw [← hN6] at u8b u8l HXL HW7;clear hN6;obtain ⟨FD, hFD⟩ : ∃ FD, FD = PD.flush := ⟨_, rfl⟩;have HFF : Hid _ := hFD;have HDE : Hid (FD = Vh K tw (p + 1)) := by show _ = _; rw [HDN.out, hFD, HPD.out, ← HRE.out]
      clear hFD;refine (Zgc (fun b => Zt (fun b => Zt S (w.heap.size + 3) b ∧ b < N0) N6 b ∧ b < N7) 2 PD _ W8 (fun b h => by have := h.2; omega) ⟨_, _, rfl, u8b, u8l⟩ HFP.out (by omega)).mono ?_;rw [← HFF.out];rintro r wA ⟨vA, rfl, hA, gA⟩;obtain ⟨bA, eA, lA, mA, rfl, hAb, hAl⟩ := hA.form;have hD9 := (gA.block _ (Za hD8)).trans hD8;have hZ9 := (gA.block _ (Za hZ8)).trans hZ8;have hQ9 := (gA.block _ (Za hQ8)).trans hQ8;have hr9 := (gA.block _ (Za hr8)).trans hr8;have hT9 := hT8.grow gA;have gw9 := gw8.trans gA;clear v0 v1 hV hD8 hZ8 hQ8 hr8 hT8 gw8 gA u8b u8l hA;have hmx : ∀ b, Zt (fun b => Zt (fun b => Zt S (w.heap.size + 3) b ∧ b < N0) N6 b ∧ b < N7) W8.heap.size b → Zt S (w.heap.size + 3) b := fun b h => h.elim (fun x => x.1.elim (fun y => y.1) (fun y => .inr (by have := HGS.out; have := HXL.out; omega))) (fun x => .inr (by have := HGS.out; have := HXL.out; have := HW7.out; omega))
      have hns3 : ¬ Zt S (w.heap.size + 3) w.heap.size := Ym hS (by omega);obtain ⟨ht1, ht2⟩ := Ky hD9 (.slice bA FD.blocks.length eA) (.slice lA FD.late.length mA);have hZ10 := (ht2.block _ (Za hZ9) (by omega)).trans hZ9;have hQ10 := (ht2.block _ (Za hQ9) (by omega)).trans hQ9;have hr10 := (ht2.block _ (Za hr9) (by have := HG5.out; omega)).trans hr9;have hT10 := (hT9.mono (fun b (h : Zt (fun _ => False) (w.heap.size + 3) b ∧ b < N0) => h.1)).but ht2 (fun h => h.elim (fun x => x) (fun x => by omega));have hb10 := (hAb.mono hmx).but ht2 hns3;have hl10 := (hAl.mono hmx).but ht2 hns3;have gw10 := ht2.grow gw9 (Nat.le_refl _);obtain ⟨y0, y1⟩ := Y9 hD9 rfl rfl;have f0 := Zk hD9 0;have f1 := Zk hD9 1;have cs := Zr;clear hD9 hZ9 hQ9 hr9 hT9 gw9 ht2 hAb hAl hmx hns3 s8 HPD HDN HRE;go_wp2_with fail;go_roundw
      case rel => exact ⟨p + 1, FD, bA, eA, lA, mA, by omega, by go_num, HDE, gw10, ht1, hb10, hl10, hZ10, hQ10, hr10, hT10⟩
      case measure => simp [intOf]; omega
   ·have HDE : Hid (Vh K tw 6 = D) := by show _ = _; rw [HD.out, show p = 6 by omega]
    clear HD HFD hsm;go_wp2_with fail;obtain ⟨W6, rfl⟩ : ∃ W6 : World, W6 = wr := ⟨_, rfl⟩
    refine Yy [px (.agg #[.slice bo D.blocks.length eo, .slice lo D.late.length mo]), px (.agg (Vl (cnt K 6))), px (.slice at3 tw.length ct3), pl ((fun _ _ => True)), pl ((fun _ _ => True)), px (.slice at3 tw.length ct3)] [none, none, none, some ((Vr (w.heap.size + 1))), some ((Vr (w.heap.size + 2)))] (fun dn w' => Zn w w' ∧ w'.heap[w.heap.size]? = some (.cells #[.slice bo D.blocks.length eo, .slice lo D.late.length mo] 26 (0, 0)) ∧ w'.heap[g5]? = some (.cells (Vl (cnt K 6)) 39 (0, 0)) ∧ Y1 (Zt S (w.heap.size + 3)) w' (.slice bo D.blocks.length eo) D.blocks ∧ Xm (Zt S (w.heap.size + 3)) w' (.slice lo D.late.length mo) D.late ∧ Zs Xr (Zt (fun _ => False) (w.heap.size + 3)) w' (.slice at3 tw.length ct3) tw ∧ (dn 3 = false → w'.heap[w.heap.size + 1]? = some (.cells #[.slice none 0 0, .slice none 0 0] 26 (0, 0))) ∧ (dn 3 = true → w'.heap[w.heap.size + 1]? = some (.cells #[.slice bo D.blocks.length eo, .slice lo D.late.length mo] 26 (0, 0))) ∧ (dn 4 = false → w'.heap[w.heap.size + 2]? = some Qn) ∧ (dn 4 = true → w'.heap[w.heap.size + 2]? = some (.cells (Vl (cnt K 6)) 39 (0, 0)))) (by kernel_rfl) (by kernel_rfl) ⟨se, se, se, Yk ((fun _ _ _ _ _ => trivial)), Yk ((fun _ _ _ _ _ => trivial)), se, trivial⟩ ⟨⟨(fun w => Zp.refl _ w), ⟨x5, x5, x5, .inl (by kernel_rfl), .inl (by kernel_rfl), .inl (by kernel_rfl), trivial⟩⟩, ⟨(fun w => Zp.refl _ w), ⟨x5, x5, x5, .inr ((fun _ _ _ _ _ _ => trivial)), .inl (by kernel_rfl), .inl (by kernel_rfl), trivial⟩⟩, trivial⟩ ⟨n5, n5, n5, fun _ _ _ _ h => h, fun _ _ _ _ h => h, n5, trivial⟩ ⟨gw.drew, hD, hr5, hb, hl, hTT, fun _ => hZ, (fun h => by cases h), fun _ => hQ, (fun h => by cases h)⟩ ?_ ?_
    ·refine ⟨?_, ?_, ?_, ?_, ?_, ?_, trivial⟩
     ·refine Zd rfl fun a _ _ _ _ C B A => ?_;have e1 : a (.tmp 1) = .pointer (some ⟨w.heap.size, 0, none⟩) := Zm A 1 rfl;have z0 := Zc B.2.1 0 _ rfl;have z1 := Zc B.2.1 1 _ rfl;refine Zi ?_ B rfl;clear A B C;go_simp;all_goals go_arith
     ·refine Zd rfl fun a _ _ _ _ C B A => ?_;have e5 : a (.tmp 5) = .pointer (some ⟨g5, 0, none⟩) := Zm A 5 rfl;have z0 := Zc B.2.2.1 0 _ rfl;have z1 := Zc B.2.2.1 1 _ rfl;have z2 := Zc B.2.2.1 2 _ rfl;have z3 := Zc B.2.2.1 3 _ rfl;have z4 := Zc B.2.2.1 4 _ rfl;have z5 := Zc B.2.2.1 5 _ rfl;refine Zi ?_ B rfl;clear A B C;go_simp;all_goals go_arith
     ·exact Zd rfl fun a _ _ _ _ _ B A => Z4 rfl B (Zm A 6 rfl)
     ·refine Zd rfl fun a w' _ _ _ C B A => ?_;have e2 : a (.tmp 2) = .pointer (some ⟨w.heap.size + 1, 0, none⟩) := Zm A 2 rfl;have e50 : a (.tmp 50) = _ := Zf A 0 rfl;have hh := B.2.2.2.2.2.2.1 C.un;obtain ⟨hq1, hq2⟩ := Ky hh (.slice bo D.blocks.length eo) (.slice lo D.late.length mo);obtain ⟨y0, y1⟩ := Y9 hh rfl rfl;have f0 := Zk hh 0;have f1 := Zk hh 1;have cs := Zr;have hnu : ¬ Zt S (w.heap.size + 3) (w.heap.size + 1) := Ym (fun b h => Nat.lt_succ_of_lt (hS b h)) (by omega);refine Yi (w' := _) ?_ hq2 ⟨hq2.grow B.1 (by omega), (hq2.block _ (Za B.2.1) (by omega)).trans B.2.1, (hq2.block _ (Za B.2.2.1) (by have := HG5.out; omega)).trans B.2.2.1, B.2.2.2.1.but hq2 hnu, B.2.2.2.2.1.but hq2 hnu, B.2.2.2.2.2.1.but hq2 (fun h => h.elim (fun x => x) (fun x => by omega)), (fun h => by simp [upd] at h), fun _ => hq1, fun h => (hq2.block _ (Za (B.2.2.2.2.2.2.2.2.1 h)) (by omega)).trans (B.2.2.2.2.2.2.2.2.1 h), fun h => (hq2.block _ (Za (B.2.2.2.2.2.2.2.2.2 h)) (by omega)).trans (B.2.2.2.2.2.2.2.2.2 h)⟩ trivial;clear A B C hq1 hq2 hh hnu;go_simp;all_goals go_arith
     ·refine Zd rfl fun a w' _ _ _ C B A => ?_;have e3 : a (.tmp 3) = .pointer (some ⟨w.heap.size + 1 + 1, 0, none⟩) := Zm A 3 rfl;have e51 : a (.tmp 51) = _ := Zf A 1 rfl;have hh := B.2.2.2.2.2.2.2.2.1 C.un;obtain ⟨hq1, hq2⟩ := Zca hh (.int .i64 (cnt K 6 0)) (.int .i64 (cnt K 6 1)) (.int .i64 (cnt K 6 2)) (.int .i64 (cnt K 6 3)) (.int .i64 (cnt K 6 4)) (.int .i64 (cnt K 6 5));obtain ⟨y0, y1, y2, y3, y4⟩ := Qb hh rfl rfl rfl rfl rfl;have y5 := Zc hh 5 _ rfl;obtain ⟨f0, f1, f2, f3⟩ := Yr hh;have f4 := Zk hh 4;have f5 := Zk hh 5;have cs := Zr;have hnu : ¬ Zt S (w.heap.size + 3) (w.heap.size + 2) := Ym (fun b h => by have := hS b h; omega) (by omega);refine Yi (w' := _) ?_ hq2 ⟨hq2.grow B.1 (by omega), (hq2.block _ (Za B.2.1) (by omega)).trans B.2.1, (hq2.block _ (Za B.2.2.1) (by have := HG5.out; omega)).trans B.2.2.1, B.2.2.2.1.but hq2 hnu, B.2.2.2.2.1.but hq2 hnu, B.2.2.2.2.2.1.but hq2 (fun h => h.elim (fun x => x) (fun x => by omega)), fun h => (hq2.block _ (Za (B.2.2.2.2.2.2.1 h)) (by omega)).trans (B.2.2.2.2.2.2.1 h), fun h => (hq2.block _ (Za (B.2.2.2.2.2.2.2.1 h)) (by omega)).trans (B.2.2.2.2.2.2.2.1 h), (fun h => by simp [upd] at h), fun _ => hq1⟩ trivial;clear A B C hq1 hq2 hh hnu;go_simp;all_goals go_arith
     ·exact Zd rfl fun a _ _ _ _ _ B A => Xe rfl B (Zf A 2 rfl)
    ·intro vs w' dn hdn hg ht;obtain ⟨q50, q51, q52, qo3, qo4, q4, -⟩ := ht;have r50 : vs 0 = _ := q50;have r51 : vs 1 = _ := q51;have r52 : vs 2 = _ := q52;replace qo3 : ((fun _ _ => True)) (vs 3) w' := qo3;replace qo4 : ((fun _ _ => True)) (vs 4) w' := qo4;have r4 : vs 5 = _ := q4;clear q50 q51 q52 q4;simp only [Ye, Act.put, List.setIfInBounds_toArray, List.set_cons_zero, List.set_cons_succ, r50, r51, r52, r4];clear r50 r51 r52 r4;have hz := hg.2.2.2.2.2.2.2.1 (hdn 3 (by decide));have hq := hg.2.2.2.2.2.2.2.2.2 (hdn 4 (by decide));obtain ⟨y0, y1⟩ := Y9 hz rfl rfl;obtain ⟨x0, x1, x2, x3, x4⟩ := Qb hq rfl rfl rfl rfl rfl;have x5 := Zc hq 5 _ rfl;have gE := hg.1;have hE : Yu (Zt S w.heap.size) (Vh K tw 6) (.agg #[.slice bo D.blocks.length eo, .slice lo D.late.length mo]) w' := by rw [HDE.out]; exact ⟨_, _, rfl, hg.2.2.2.1.mono (Z0 (by omega)), hg.2.2.2.2.1.mono (Z0 (by omega))⟩
     have hTE := hg.2.2.2.2.2.1.mono (Z0 (B := w.heap.size) (by omega));clear qo3 qo4 hdn hg hz hq hD hr5 hb hl hTT hZ hQ gw;go_wp2_with fail;exact bodyPost_ret (v := .tuple #[.agg #[.slice bo D.blocks.length eo, .slice lo D.late.length mo], .agg (Vl (cnt K 6)), .slice at3 tw.length ct3]) (by simp [results, Tryz.results58, go_sem, x0, x1, x2, x3, x4, x5, y0, y1]) rfl ⟨_, _, rfl, hE, hTE, gE⟩
end Go.Proofs.YtpdnapbchcdhlacGreat
