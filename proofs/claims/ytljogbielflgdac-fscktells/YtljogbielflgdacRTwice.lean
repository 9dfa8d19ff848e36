import Derived.Test.YtljogbielflgdacIdxC
set_option maxHeartbeats 8000000
namespace Go.Proofs.Ytljogbielflgdac
set_option maxRecDepth 100000
open Go.RowKit
open Plain Reg
def Yo (d : Dk) (p : Nat) : Nat → Bool
 | 0 => false
 | q + 1 => Yo d p q || decide ((d.tell (q : Int)).kind ≠ 1 ∧ (d.tell (q : Int)).ver = (d.tell (p : Int)).ver)
def Z0 (d : Dk) : Nat → List Int
 | 0 => []
 | p + 1 => if (d.tell (p : Int)).kind ≠ 1 ∧ Yo d p p = true then Z0 d p ++ [(p : Int)] else Z0 d p
theorem X8 (d : Dk) : ∀ p, (Z0 d p).length ≤ p
 | 0 => Nat.le_refl _
 | p + 1 => by
  have := X8 d p;unfold Z0;split
  ·simp; omega
  ·omega
theorem Zdr (n : Nat) (d : Dk) (v : Value) (w : World) (hd : Xn d v w) (hF : d.Fine n) (hn : n ≤ 900) :
  Calls Try.prog 17 #[v] w fun r w' => ∃ v' css, r = .returned v' ∧ Xu Yp (fun _ => False) w.heap.size v' (Z0 d 6) css w' ∧ Zt w w' := by
 obtain ⟨i0, hif, hz0, hz1, hz2⟩ := info_parts Zce;obtain ⟨vb, vl, rfl, hb, hl⟩ := hd;obtain ⟨ab, cb, rfl⟩ := hb.form;obtain ⟨al, cl, rfl⟩ := hl.form;have g0 := Zd w (.cells #[.slice ab d.blocks.length cb, .slice al d.late.length cl] 27);have hd0 := Zq w #[.slice ab d.blocks.length cb, .slice al d.late.length cl] 27;have hsm := hF.small (by omega);go_enter Try.func17, Try.ntmps17;go_wp2_with fail;generalize World.alloc w _ = W at *;go_loopw [3, 11] (fun o i wr => ∃ (k : Nat) (css : List (List Value)), k ≤ 6 ∧ i = .int .i64 (k : Int) ∧ Xu Yp (fun _ => False) (w.heap.size + 1) o (Z0 d k) css wr ∧ Zt w wr ∧ wr.heap[w.heap.size]? = some (.cells #[.slice ab d.blocks.length cb, .slice al d.late.length cl] 27 (0, 0))) (fun _ i _ => 6 - (intOf i).toNat)
 case atStart => exact ⟨0, [], by omega, rfl, Xu.nil _ _ _ _, g0, hd0⟩
 case round =>
  clear g0 hd0;obtain ⟨k, css, hk, rfl, hR, gw, hd1⟩ := hrel;by_cases hlt : k < 6
  ·have HT : Hid (Z0 d (k + 1) = if (d.tell (k : Int)).kind ≠ 1 ∧ Yo d k k = true then Z0 d k ++ [(k : Int)] else Z0 d k) := rfl;have HAG : Hid (∀ q : Nat, Yo d k (q + 1) = (Yo d k q || decide ((d.tell (q : Int)).kind ≠ 1 ∧ (d.tell (q : Int)).ver = (d.tell (k : Int)).ver))) := fun _ => rfl
   have hll := X8 d k;generalize Z0 d k = xs at *;obtain ⟨a0, c0, rfl⟩ := hR.form;obtain ⟨y0, y1⟩ := Yl hd1 rfl rfl;go_wp2_with fail;refine (Zal d (k : Int) _ wr ⟨_, _, rfl, hb.grow gw, hl.grow gw⟩ hsm.1 hsm.2).mono ?_;rintro r w1 ⟨dv, rfl, ho, g1⟩;obtain ⟨a9, c9, rfl⟩ := Z6 ho;generalize hTL : d.tell (k : Int) = tl at *;clear hTL;have g2 := Zd w1 (.cells #[.int .i64 tl.kind, .int .i64 tl.key, .int .i64 tl.ver, .slice a9 tl.data.length c9] 54);have hX2 := Zq w1 #[.int .i64 tl.kind, .int .i64 tl.key, .int .i64 tl.ver, .slice a9 tl.data.length c9] 54;have hR2 := (hR.grow g1).grow g2;have gw2 := (gw.trans g1).trans g2;have hd2 := (g2.block _ (Za ((g1.block _ (Za hd1)).trans hd1))).trans ((g1.block _ (Za hd1)).trans hd1);clear y0 y1 hR gw hd1 g1 g2 ho;go_wp2_with fail;obtain ⟨gr, hgr⟩ : ∃ gr, gr = w1.heap.size := ⟨_, rfl⟩;rw [← hgr] at hX2 ⊢;clear hgr;obtain ⟨W2, hW2⟩ : ∃ W2, W2 = w1.alloc (.cells #[.int .i64 tl.kind, .int .i64 tl.key, .int .i64 tl.ver, .slice a9 tl.data.length c9] 54) := ⟨_, rfl⟩;rw [← hW2] at hX2 hR2 gw2 hd2 ⊢;clear hW2;go_loopw [7, 21] (fun ag i wq => ∃ q : Nat, q ≤ k ∧ i = .int .i64 (q : Int) ∧ ag = .bool (Yo d k q) ∧ Zt W2 wq ∧ wq.heap[gr]? = some (.cells #[.int .i64 tl.kind, .int .i64 tl.key, .int .i64 tl.ver, .slice a9 tl.data.length c9] 54 (0, 0))) (fun _ i _ => k - (intOf i).toNat)
   case atStart => exact ⟨0, Nat.zero_le _, rfl, rfl, Zt.refl _, hX2⟩
   case round =>
    clear hX2;obtain ⟨q, hq, rfl, rfl, gq, hX2⟩ := hrel;have hdq := (gq.block _ (Za hd2)).trans hd2;by_cases hql : q < k
    ·obtain ⟨y0, y1⟩ := Yl hdq rfl rfl;have HAQ : Hid _ := HAG.out q;generalize Yo d k q = AG at *;go_wp2_with fail;refine (Zal d (q : Int) _ wr ⟨_, _, rfl, hb.grow (gw2.trans gq), hl.grow (gw2.trans gq)⟩ hsm.1 hsm.2).mono ?_;rintro r w3 ⟨dv, rfl, ho, g3⟩;obtain ⟨a8, c8, rfl⟩ := Z6 ho;generalize d.tell (q : Int) = tq at *;have g4 := Zd w3 (.cells #[.int .i64 tq.kind, .int .i64 tq.key, .int .i64 tq.ver, .slice a8 tq.data.length c8] 54);have hY := Zq w3 #[.int .i64 tq.kind, .int .i64 tq.key, .int .i64 tq.ver, .slice a8 tq.data.length c8] 54;have hX3 := (g4.block _ (Za ((g3.block _ (Za hX2)).trans hX2))).trans ((g3.block _ (Za hX2)).trans hX2);have gq3 := (gq.trans g3).trans g4;clear y0 y1 hdq gq g3 g4 ho hX2;have z0 := Zf hY 0 _ rfl;have z2 := Zf hY 2 _ rfl;have x2 := Zf hX3 2 _ rfl;clear hY;cases AG with
     | true =>
      have HA2 : Hid (Yo d k (q + 1) = true) := by show _ = _; rw [HAQ.out]; rfl
      clear HAQ;go_wp2_with fail;go_roundw
      case rel => exact ⟨q + 1, by omega, by go_num, by rw [HA2.out], gq3, hX3⟩
      case measure => simp [intOf]; omega
     | false =>
      by_cases h1 : tq.kind = 1
      ·have d1 : (tq.kind != 1) = false := by simp [h1]
       have HA2 : Hid (Yo d k (q + 1) = false) := by show _ = _; rw [HAQ.out]; simp [h1]
       clear HAQ h1;go_wp2_with fail;go_roundw
       case rel => exact ⟨q + 1, by omega, by go_num, by rw [HA2.out], gq3, hX3⟩
       case measure => simp [intOf]; omega
      ·have d1 : (tq.kind != 1) = true := by simp [h1]
       by_cases hv : tq.ver = tl.ver
       ·have dv : (tq.ver == tl.ver) = true := by simp [hv]
        have HA2 : Hid (Yo d k (q + 1) = true) := by show _ = _; rw [HAQ.out]; simp [h1, hv]
        clear HAQ h1 hv;go_wp2_with fail;go_roundw
        case rel => exact ⟨q + 1, by omega, by go_num, by rw [HA2.out], gq3, hX3⟩
        case measure => simp [intOf]; omega
       ·have dv : (tq.ver == tl.ver) = false := by simp [hv]
        have HA2 : Hid (Yo d k (q + 1) = false) := by show _ = _; rw [HAQ.out]; simp [hv]
        clear HAQ h1 hv;go_wp2_with fail;go_roundw
        case rel => exact ⟨q + 1, by omega, by go_num, by rw [HA2.out], gq3, hX3⟩
        case measure => simp [intOf]; omega
    ·have HQK : Hid (Yo d k q = Yo d k k) := by show _ = _; rw [show q = k by omega]
     rw [HQK.out];have hR4 := hR2.grow gq;have gw4 := gw2.trans gq;have hd4 := hdq;have x0 := Zf hX2 0 _ rfl;obtain ⟨AG, hAG⟩ : ∃ AG, AG = Yo d k k := ⟨_, rfl⟩;rw [← hAG] at HT ⊢;clear hX2 gq hdq HQK HAG hAG hR2 gw2 hd2;by_cases h1 : tl.kind = 1
     ·have d1 : (tl.kind != 1) = false := by simp [h1]
      have HT2 : Hid (Z0 d (k + 1) = xs) := by show _ = _; rw [HT.out, if_neg (fun h => h.1 h1)]
      clear HT h1;go_wp2_with fail;go_roundw
      case rel => exact ⟨k + 1, css, by omega, by go_num, by rw [HT2.out]; exact hR4, gw4, hd4⟩
      case measure => simp [intOf]; omega
     ·have d1 : (tl.kind != 1) = true := by simp [h1]
      cases AG with
      | false =>
       have HT2 : Hid (Z0 d (k + 1) = xs) := by show _ = _; rw [HT.out, if_neg (fun h => by cases h.2)]
       clear HT h1;go_wp2_with fail;go_roundw
       case rel => exact ⟨k + 1, css, by omega, by go_num, by rw [HT2.out]; exact hR4, gw4, hd4⟩
       case measure => simp [intOf]; omega
      | true =>
       have HT2 : Hid (Z0 d (k + 1) = xs ++ [(k : Int)]) := by show _ = _; rw [HT.out, if_pos ⟨h1, rfl⟩]
       have HSZ : Hid (w.heap.size + 1 ≤ wr.heap.size) := Za hd4;have hnew : ∀ (t : Nat) u, ([.int .i64 (k : Int)] : List Value)[t]? = some u → (wr.alloc (.cells #[.int .i64 (k : Int)] 3)).cell? ((⟨wr.heap.size, 0, none⟩ : Addr).add t) = some u := by
        intro t u ht
        match t, ht with
        | 0, ht => simp at ht; subst ht; simp [Addr.add]
        | t + 1, ht => simp at ht
       clear HT h1;go_wp2_with (at_builtin; refine wpList_append_own _ rfl (.tmp 50) (.tmp 52) 32 rfl (w.heap.size + 1) 3 i0 (.int .i64 0) 1 8 Try.underlying32 hif hz0 hz1 hz2 rfl (by decide) (.slice a0 xs.length c0) _ _ rfl (hR4.row.alloc _) ⟨wr.heap.size, 0, none⟩ 1 1 [.int .i64 (k : Int)] rfl rfl hnew (by intro u hu; simp at hu; subst hu; rfl) (by unfold maxLen; omega) (by omega) (by have := HSZ.out; simp; omega) ?_; intro v5 w5 hown5 hgrow5 _; have hR6 := hR4.step (x := (k : Int)) (by decide) (fun b h => h.elim) rfl hgrow5 hown5; have g6 : Zt w w5 := Ye (gw4.trans (Zd _ _)) hgrow5 (fun k hk => by have := (hR4.row.lt k hk).1; omega); have hd6 := (X5 hR4.row hgrow5 (Ks hR4.row (by omega)) (Za hd4)).trans hd4; have hsl := Z6 hown5; obtain ⟨a4, c4, hv4⟩ := hsl; subst hv4; clear hgrow5 hown5 hR4 hnew gw4 hd4);go_roundw
       case rel => exact ⟨k + 1, _, by omega, by go_num, by rw [HT2.out]; exact hR6, g6, hd6⟩
       case measure => simp [intOf]; omega
  ·have hRE : ∃ css, Xu Yp (fun _ => False) w.heap.size _ (Z0 d 6) css wr := ⟨css, by
    have e : k = 6 := by omega
    subst e;exact ⟨hR.len, fun i hi => (hR.each i hi).imp fun _ x => ⟨x.1, x.2⟩, Yk hR.row (by omega)⟩⟩
   obtain ⟨css2, hE⟩ := hRE;clear hR;obtain ⟨a4, c4, rfl⟩ := hE.form;go_wp2_with fail;go_ret;exact ⟨_, _, rfl, hE, gw⟩
end Go.Proofs.Ytljogbielflgdac
