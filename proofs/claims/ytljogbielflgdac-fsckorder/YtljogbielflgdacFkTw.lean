import Derived.Test.YtljogbielflgdacFskC
import Derived.Test.YtljogbielflgdacPTell
set_option maxHeartbeats 8000000
namespace Go.Proofs.Ytljogbielflgdac
set_option maxRecDepth 100000
open Go.RowKit Go.Maps
open Plain Reg
theorem Zds (n : Nat) (d : Dk) (v : Value) (w : World) (hd : Xn d v w) (hF : d.Fine n) (hn : n ≤ 900) :
  Calls Try.prog 18 #[v] w fun r w' => ∃ v' css, r = .returned v' ∧ Xu Yp (fun _ => False) w.heap.size v' (Z0 d 6) css w' ∧ Zt w w' := by
 obtain ⟨i0, hif, hz0, hz1, hz2⟩ := info_parts Zce;obtain ⟨vb, vl, rfl, hb, hl⟩ := hd;obtain ⟨ab, cb, rfl⟩ := hb.form;obtain ⟨al, cl, rfl⟩ := hl.form;have g0 := Zd w (.cells #[.slice ab d.blocks.length cb, .slice al d.late.length cl] 27);have hd0 := Zq w #[.slice ab d.blocks.length cb, .slice al d.late.length cl] 27;have hs0 : (w.alloc (.cells #[.slice ab d.blocks.length cb, .slice al d.late.length cl] 27)).heap.size = w.heap.size + 1 := World.size_alloc _ _;have HF : Hid (d.Fine 900) := hF.mono hn;clear hF;go_enter Try.func18, Try.ntmps18;go_wp2_with fail;generalize World.alloc w _ = W at *;refine (Zje W).mono ?_;rw [hs0];rintro r w1 ⟨rfl, hg1, hS1, g1⟩;have gw1 := g0.trans g1;have hd1 := (g1.block _ (Za hd0)).trans hd0;clear g0 g1 hd0 hs0;have hK := Zj0;go_wp2_with fail;go_loopw [3, 9] (fun o i wr => ∃ (k : Nat) (css : List (List Value)), k ≤ 6 ∧ i = .int .i64 (k : Int) ∧ Xu Yp (fun _ => False) (w.heap.size + 3) o (Z0 d k) css wr ∧ Zt w wr ∧ wr.heap[w.heap.size]? = some (.cells #[.slice ab d.blocks.length cb, .slice al d.late.length cl] 27 (0, 0)) ∧ wr.heap[w.heap.size + 1 + 1]? = some (.cells #[.map (some (w.heap.size + 1))] 112 (0, 0)) ∧ Kb wr (w.heap.size + 1) k (Qi d k)) (fun _ i _ => 6 - (intOf i).toNat)
 case atStart => exact ⟨0, [], by omega, rfl, Xu.nil _ _ _ _, gw1, hd1, hg1, hS1.on (fun _ => rfl) (Nat.le_refl _)⟩
 case round =>
  clear gw1 hd1 hg1 hS1;obtain ⟨k, css, hk, rfl, hR, gw, hd1, hg1, hS1⟩ := hrel;by_cases hlt : k < 6
  ·have HT : Hid (Z0 d (k + 1) = if (d.tell (k : Int)).kind ≠ 1 ∧ Yo d k k = true then Z0 d k ++ [(k : Int)] else Z0 d k) := rfl;have HFR : Hid ((d.tell (k : Int)).kind = 1 → ∀ x, Qi d k x = Qi d (k + 1) x) := fun h => Zh2 d k h
   have HNW : Hid ((d.tell (k : Int)).kind ≠ 1 → ∀ x, (decide (x = (d.tell (k : Int)).ver) || Qi d k x) = Qi d (k + 1) x) := fun h => Zky d k h
   have HAG : Hid (Qi d k (d.tell (k : Int)).ver = Yo d k k) := Zaq d k k;have HVR : Hid _ := Zgw d (k : Int);have hll := X8 d k;generalize Z0 d k = xs at *;obtain ⟨a0, c0, rfl⟩ := hR.form;obtain ⟨y0, y1⟩ := Yl hd1 rfl rfl;go_wp2_with fail;refine (Zqq d (k : Int) _ wr HF.out ⟨_, _, rfl, hb.grow gw, hl.grow gw⟩).mono ?_;rintro r w1 ⟨dv, rfl, ho, g1⟩;obtain ⟨a9, c9, rfl⟩ := Z6 ho;generalize hTL : d.tell (k : Int) = tl at *;clear hTL;generalize Yo d k k = AG at *;have g2 := Zd w1 (.cells #[.int .i64 tl.kind, .int .i64 tl.key, .int .i64 tl.ver, .slice a9 tl.data.length c9] 54);have hX2 := Zq w1 #[.int .i64 tl.kind, .int .i64 tl.key, .int .i64 tl.ver, .slice a9 tl.data.length c9] 54;have hR2 := (hR.grow g1).grow g2;have gg := g1.trans g2;have gw2 := gw.trans gg;have hd2 := (gg.block _ (Za hd1)).trans hd1;have hg2 := (gg.block _ (Za hg1)).trans hg1;have hS2 := hS1.grow gg;clear y0 y1 hR gw hd1 hg1 hS1 g1 g2 gg ho;have x0 := Zf hX2 0 _ rfl;have x2 := Zf hX2 2 _ rfl;clear hX2;by_cases h1 : tl.kind = 1
   ·have d1 : (tl.kind != 1) = false := by simp [h1]
    have HT2 : Hid (Z0 d (k + 1) = xs) := by show _ = _; rw [HT.out, if_neg (fun h => h.1 h1)]
    have hS4 := hS2.on (HFR.out h1) (Nat.le_succ k);have hR4 := hR2;have gw4 := gw2;have hd4 := hd2;have hg4 := hg2;clear HT HFR HNW HAG HVR h1 hS2 hR2 gw2 hd2 hg2;go_wp2_with fail;go_roundw
    case rel => exact ⟨k + 1, css, by omega, by go_num, by rw [HT2.out]; exact hR4, gw4, hd4, hg4, hS4⟩
    case measure => simp [intOf]; omega
   ·have d1 : (tl.kind != 1) = true := by simp [h1]
    go_wp2_with fail;obtain ⟨W2, hW2⟩ : ∃ W2, W2 = w1.alloc (.cells #[.int .i64 tl.kind, .int .i64 tl.key, .int .i64 tl.ver, .slice a9 tl.data.length c9] 54) := ⟨_, rfl⟩;rw [← hW2] at hR2 gw2 hd2 hg2 hS2 x0 x2 ⊢;clear hW2;refine (Znc tl.ver _ (w.heap.size + 1) k (Qi d k) W2 hg2 hS2 (Zc9 HVR.out.1 HVR.out.2) (by omega)).mono ?_;rw [HAG.out];rintro r w3 ⟨rfl, hS3, hb3⟩;have hS4 := hS3.on (HNW.out h1) (Nat.le_refl _);have hR4 := hR2.other hb3 (by omega) (fun h => h);have gw4 := hb3.grow gw2 (by omega);have hd4 := (hb3.block _ (Za hd2) (by omega)).trans hd2;have hg4 := (hb3.block _ (Za hg2) (by omega)).trans hg2;clear HFR HNW HAG HVR hS2 hS3 hR2 gw2 hd2 hg2 hb3 x0 x2;cases AG with
    | false =>
     have HT2 : Hid (Z0 d (k + 1) = xs) := by show _ = _; rw [HT.out, if_neg (fun h => by cases h.2)]
     clear HT h1;go_wp2_with fail;go_roundw
     case rel => exact ⟨k + 1, css, by omega, by go_num, by rw [HT2.out]; exact hR4, gw4, hd4, hg4, hS4⟩
     case measure => simp [intOf]; omega
    | true =>
     have HT2 : Hid (Z0 d (k + 1) = xs ++ [(k : Int)]) := by show _ = _; rw [HT.out, if_pos ⟨h1, rfl⟩]
     have HSZ : Hid (w.heap.size + 3 ≤ w3.heap.size) := Za hg4;have hnew : ∀ (t : Nat) u, ([.int .i64 (k : Int)] : List Value)[t]? = some u → (w3.alloc (.cells #[.int .i64 (k : Int)] 3)).cell? ((⟨w3.heap.size, 0, none⟩ : Addr).add t) = some u := by
      intro t u ht
      match t, ht with
      | 0, ht => simp at ht; subst ht; simp [Addr.add]
      | t + 1, ht => simp at ht
     clear HT h1;go_wp2_with (at_builtin; refine wpList_append_own _ rfl (.tmp 27) (.tmp 29) 32 rfl (w.heap.size + 3) 3 i0 (.int .i64 0) 1 8 Try.underlying32 hif hz0 hz1 hz2 rfl (by decide) (.slice a0 xs.length c0) _ _ rfl (hR4.row.alloc _) ⟨w3.heap.size, 0, none⟩ 1 1 [.int .i64 (k : Int)] rfl rfl hnew (by intro u hu; simp at hu; subst hu; rfl) (by unfold maxLen; omega) (by omega) (by have := HSZ.out; simp; omega) ?_; intro v5 w5 hown5 hgrow5 _; have hR6 := hR4.step (x := (k : Int)) (by decide) (fun b h => h.elim) rfl hgrow5 hown5; have g6 : Zt w w5 := Ye (gw4.trans (Zd _ _)) hgrow5 (fun k hk => by have := (hR4.row.lt k hk).1; omega); have hd6 := (X5 hR4.row hgrow5 (Ks hR4.row (by omega)) (Za hd4)).trans hd4; have hg6 := (X5 hR4.row hgrow5 (Ks hR4.row (by omega)) (Za hg4)).trans hg4; have hS6 := hS4.same (X5 hR4.row hgrow5 (Ks hR4.row (by omega)) hS4.lt); have hsl := Z6 hown5; obtain ⟨a4, c4, hv4⟩ := hsl; subst hv4; clear hgrow5 hown5 hR4 hnew gw4 hd4 hg4 hS4);go_roundw
     case rel => exact ⟨k + 1, _, by omega, by go_num, by rw [HT2.out]; exact hR6, g6, hd6, hg6, hS6⟩
     case measure => simp [intOf]; omega
  ·have hRE : ∃ css, Xu Yp (fun _ => False) w.heap.size _ (Z0 d 6) css wr := ⟨css, by
    have e : k = 6 := by omega
    subst e;exact ⟨hR.len, fun i hi => (hR.each i hi).imp fun _ x => ⟨x.1, x.2⟩, Yk hR.row (by omega)⟩⟩
   obtain ⟨css2, hE⟩ := hRE;clear hR hS1 hg1;obtain ⟨a4, c4, rfl⟩ := hE.form;go_wp2_with fail;go_ret;exact ⟨_, _, rfl, hE, gw⟩
end Go.Proofs.Ytljogbielflgdac
