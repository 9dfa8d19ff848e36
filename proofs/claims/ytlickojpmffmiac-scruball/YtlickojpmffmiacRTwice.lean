import Derived.Test.YtlickojpmffmiacRStore3
set_option maxHeartbeats 8000000
namespace Go.Proofs.Ytlickojpmffmiac
set_option maxRecDepth 100000
open Go.RowKit
open Plain Reg
def againTo (d : Dk) (p : Nat) : Nat → Bool
 | 0 => false
 | q + 1 => againTo d p q || decide ((d.tell (q : Int)).kind ≠ 1 ∧ (d.tell (q : Int)).ver = (d.tell (p : Int)).ver)
def twiceTo (d : Dk) : Nat → List Int
 | 0 => []
 | p + 1 => if (d.tell (p : Int)).kind ≠ 1 ∧ againTo d p p = true then twiceTo d p ++ [(p : Int)] else twiceTo d p
theorem twiceTo_len (d : Dk) : ∀ p, (twiceTo d p).length ≤ p
 | 0 => Nat.le_refl _
 | p + 1 => by
  have := twiceTo_len d p
  unfold twiceTo
  split
  ·simp; omega
  ·omega
theorem rtwice_any (n : Nat) (d : Dk) (v : Value) (w : World) (hd : DiskP d v w) (hF : d.Fine n) (hn : n ≤ 900) :
  Calls Try.prog 15 #[v] w fun r w' => ∃ v' css, r = .returned v' ∧ OutR intShape (fun _ => False) w.heap.size v' (twiceTo d 6) css w' ∧ Grow w w' := by
 obtain ⟨i0, hif, hz0, hz1, hz2⟩ := info_parts info_intw
 obtain ⟨vb, vl, rfl, hb, hl⟩ := hd
 obtain ⟨ab, cb, rfl⟩ := hb.form
 obtain ⟨al, cl, rfl⟩ := hl.form
 have g0 := grow_alloc w (.cells #[.slice ab d.blocks.length cb, .slice al d.late.length cl] 27)
 have hd0 := heap_new w #[.slice ab d.blocks.length cb, .slice al d.late.length cl] 27
 have hsm := hF.small (by omega)
 go_enter Try.func15, Try.ntmps15
 go_wp2_with fail
 generalize World.alloc w _ = W at *
 go_loopw [3, 11] (fun o i wr => ∃ (k : Nat) (css : List (List Value)), k ≤ 6 ∧ i = .int .i64 (k : Int) ∧ OutR intShape (fun _ => False) (w.heap.size + 1) o (twiceTo d k) css wr ∧ Grow w wr ∧ wr.heap[w.heap.size]? = some (.cells #[.slice ab d.blocks.length cb, .slice al d.late.length cl] 27 (0, 0))) (fun _ i _ => 6 - (intOf i).toNat)
 case atStart => exact ⟨0, [], by omega, rfl, OutR.nil _ _ _ _, g0, hd0⟩
 case round =>
  clear g0 hd0
  obtain ⟨k, css, hk, rfl, hR, gw, hd1⟩ := hrel
  by_cases hlt : k < 6
  ·have HT : Hid (twiceTo d (k + 1) = if (d.tell (k : Int)).kind ≠ 1 ∧ againTo d k k = true then twiceTo d k ++ [(k : Int)] else twiceTo d k) := rfl
   have HAG : Hid (∀ q : Nat, againTo d k (q + 1) = (againTo d k q || decide ((d.tell (q : Int)).kind ≠ 1 ∧ (d.tell (q : Int)).ver = (d.tell (k : Int)).ver))) := fun _ => rfl
   have hll := twiceTo_len d k
   generalize twiceTo d k = xs at *
   obtain ⟨a0, c0, rfl⟩ := hR.form
   obtain ⟨y0, y1⟩ := box2 hd1 rfl rfl
   go_wp2_with fail
   refine (rlook_c d (k : Int) _ wr ⟨_, _, rfl, hb.grow gw, hl.grow gw⟩ hsm.1 hsm.2).mono ?_
   rintro r w1 ⟨dv, rfl, ho, g1⟩
   obtain ⟨a9, c9, rfl⟩ := own_slice ho
   generalize hTL : d.tell (k : Int) = tl at *
   clear hTL
   have g2 := grow_alloc w1 (.cells #[.int .i64 tl.kind, .int .i64 tl.key, .int .i64 tl.ver, .slice a9 tl.data.length c9] 66)
   have hX2 := heap_new w1 #[.int .i64 tl.kind, .int .i64 tl.key, .int .i64 tl.ver, .slice a9 tl.data.length c9] 66
   have hR2 := (hR.grow g1).grow g2
   have gw2 := (gw.trans g1).trans g2
   have hd2 := (g2.block _ (heap_lt ((g1.block _ (heap_lt hd1)).trans hd1))).trans ((g1.block _ (heap_lt hd1)).trans hd1)
   clear y0 y1 hR gw hd1 g1 g2 ho
   go_wp2_with fail
   obtain ⟨gr, hgr⟩ : ∃ gr, gr = w1.heap.size := ⟨_, rfl⟩
   rw [← hgr] at hX2 ⊢
   clear hgr
   obtain ⟨W2, hW2⟩ : ∃ W2, W2 = w1.alloc (.cells #[.int .i64 tl.kind, .int .i64 tl.key, .int .i64 tl.ver, .slice a9 tl.data.length c9] 66) := ⟨_, rfl⟩
   rw [← hW2] at hX2 hR2 gw2 hd2 ⊢
   clear hW2
   go_loopw [7, 21] (fun ag i wq => ∃ q : Nat, q ≤ k ∧ i = .int .i64 (q : Int) ∧ ag = .bool (againTo d k q) ∧ Grow W2 wq ∧ wq.heap[gr]? = some (.cells #[.int .i64 tl.kind, .int .i64 tl.key, .int .i64 tl.ver, .slice a9 tl.data.length c9] 66 (0, 0))) (fun _ i _ => k - (intOf i).toNat)
   case atStart => exact ⟨0, Nat.zero_le _, rfl, rfl, Grow.refl _, hX2⟩
   case round =>
    clear hX2
    obtain ⟨q, hq, rfl, rfl, gq, hX2⟩ := hrel
    have hdq := (gq.block _ (heap_lt hd2)).trans hd2
    by_cases hql : q < k
    ·obtain ⟨y0, y1⟩ := box2 hdq rfl rfl
     have HAQ : Hid _ := HAG.out q
     generalize againTo d k q = AG at *
     go_wp2_with fail
     refine (rlook_c d (q : Int) _ wr ⟨_, _, rfl, hb.grow (gw2.trans gq), hl.grow (gw2.trans gq)⟩ hsm.1 hsm.2).mono ?_
     rintro r w3 ⟨dv, rfl, ho, g3⟩
     obtain ⟨a8, c8, rfl⟩ := own_slice ho
     generalize d.tell (q : Int) = tq at *
     have g4 := grow_alloc w3 (.cells #[.int .i64 tq.kind, .int .i64 tq.key, .int .i64 tq.ver, .slice a8 tq.data.length c8] 66)
     have hY := heap_new w3 #[.int .i64 tq.kind, .int .i64 tq.key, .int .i64 tq.ver, .slice a8 tq.data.length c8] 66
     have hX3 := (g4.block _ (heap_lt ((g3.block _ (heap_lt hX2)).trans hX2))).trans ((g3.block _ (heap_lt hX2)).trans hX2)
     have gq3 := (gq.trans g3).trans g4
     clear y0 y1 hdq gq g3 g4 ho hX2
     have z0 := box_cell hY 0 _ rfl
     have z2 := box_cell hY 2 _ rfl
     have x2 := box_cell hX3 2 _ rfl
     clear hY
     cases AG with
     | true =>
      have HA2 : Hid (againTo d k (q + 1) = true) := by show _ = _; rw [HAQ.out]; rfl
      clear HAQ
      go_wp2_with fail
      go_roundw
      case rel => exact ⟨q + 1, by omega, by go_num, by rw [HA2.out], gq3, hX3⟩
      case measure => simp [intOf]; omega
     | false =>
      by_cases h1 : tq.kind = 1
      ·have d1 : (tq.kind != 1) = false := by simp [h1]
       have HA2 : Hid (againTo d k (q + 1) = false) := by show _ = _; rw [HAQ.out]; simp [h1]
       clear HAQ h1
       go_wp2_with fail
       go_roundw
       case rel => exact ⟨q + 1, by omega, by go_num, by rw [HA2.out], gq3, hX3⟩
       case measure => simp [intOf]; omega
      ·have d1 : (tq.kind != 1) = true := by simp [h1]
       by_cases hv : tq.ver = tl.ver
       ·have dv : (tq.ver == tl.ver) = true := by simp [hv]
        have HA2 : Hid (againTo d k (q + 1) = true) := by show _ = _; rw [HAQ.out]; simp [h1, hv]
        clear HAQ h1 hv
        go_wp2_with fail
        go_roundw
        case rel => exact ⟨q + 1, by omega, by go_num, by rw [HA2.out], gq3, hX3⟩
        case measure => simp [intOf]; omega
       ·have dv : (tq.ver == tl.ver) = false := by simp [hv]
        have HA2 : Hid (againTo d k (q + 1) = false) := by show _ = _; rw [HAQ.out]; simp [hv]
        clear HAQ h1 hv
        go_wp2_with fail
        go_roundw
        case rel => exact ⟨q + 1, by omega, by go_num, by rw [HA2.out], gq3, hX3⟩
        case measure => simp [intOf]; omega
    ·have HQK : Hid (againTo d k q = againTo d k k) := by show _ = _; rw [show q = k by omega]
     rw [HQK.out]
     have hR4 := hR2.grow gq
     have gw4 := gw2.trans gq
     have hd4 := hdq
     have x0 := box_cell hX2 0 _ rfl
     obtain ⟨AG, hAG⟩ : ∃ AG, AG = againTo d k k := ⟨_, rfl⟩
     rw [← hAG] at HT ⊢
     clear hX2 gq hdq HQK HAG hAG hR2 gw2 hd2
     by_cases h1 : tl.kind = 1
     ·have d1 : (tl.kind != 1) = false := by simp [h1]
      have HT2 : Hid (twiceTo d (k + 1) = xs) := by show _ = _; rw [HT.out, if_neg (fun h => h.1 h1)]
      clear HT h1
      go_wp2_with fail
      go_roundw
      case rel => exact ⟨k + 1, css, by omega, by go_num, by rw [HT2.out]; exact hR4, gw4, hd4⟩
      case measure => simp [intOf]; omega
     ·have d1 : (tl.kind != 1) = true := by simp [h1]
      cases AG with
      | false =>
       have HT2 : Hid (twiceTo d (k + 1) = xs) := by show _ = _; rw [HT.out, if_neg (fun h => by cases h.2)]
       clear HT h1
       go_wp2_with fail
       go_roundw
       case rel => exact ⟨k + 1, css, by omega, by go_num, by rw [HT2.out]; exact hR4, gw4, hd4⟩
       case measure => simp [intOf]; omega
      | true =>
       have HT2 : Hid (twiceTo d (k + 1) = xs ++ [(k : Int)]) := by show _ = _; rw [HT.out, if_pos ⟨h1, rfl⟩]
       have HSZ : Hid (w.heap.size + 1 ≤ wr.heap.size) := heap_lt hd4
       have hnew : ∀ (t : Nat) u, ([.int .i64 (k : Int)] : List Value)[t]? = some u → (wr.alloc (.cells #[.int .i64 (k : Int)] 3)).cell? ((⟨wr.heap.size, 0, none⟩ : Addr).add t) = some u := by
        intro t u ht
        match t, ht with
        | 0, ht => simp at ht; subst ht; simp [Addr.add]
        | t + 1, ht => simp at ht
       clear HT h1
       go_wp2_with (at_builtin; refine wpList_append_own _ rfl (.tmp 50) (.tmp 52) 32 rfl (w.heap.size + 1) 3 i0 (.int .i64 0) 1 8 Try.underlying32 hif hz0 hz1 hz2 rfl (by decide) (.slice a0 xs.length c0) _ _ rfl (hR4.row.alloc _) ⟨wr.heap.size, 0, none⟩ 1 1 [.int .i64 (k : Int)] rfl rfl hnew (by intro u hu; simp at hu; subst hu; rfl) (by unfold maxLen; omega) (by omega) (by have := HSZ.out; simp; omega) ?_; intro v5 w5 hown5 hgrow5 _; have hR6 := hR4.step (x := (k : Int)) (by decide) (fun b h => h.elim) rfl hgrow5 hown5; have g6 : Grow w w5 := grow_of_grown (gw4.trans (grow_alloc _ _)) hgrow5 (fun k hk => by have := (hR4.row.lt k hk).1; omega); have hd6 := (grown_keep hR4.row hgrow5 (row_lt hR4.row (by omega)) (heap_lt hd4)).trans hd4; have hsl := own_slice hown5; obtain ⟨a4, c4, hv4⟩ := hsl; subst hv4; clear hgrow5 hown5 hR4 hnew gw4 hd4)
       go_roundw
       case rel => exact ⟨k + 1, _, by omega, by go_num, by rw [HT2.out]; exact hR6, g6, hd6⟩
       case measure => simp [intOf]; omega
  ·have hRE : ∃ css, OutR intShape (fun _ => False) w.heap.size _ (twiceTo d 6) css wr := ⟨css, by
    have e : k = 6 := by omega
    subst e
    exact ⟨hR.len, fun i hi => (hR.each i hi).imp fun _ x => ⟨x.1, x.2⟩, own_mono hR.row (by omega)⟩⟩
   obtain ⟨css2, hE⟩ := hRE
   clear hR
   obtain ⟨a4, c4, rfl⟩ := hE.form
   go_wp2_with fail
   go_ret
   exact ⟨_, _, rfl, hE, gw⟩
end Go.Proofs.Ytlickojpmffmiac
