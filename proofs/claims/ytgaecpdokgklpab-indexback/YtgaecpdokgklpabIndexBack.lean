/-
  sclaw5.IndexBack answers true for every index and entry.
  Condition: the program's index keeps its contracts (premises).
-/
import Derived.Test.YtgaecpdokgklpabIAlive
namespace Go.Proofs.Ytgaecpdokgklpab
set_option maxRecDepth 100000
open Go.RowKit
open Go.Proofs.Ytgaecpdokgklpab.Plain Go.Proofs.Ytgaecpdokgklpab.Reg

theorem one_right (e : Ent) : rightI [e] = true ↔ Good e := by rw [rightI_iff]; simp

set_option maxHeartbeats 8000000 in
theorem indexBack_of (HOC : IOwnC) (HSC : IScanC) (HFC : IFreeC) (HAC : IAddC) (HDC : IDropC) (HLC : ILastC) (HNC : IFindC) (S : Nat → Prop) (l : List Ent) (e : Ent) (v : Value) (a : Option Addr) (c : Nat) (w : World) (hl0 : EntsS S w v l) (he : Bytes w (.slice a e.rc.data.length c) e.rc.data) (hm : l.length ≤ 140737488355328) :
  Calls Try.prog 4 #[v, .agg #[.int .i64 e.rc.kind, .int .i64 e.rc.key, .int .i64 e.rc.ver, .slice a e.rc.data.length c, .int .i64 e.pair]] w fun r w' => r = .returned (.bool true) ∧ Grow w w' := by
 have hl := hl0.all (by decide)
 clear hl0
 obtain ⟨ao, cp, rfl⟩ := hl.form
 have g0 := grow_alloc w (.cells #[.int .i64 e.rc.kind, .int .i64 e.rc.key, .int .i64 e.rc.ver, .slice a e.rc.data.length c, .int .i64 e.pair] 37)
 have hE0 := heap_new w #[.int .i64 e.rc.kind, .int .i64 e.rc.key, .int .i64 e.rc.ver, .slice a e.rc.data.length c, .int .i64 e.pair] 37
 go_enter Try.func4, Try.ntmps4
 go_wp2_with fail
 refine (ialive_of HOC HSC HFC HAC HDC HLC HNC _).mono ?_
 rintro r w1 ⟨rfl, g1⟩
 replace hE0 := (g1.block _ (heap_lt hE0)).trans hE0
 have gw := g0.trans g1
 clear g0 g1
 go_wp2_with fail
 refine (rrightI_any _ l _ _ (hl.grow gw) hm).mono ?_
 cases hrl : rightI l with
 | false =>
  rintro r w2 ⟨rfl, g2⟩
  have gE := gw.trans g2
  go_wp2_with fail
  go_ret
  exact ⟨rfl, gE⟩
 | true =>
  have HRL : Hid (rightI l = true) := hrl
  have hm2 : l.length ≤ 1001 := right_len hrl
  clear hrl hm
  rintro r w2 ⟨rfl, g2⟩
  replace hE0 := (g2.block _ (heap_lt hE0)).trans hE0
  replace gw := gw.trans g2
  clear g2
  obtain ⟨e0, e1, e2, e3, e4⟩ := box5 hE0 rfl rfl rfl rfl rfl
  have g3 := grow_alloc w2 (.cells #[.int .i64 e.rc.kind, .int .i64 e.rc.key, .int .i64 e.rc.ver, .slice a e.rc.data.length c, .int .i64 e.pair] 37)
  have hN := heap_new w2 #[.int .i64 e.rc.kind, .int .i64 e.rc.key, .int .i64 e.rc.ver, .slice a e.rc.data.length c, .int .i64 e.pair] 37
  replace gw := gw.trans g3
  have hs1 := slice_one hN (bytes_s (bytes_grow he gw))
  replace hE0 := (g3.block _ (heap_lt hE0)).trans hE0
  clear g3 hN
  go_wp2_with fail
  refine (rrightI_any _ [e] _ _ hs1 (by simp)).mono ?_
  clear e0 e1 e2 e3 e4 hs1
  cases hre : rightI [e] with
  | false =>
   rintro r w3 ⟨rfl, g3⟩
   have gE := gw.trans g3
   go_wp2_with fail
   go_ret
   exact ⟨rfl, gE⟩
  | true =>
   have HGE : Hid (Good e) := (one_right e).1 hre
   clear hre
   rintro r w3 ⟨rfl, g3⟩
   replace hE0 := (g3.block _ (heap_lt hE0)).trans hE0
   replace gw := gw.trans g3
   clear g3
   go_wp2_with fail
   go_loopw [25] (fun i wr => ∃ k : Nat, k ≤ l.length ∧ i = .int .i64 k ∧ Hid (∀ x ∈ l.take k, x.pair ≠ e.pair ∧ ¬ (x.rc.key = e.rc.key ∧ x.rc.ver = e.rc.ver)) ∧ Grow w wr ∧ wr.heap[w.heap.size]? = some (.cells #[.int .i64 e.rc.kind, .int .i64 e.rc.key, .int .i64 e.rc.ver, .slice a e.rc.data.length c, .int .i64 e.pair] 37 (0, 0))) (fun i _ => l.length - (intOf i).toNat)
   case atStart => exact ⟨0, Nat.zero_le _, rfl, (fun x hx => by simp at hx), gw, hE0⟩
   case round =>
    clear gw hE0
    obtain ⟨k, hk, rfl, HK, gw, hE⟩ := hrel
    by_cases hlt : k < l.length
    ·obtain ⟨b, off, a1, c1, hv1, q0, q1, q2, q3, q4, hu⟩ := ents_at (hl.grow gw) k hlt
     cases hv1
     have HN : Hid (l[k].pair ≠ e.pair ∧ ¬ (l[k].rc.key = e.rc.key ∧ l[k].rc.ver = e.rc.ver) → ∀ x ∈ l.take (k + 1), x.pair ≠ e.pair ∧ ¬ (x.rc.key = e.rc.key ∧ x.rc.ver = e.rc.ver)) := fun h x hx => by
      rw [List.take_succ_eq_append_getElem hlt] at hx
      rcases List.mem_append.1 hx with h1 | h1
      ·exact HK.out x h1
      ·rw [List.mem_singleton.1 h1]; exact h
     generalize l[k] = x at *
     have g1 := grow_alloc wr (.cells #[.int .i64 x.rc.kind, .int .i64 x.rc.key, .int .i64 x.rc.ver, .slice a1 x.rc.data.length c1, .int .i64 x.pair] 37)
     have hX1 := heap_new wr #[.int .i64 x.rc.kind, .int .i64 x.rc.key, .int .i64 x.rc.ver, .slice a1 x.rc.data.length c1, .int .i64 x.pair] 37
     have hE1 := (g1.block _ (heap_lt hE)).trans hE
     have gw1 := gw.trans g1
     have x1 := box_cell hX1 1 _ rfl
     have x2 := box_cell hX1 2 _ rfl
     have x4 := box_cell hX1 4 _ rfl
     have e1 := box_cell hE1 1 _ rfl
     have e2 := box_cell hE1 2 _ rfl
     have e4 := box_cell hE1 4 _ rfl
     clear g1 hX1 hE gw hu HK
     by_cases hp : x.pair = e.pair
     ·have d0 : (x.pair == e.pair) = true := by simp [hp]
      clear hp HN
      go_wp2_with fail
      go_ret
      exact ⟨rfl, gw1⟩
     ·have d0 : (x.pair == e.pair) = false := by simp [hp]
      by_cases hy : x.rc.key = e.rc.key
      ·have d1 : (x.rc.key == e.rc.key) = true := by simp [hy]
       by_cases hv : x.rc.ver = e.rc.ver
       ·have d2 : (x.rc.ver == e.rc.ver) = true := by simp [hv]
        clear hp hy hv HN
        go_wp2_with fail
        go_ret
        exact ⟨rfl, gw1⟩
       ·have d2 : (x.rc.ver == e.rc.ver) = false := by simp [hv]
        have HN2 : Hid _ := HN.out ⟨hp, fun h => hv h.2⟩
        clear hp hy hv HN
        go_wp2_with fail
        go_roundw
        case rel => exact ⟨k + 1, by omega, by go_num, HN2, gw1, hE1⟩
        case measure => simp [intOf]; omega
      ·have d1 : (x.rc.key == e.rc.key) = false := by simp [hy]
       have HN2 : Hid _ := HN.out ⟨hp, fun h => hy h.1⟩
       clear hp hy HN
       go_wp2_with fail
       go_roundw
       case rel => exact ⟨k + 1, by omega, by go_num, HN2, gw1, hE1⟩
       case measure => simp [intOf]; omega
    ·have HNE : Hid (∀ x ∈ l, x.pair ≠ e.pair ∧ ¬ (x.rc.key = e.rc.key ∧ x.rc.ver = e.rc.ver)) := by
      show ∀ x ∈ l, _
      have h := HK.out
      rw [show k = l.length from by omega, List.take_length] at h
      exact h
     have HRM : Hid (rightI (insertE e l) = true) := insertE_right HRL.out HGE.out fun x hx => (HNE.out x hx).1
     obtain ⟨e0, e1, e2, e3, e4⟩ := box5 hE rfl rfl rfl rfl rfl
     have hlr := (hl.grow gw).all (by decide)
     clear HK
     go_wp2_with fail
     refine (HAC _ l e a c _ _ (fun b h => h) HRL.out (fun x hx => (HNE.out x hx).1) HGE.out.1 hlr (bytes_s (bytes_grow he gw))).mono ?_
     rintro r w4 ⟨v4, rfl, hM, g4⟩
     replace hM := hM.all (by decide)
     obtain ⟨a4, c4, rfl⟩ := hM.form
     have gw4 := gw.trans g4
     replace hE := (g4.block _ (heap_lt hE)).trans hE
     replace hlr := (hlr.grow g4).all (by decide)
     have HLM : Hid ((insertE e l).length = l.length + 1) := insertE_exact e l
     have hML : (insertE e l).length ≤ 1002 := by rw [HLM.out]; omega
     have HFM : Hid _ := find_ins e l fun x hx => (HNE.out x hx).2
     have HDM : Hid _ := drop_ins e l fun x hx => (HNE.out x hx).1
     have HFL : Hid (findOf l e.rc.key e.rc.ver = none) := find_none fun x hx => (HNE.out x hx).2
     generalize insertE e l = m at *
     clear gw g4 e0 e1 e2 e3 e4 HLM
     have e1 := box_cell hE 1 _ rfl
     have e2 := box_cell hE 2 _ rfl
     go_wp2_with fail
     refine (HNC _ m _ _ _ _ (fun b h => h) HRM.out hM).mono ?_
     rw [HFM.out]
     rintro r w5 ⟨v5, rfl, ⟨x, a5, c5, rfl, hxx⟩, g5⟩
     obtain ⟨hex, hbx⟩ := hxx _ rfl
     subst hex
     have g6 := grow_alloc w5 (.cells #[.int .i64 e.rc.kind, .int .i64 e.rc.key, .int .i64 e.rc.ver, .slice a5 e.rc.data.length c5, .int .i64 e.pair] 37)
     have hA := heap_new w5 #[.int .i64 e.rc.kind, .int .i64 e.rc.key, .int .i64 e.rc.ver, .slice a5 e.rc.data.length c5, .int .i64 e.pair] 37
     have gw6 := gw4.trans (g5.trans g6)
     replace hE := ((g5.trans g6).block _ (heap_lt hE)).trans hE
     replace hM := (hM.grow (g5.trans g6)).all (by decide)
     replace hlr := (hlr.grow (g5.trans g6)).all (by decide)
     replace hbx := (hbx.grow g6).p
     clear gw4 g5 g6 hxx e1 e2
     have e1 := box_cell hE 1 _ rfl
     have e2 := box_cell hE 2 _ rfl
     go_wp2_with fail
     refine (HNC _ l _ _ _ _ (fun b h => h) HRL.out hlr).mono ?_
     rw [HFL.out]
     rintro r w7 ⟨v7, rfl, ⟨y, a7, c7, rfl, -⟩, g7⟩
     have g8 := grow_alloc w7 (.cells #[.int .i64 y.rc.kind, .int .i64 y.rc.key, .int .i64 y.rc.ver, .slice a7 y.rc.data.length c7, .int .i64 y.pair] 37)
     have gw8 := gw6.trans (g7.trans g8)
     replace hE := ((g7.trans g8).block _ (heap_lt hE)).trans hE
     replace hA := ((g7.trans g8).block _ (heap_lt hA)).trans hA
     replace hM := (hM.grow (g7.trans g8)).all (by decide)
     replace hlr := (hlr.grow (g7.trans g8)).all (by decide)
     replace hbx := bytes_grow hbx (g7.trans g8)
     clear gw6 g7 g8 e1 e2
     go_wp2_with fail
     refine (rrightI_any _ m _ _ hM (by omega)).mono ?_
     rw [HRM.out]
     rintro r w9 ⟨rfl, g9⟩
     have gw9 := gw8.trans g9
     replace hE := (g9.block _ (heap_lt hE)).trans hE
     replace hA := (g9.block _ (heap_lt hA)).trans hA
     replace hM := (hM.grow g9).all (by decide)
     replace hlr := (hlr.grow g9).all (by decide)
     replace hbx := bytes_grow hbx g9
     clear gw8 g9
     obtain ⟨e0, e1, e2, e3, e4⟩ := box5 hE rfl rfl rfl rfl rfl
     obtain ⟨x0, x1, x2, x3, x4⟩ := box5 hA rfl rfl rfl rfl rfl
     have g10 := grow_alloc w9 (.cells #[.int .i64 e.rc.kind, .int .i64 e.rc.key, .int .i64 e.rc.ver, .slice a5 e.rc.data.length c5, .int .i64 e.pair] 37)
     have hN1 := heap_new w9 #[.int .i64 e.rc.kind, .int .i64 e.rc.key, .int .i64 e.rc.ver, .slice a5 e.rc.data.length c5, .int .i64 e.pair] 37
     have g11 := grow_alloc (w9.alloc (.cells #[.int .i64 e.rc.kind, .int .i64 e.rc.key, .int .i64 e.rc.ver, .slice a5 e.rc.data.length c5, .int .i64 e.pair] 37)) (.cells #[.int .i64 e.rc.kind, .int .i64 e.rc.key, .int .i64 e.rc.ver, .slice a e.rc.data.length c, .int .i64 e.pair] 37)
     have hN2 := heap_new (w9.alloc (.cells #[.int .i64 e.rc.kind, .int .i64 e.rc.key, .int .i64 e.rc.ver, .slice a5 e.rc.data.length c5, .int .i64 e.pair] 37)) #[.int .i64 e.rc.kind, .int .i64 e.rc.key, .int .i64 e.rc.ver, .slice a e.rc.data.length c, .int .i64 e.pair] 37
     rw [World.size_alloc] at hN2
     have hs1 := slice_one ((g11.block _ (heap_lt hN1)).trans hN1) (bytes_s (bytes_grow hbx (g10.trans g11)))
     have hs2 := slice_one hN2 (bytes_s (bytes_grow he (gw9.trans (g10.trans g11))))
     have gw11 := gw9.trans (g10.trans g11)
     replace hE := ((g10.trans g11).block _ (heap_lt hE)).trans hE
     replace hM := (hM.grow (g10.trans g11)).all (by decide)
     replace hlr := (hlr.grow (g10.trans g11)).all (by decide)
     have e5 := (Below.cell g10 (cell_lt e0)).trans e0
     have e6 := (Below.cell g10 (cell_lt e1)).trans e1
     have e7 := (Below.cell g10 (cell_lt e2)).trans e2
     have e8 := (Below.cell g10 (cell_lt e3)).trans e3
     have e9 := (Below.cell g10 (cell_lt e4)).trans e4
     clear gw9 g10 g11 hN1 hN2 hbx hA
     go_wp2_with fail
     clear e0 e1 e2 e3 e4 e5 e6 e7 e8 e9 x0 x1 x2 x3 x4
     refine (rsameE_any [e] [e] _ _ _ _ _ hs1 hs2 (by simp)).mono ?_
     rw [sameE_refl]
     rintro r w12 ⟨rfl, g12⟩
     have gw12 := gw11.trans g12
     replace hE := (g12.block _ (heap_lt hE)).trans hE
     replace hM := (hM.grow g12).all (by decide)
     replace hlr := (hlr.grow g12).all (by decide)
     clear gw11 g12 hs1 hs2
     have e4 := box_cell hE 4 _ rfl
     go_wp2_with fail
     refine (HDC _ m _ _ _ (fun b h => h) HRM.out hM).mono ?_
     rw [HDM.out]
     rintro r w13 ⟨v13, rfl, hD, g13⟩
     obtain ⟨a13, c13, rfl⟩ := hD.form
     have gw13 := gw12.trans g13
     replace hlr := hlr.grow g13
     clear gw12 g13 hM hE e4
     go_wp2_with fail
     refine (rsameE_any l l _ _ _ _ _ hD hlr (by omega)).mono ?_
     rw [sameE_refl]
     rintro r w14 ⟨rfl, g14⟩
     have gw14 := gw13.trans g14
     clear gw13 g14 hD hlr
     go_wp2_with fail
     go_ret
     exact ⟨rfl, gw14⟩
end Go.Proofs.Ytgaecpdokgklpab
