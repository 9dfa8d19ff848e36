/-
  sclaw5.IndexScan answers true for every disk.
  Condition: the program's index keeps its contracts (premises).
-/
import Derived.Test.YtgaecpdokgklpabIAlive
namespace Go.Proofs.Ytgaecpdokgklpab
set_option maxRecDepth 100000
open Go.RowKit
open Go.Proofs.Ytgaecpdokgklpab.Plain Go.Proofs.Ytgaecpdokgklpab.Reg

def isIn (p : Int) (r : Rec) (x : Ent) : Bool := decide (x.pair = p) && sameB x.rc r
theorem isIn_next (p : Int) (r : Rec) (l : List Ent) (j : Nat) (h : j < l.length) : (l.take (j + 1)).any (isIn p r) = ((l.take j).any (isIn p r) || isIn p r l[j]) := by
 rw [List.take_succ_eq_append_getElem h, List.any_append]; simp

set_option maxHeartbeats 8000000 in
theorem indexScan_of (HOC : IOwnC) (HSC : IScanC) (HFC : IFreeC) (HAC : IAddC) (HDC : IDropC) (HLC : ILastC) (HNC : IFindC) (d : Dk) (vb vl : Value) (w : World) (hb : BlocksP w vb d.blocks) (hl : LateP w vl d.late) :
  Calls Try.prog 3 #[.agg #[vb, vl]] w fun r w' => r = .returned (.bool true) ∧ Grow w w' := by
 obtain ⟨ab, cb, rfl⟩ := hb.form
 obtain ⟨al, cl, rfl⟩ := hl.form
 have hd : DiskP d (.agg #[.slice ab d.blocks.length cb, .slice al d.late.length cl]) w := ⟨_, _, rfl, hb, hl⟩
 have g0 := grow_alloc w (.cells #[.slice ab d.blocks.length cb, .slice al d.late.length cl] 25)
 have hD0 := heap_new w #[.slice ab d.blocks.length cb, .slice al d.late.length cl] 25
 clear hb hl
 go_enter Try.func3, Try.ntmps3
 go_wp2_with fail
 refine (ialive_of HOC HSC HFC HAC HDC HLC HNC _).mono ?_
 rintro r w1 ⟨rfl, g1⟩
 replace hD0 := (g1.block _ (heap_lt hD0)).trans hD0
 have gw := g0.trans g1
 clear g0 g1
 obtain ⟨x0, x1⟩ := box2 hD0 rfl rfl
 go_wp2_with fail
 refine (rright_c d _ _ (st_diskp _ _ _ _ gw hd)).mono ?_
 cases hrd : d.right with
 | false =>
  rintro r w2 ⟨rfl, g2⟩
  have gE := gw.trans g2
  go_wp2_with fail
  go_ret
  exact ⟨rfl, gE⟩
 | true =>
  have HF : Hid (d.Fine 40) := Dk.right_fine hrd
  have hl256 : d.blocks.length ≤ 256 := by rw [(Dk.right_fine hrd).len]; omega
  have hm9 : d.late.length ≤ 999990 := by have := (Dk.right_fine hrd).few; omega
  clear hrd
  rintro r w2 ⟨rfl, g2⟩
  replace hD0 := (g2.block _ (heap_lt hD0)).trans hD0
  replace gw := gw.trans g2
  clear g2 x0 x1
  obtain ⟨x0, x1⟩ := box2 hD0 rfl rfl
  go_wp2_with fail
  refine (HSC _ d _ _ (fun b h => h) (HF.out.mono (by omega)) (st_diskp _ _ _ _ gw hd).s).mono ?_
  rintro r w3 ⟨v3, rfl, hL, g3⟩
  have HLR : Hid (rightI (scanE d 6) = true) := scan_right d 6 (by omega)
  have hLl := scanE_len d 6
  have HMEM : Hid (∀ k : Nat, k < 6 → (d.tell (k : Int)).kind ≠ 1 → (scanE d 6).any (isIn (k : Int) (d.tell (k : Int))) = true) := fun k hk hkk => by
   rw [List.any_eq_true]
   refine ⟨⟨d.tell (k : Int), (k : Int)⟩, (scan_mem d _ 6).2 ⟨k, hk, hkk, rfl⟩, ?_⟩
   have hs : sameB (d.tell (k : Int)) (d.tell (k : Int)) = true := (sameB_iff _ _).2 rfl
   simp [isIn, hs]
  obtain ⟨L, hLe⟩ : ∃ L, L = scanE d 6 := ⟨_, rfl⟩
  have HLE : Hid _ := hLe
  rw [← hLe] at hL HLR hLl HMEM
  clear hLe
  obtain ⟨a3, c3, rfl⟩ := hL.form
  replace hD0 := (g3.block _ (heap_lt hD0)).trans hD0
  replace gw := gw.trans g3
  clear g3 x0 x1
  go_wp2_with fail
  refine (rrightI_any _ L _ _ hL (by omega)).mono ?_
  rw [HLR.out]
  rintro r w4 ⟨rfl, g4⟩
  replace hD0 := (g4.block _ (heap_lt hD0)).trans hD0
  replace gw := gw.trans g4
  replace hL := hL.grow g4
  clear g4 HLR
  go_wp2_with fail
  go_loopw [4, 21] (fun n i wr => ∃ k : Nat, k ≤ 6 ∧ i = .int .i64 k ∧ n = .int .i64 ((scanE d k).length : Int) ∧ Grow w4 wr) (fun _ i _ => 6 - (intOf i).toNat)
  case atStart => exact ⟨0, by omega, rfl, rfl, Grow.refl _⟩
  case round =>
   obtain ⟨k, hk, rfl, rfl, gk⟩ := hrel
   by_cases hlt : k < 6
   ·have hDk := (gk.block _ (heap_lt hD0)).trans hD0
    have HNX : Hid _ := scan_next d k
    have HM : Hid _ := HMEM.out k hlt
    have hkl := scanE_len d k
    obtain ⟨x0, x1⟩ := box2 hDk rfl rfl
    go_wp2_with fail
    refine (rlook_c d (k : Int) _ _ (st_diskp _ _ _ _ (gw.trans gk) hd) hl256 hm9).mono ?_
    rintro r w5 ⟨dv, rfl, ho, g5⟩
    obtain ⟨a5, c5, rfl⟩ := own_slice ho
    have hdv := bytes_own ho
    generalize d.tell (k : Int) = r at *
    generalize d.how (k : Int) = how at *
    have g6 := grow_alloc w5 (.cells #[.int .i64 r.kind, .int .i64 r.key, .int .i64 r.ver, .slice a5 r.data.length c5] 33)
    have hR6 := heap_new w5 #[.int .i64 r.kind, .int .i64 r.key, .int .i64 r.ver, .slice a5 r.data.length c5] 33
    have gk6 := gk.trans (g5.trans g6)
    replace hdv := bytes_grow hdv g6
    have r0 := box_cell hR6 0 _ rfl
    clear x0 x1 hDk g5 g6 ho gk
    by_cases hk1 : r.kind = 1
    ·have d1 : (r.kind == 1) = true := by simp [hk1]
     have HN2 : Hid ((scanE d (k + 1)).length = (scanE d k).length) := by show _ = _; rw [HNX.out, if_pos hk1]; rfl
     clear hk1 HNX HM hR6
     go_wp2_with fail
     go_roundw
     case rel => exact ⟨k + 1, by omega, by go_num, by rw [HN2.out], gk6⟩
     case measure => simp [intOf]; omega
    ·have d1 : (r.kind == 1) = false := by simp [hk1]
     have HN2 : Hid ((scanE d (k + 1)).length = (scanE d k).length + 1) := by show _ = _; rw [HNX.out, if_neg hk1]
     have HM2 : Hid (L.any (isIn (k : Int) r) = true) := HM.out hk1
     clear hk1 HNX HM
     go_wp2_with fail
     obtain ⟨W6, hW6⟩ : ∃ W6, W6 = w5.alloc (.cells #[.int .i64 r.kind, .int .i64 r.key, .int .i64 r.ver, .slice a5 r.data.length c5] 33) := ⟨_, rfl⟩
     rw [← hW6] at hR6 gk6 hdv r0 ⊢
     clear hW6
     generalize w5.heap.size = gr at *
     obtain ⟨wo, rfl⟩ : ∃ wo : World, wo = wr := ⟨_, rfl⟩
     go_loopw [8, 37] (fun b i wr => ∃ (j : Nat) (B : Bool), j ≤ L.length ∧ i = .int .i64 j ∧ b = .bool B ∧ Hid (B = (L.take j).any (isIn (k : Int) r)) ∧ Grow W6 wr) (fun _ i _ => L.length - (intOf i).toNat)
     case atStart => exact ⟨0, false, by omega, rfl, rfl, (by show false = _; simp), Grow.refl _⟩
     case round =>
      obtain ⟨j, B, hj, rfl, rfl, HB, gj⟩ := hrel
      by_cases hjl : j < L.length
      ·obtain ⟨b1, o1, a1, c1, hv1, q0, q1, q2, q3, q4, hu⟩ := ents_at (hL.grow (gk6.trans gj)) j hjl
       cases hv1
       have HBN : Hid ((L.take (j + 1)).any (isIn (k : Int) r) = (B || isIn (k : Int) r L[j])) := by show _ = _; rw [isIn_next _ _ _ _ hjl, HB.out]
       generalize L[j] = x at *
       have g7 := grow_alloc wr (.cells #[.int .i64 x.rc.kind, .int .i64 x.rc.key, .int .i64 x.rc.ver, .slice a1 x.rc.data.length c1, .int .i64 x.pair] 37)
       have hX7 := heap_new wr #[.int .i64 x.rc.kind, .int .i64 x.rc.key, .int .i64 x.rc.ver, .slice a1 x.rc.data.length c1, .int .i64 x.pair] 37
       have hR7 := ((gj.trans g7).block _ (heap_lt hR6)).trans hR6
       have gj7 := gj.trans g7
       have hu7 := bytes_grow hu.p g7
       have hd7 := bytes_grow hdv gj7
       obtain ⟨x0, x1, x2, x3, x4⟩ := box5 hX7 rfl rfl rfl rfl rfl
       obtain ⟨y0, y1, y2, y3⟩ := box4 hR7 rfl rfl rfl rfl
       clear hX7 hR7 g7 gj hu HB r0
       cases B with
       | true =>
        have HB2 : Hid (true = (L.take (j + 1)).any (isIn (k : Int) r)) := by show _ = _; rw [HBN.out]; rfl
        clear HBN
        go_wp2_with fail
        go_roundw
        case rel => exact ⟨j + 1, true, by omega, by go_num, rfl, HB2, gj7⟩
        case measure => simp [intOf]; omega
       | false =>
        by_cases hp : x.pair = (k : Int)
        ·have d2 : (x.pair == (k : Int)) = true := by simp [hp]
         have HB2 : Hid ((L.take (j + 1)).any (isIn (k : Int) r) = sameB x.rc r) := by show _ = _; rw [HBN.out]; simp [isIn, hp]
         clear HBN hp
         go_wp2_with fail
         refine (rsame_any _ _ _ _ _ _ x.rc.data r.data _ _ _ hu7 hd7).mono ?_
         cases hsb : sameB x.rc r with
         | true =>
          have HB3 : Hid (true = (L.take (j + 1)).any (isIn (k : Int) r)) := by show _ = _; rw [HB2.out, hsb]
          clear hsb HB2
          rintro q w8 ⟨rfl, g8⟩
          have gj8 := gj7.trans g8
          clear gj7 g8 hu7 hd7 x0 x1 x2 x3 x4 y0 y1 y2 y3
          go_wp2_with fail
          go_roundw
          case rel => exact ⟨j + 1, true, by omega, by go_num, rfl, HB3, gj8⟩
          case measure => simp [intOf]; omega
         | false =>
          have HB3 : Hid (false = (L.take (j + 1)).any (isIn (k : Int) r)) := by show _ = _; rw [HB2.out, hsb]
          clear hsb HB2
          rintro q w8 ⟨rfl, g8⟩
          have gj8 := gj7.trans g8
          clear gj7 g8 hu7 hd7 x0 x1 x2 x3 x4 y0 y1 y2 y3
          go_wp2_with fail
          go_roundw
          case rel => exact ⟨j + 1, false, by omega, by go_num, rfl, HB3, gj8⟩
          case measure => simp [intOf]; omega
        ·have d2 : (x.pair == (k : Int)) = false := by simp [hp]
         have HB2 : Hid (false = (L.take (j + 1)).any (isIn (k : Int) r)) := by show _ = _; rw [HBN.out]; simp [isIn, hp]
         clear HBN hp
         go_wp2_with fail
         go_roundw
         case rel => exact ⟨j + 1, false, by omega, by go_num, rfl, HB2, gj7⟩
         case measure => simp [intOf]; omega
      ·have hBt : B = true := by
        rw [HB.out, show j = L.length from by omega, List.take_length]; exact HM2.out
       subst hBt
       have gk7 := gk6.trans gj
       clear HB
       go_wp2_with fail
       go_roundw
       case rel => exact ⟨k + 1, by omega, by go_num, by rw [HN2.out]; go_num, gk7⟩
       case measure => simp [intOf]; omega
   ·have hk6 : k = 6 := by omega
    subst hk6
    have gE := gw.trans gk
    rw [← HLE.out]
    go_wp2_with fail
    go_ret
    refine ⟨?_, gE⟩
    simp
end Go.Proofs.Ytgaecpdokgklpab
