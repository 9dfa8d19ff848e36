/-
  sclaw7.alive, TextTurns and TextUnlike answer true for all texts and deeds.
  Condition: the program's text keeps its contracts (premises).
-/
import Derived.Test.YtgaecpdokgklpabDoorTxtC
namespace Go.Proofs.YtgaecpdokgklpabDoor
set_option maxRecDepth 100000
open Go.RowKit
open Go.Proofs.YtgaecpdokgklpabDoor.Plain Go.Proofs.YtgaecpdokgklpabDoor.Reg

def dP : Dd := ⟨1, 7, 0, [97, 98]⟩
def dQ : Dd := ⟨3, 7, 3, []⟩
theorem print_P : printD dP = [112, 117, 116, 32, 55, 32, 54, 49, 54, 50] := by
 simp [printD, dP, wPut, Lib.itoa, Lib.decDigits, dataW, hexB, hexd]
theorem print_Q : printD dQ = [112, 117, 114, 103, 101, 32, 55, 32, 51] := by
 simp [printD, dQ, wPurge, Lib.itoa, Lib.decDigits]
theorem right_P : wrongD dP = 0 := by decide
theorem right_Q : wrongD dQ = 0 := by decide
theorem parse_P : parseD [112, 117, 116, 32, 55, 32, 54, 49, 54, 50] = (dP, 0) := by rw [← print_P]; exact parse_print right_P
theorem parse_Q : parseD [112, 117, 114, 103, 101, 32, 55, 32, 51] = (dQ, 0) := by rw [← print_Q]; exact parse_print right_Q

set_option maxHeartbeats 4000000 in
theorem talive_of (V : World → Prop) (hV : ∀ w w', V w → Grow w w' → V w') (TP : TPrintC V) (TR : TParseC V) (w : World) (hw : V w) :
  Calls Tryd.prog 12 #[] w fun r w' => r = .returned (.bool true) ∧ Grow w w' := by
 go_enter Tryd.func12, Tryd.ntmps12
 go_wp2_with fail
 refine (TR [112, 117, 116, 32, 55, 32, 54, 49, 54, 50] w hw (by simp)).mono ?_
 rw [parse_P]
 rintro e w1 ⟨v1, rfl, ⟨a1, c1, hv1, hb1⟩, g1⟩
 obtain rfl : v1 = .tuple #[.agg #[.int .i64 1, .int .i64 7, .int .i64 0, .slice a1 2 c1], .int .i64 0] := hv1
 have g2 := grow_alloc w1 (.cells #[.int .i64 1, .int .i64 7, .int .i64 0, .slice a1 2 c1] 24)
 have hD2 := heap_new w1 #[.int .i64 1, .int .i64 7, .int .i64 0, .slice a1 2 c1] 24
 have gW := g1.trans g2
 replace hb1 : Bytes _ (.slice a1 2 c1) [97, 98] := bytes_grow hb1 g2
 clear g1 g2
 have hVW := hV _ _ hw gW
 go_wp2_with fail
 generalize World.alloc w1 _ = W2 at *
 generalize w1.heap.size = gx at *
 refine (TR [112, 117, 114, 103, 101, 32, 55, 32, 51] W2 hVW (by simp)).mono ?_
 rw [parse_Q]
 rintro e w3 ⟨v3, rfl, ⟨a3, c3, hv3, hb3⟩, g3⟩
 obtain rfl : v3 = .tuple #[.agg #[.int .i64 3, .int .i64 7, .int .i64 3, .slice a3 0 c3], .int .i64 0] := hv3
 have g4 := grow_alloc w3 (.cells #[.int .i64 3, .int .i64 7, .int .i64 3, .slice a3 0 c3] 24)
 have hE4 := heap_new w3 #[.int .i64 3, .int .i64 7, .int .i64 3, .slice a3 0 c3] 24
 have g34 := g3.trans g4
 have hD4 := (g34.block _ (heap_lt hD2)).trans hD2
 have hb4 := bytes_grow hb1 g34
 have gW4 := gW.trans g34
 have hVW4 := hV _ _ hVW g34
 have ra : (convert 22 9 (.slice a1 2 c1)).run Tryd.prog _ = .ok (.string ⟨#[97, 98]⟩) _ := run_str7 _ _ _ hb4
 obtain ⟨y0, y1, y2, y3⟩ := box4 hD4 rfl rfl rfl rfl
 have z2 := box_cell hE4 2 _ rfl
 clear g3 g4 g34 hD2 hb1 gW hVW hb3
 go_wp2_with fail
 refine (TP dP a1 c1 _ hVW4 right_P hb4).mono ?_
 rw [print_P]
 rintro e w5 ⟨rfl, g5⟩
 have gE := gW4.trans g5
 clear g5 gW4 y0 y1 y2 y3 z2 hb4 ra hD4 hE4 hVW4
 go_wp2_with fail
 go_ret
 exact ⟨rfl, gE⟩

set_option maxHeartbeats 4000000 in
theorem textTurns_of (V : World → Prop) (hV : ∀ w w', V w → Grow w w' → V w') (TP : TPrintC V) (TR : TParseC V) (s : List UInt8) (d : Dd) (ad : Option Addr) (cd : Nat) (w : World) (hw : V w) (hs : s.length ≤ 140737488355328) (hd : Bytes w (.slice ad d.data.length cd) d.data) (hld : d.data.length ≤ 140737488355328) (hpl : ∀ e, wrongD e = 0 → (printD e).length ≤ 140737488355328) :
  Calls Tryd.prog 4 #[.string ⟨s.toArray⟩, .agg #[.int .i64 d.kind, .int .i64 d.key, .int .i64 d.num, .slice ad d.data.length cd]] w fun r w' => r = .returned (.bool true) ∧ Grow w w' := by
 have gW := grow_alloc w (.cells #[.int .i64 d.kind, .int .i64 d.key, .int .i64 d.num, .slice ad d.data.length cd] 24)
 have hD := heap_new w #[.int .i64 d.kind, .int .i64 d.key, .int .i64 d.num, .slice ad d.data.length cd] 24
 obtain ⟨WD, hWD⟩ : ∃ WD, WD = wrongD d := ⟨_, rfl⟩
 have HWD : Hid _ := hWD
 clear hWD
 go_enter Tryd.func4, Tryd.ntmps4
 go_wp2_with fail
 refine (talive_of V hV TP TR _ (hV _ _ hw gW)).mono ?_
 rintro e w1 ⟨rfl, g1⟩
 replace gW := gW.trans g1
 replace hD := (g1.block _ (heap_lt hD)).trans hD
 clear g1
 obtain ⟨y0, y1, y2, y3⟩ := box4 hD rfl rfl rfl rfl
 go_wp2_with fail
 refine (rwrongD_any d ad cd _ hld).mono ?_
 rw [← HWD.out]
 rintro e w1 ⟨rfl, g1⟩
 replace gW := gW.trans g1
 replace hD := (g1.block _ (heap_lt hD)).trans hD
 clear g1 y0 y1 y2 y3
 by_cases hw0 : WD = 0
 ·have HW0 : Hid (wrongD d = 0) := by show _ = _; rw [← HWD.out, hw0]
  have d0 : (WD == 0) = true := by simp [hw0]
  clear hw0
  obtain ⟨y0, y1, y2, y3⟩ := box4 hD rfl rfl rfl rfl
  have hVW := hV _ _ hw gW
  go_wp2_with fail
  refine (TP d ad cd _ hVW HW0.out (bytes_grow hd gW)).mono ?_
  rintro e w1 ⟨rfl, g1⟩
  replace gW := gW.trans g1
  replace hD := (g1.block _ (heap_lt hD)).trans hD
  replace hVW := hV _ _ hVW g1
  clear g1 y0 y1 y2 y3 d0
  go_wp2_with fail
  refine (TR (printD d) _ hVW (hpl d HW0.out)).mono ?_
  rw [parse_print HW0.out]
  rintro e w2 ⟨v2, rfl, ⟨a2, c2, hv2, hb2⟩, g2⟩
  obtain rfl : v2 = .tuple #[.agg #[.int .i64 d.kind, .int .i64 d.key, .int .i64 d.num, .slice a2 d.data.length c2], .int .i64 0] := hv2
  replace hb2 : Bytes w2 (.slice a2 d.data.length c2) d.data := hb2
  have g3 := grow_alloc w2 (.cells #[.int .i64 d.kind, .int .i64 d.key, .int .i64 d.num, .slice a2 d.data.length c2] 24)
  have hX3 := heap_new w2 #[.int .i64 d.kind, .int .i64 d.key, .int .i64 d.num, .slice a2 d.data.length c2] 24
  have g23 := g2.trans g3
  have gW3 := gW.trans g23
  have hD3 := (g23.block _ (heap_lt hD)).trans hD
  have hb3 := bytes_grow hb2 g3
  have HSD : Hid (sameD d d = true) := (sameD_iff d d).2 rfl
  clear g2 g3 g23 hb2 gW hD hVW
  obtain ⟨y0, y1, y2, y3⟩ := box4 hD3 rfl rfl rfl rfl
  obtain ⟨z0, z1, z2, z3⟩ := box4 hX3 rfl rfl rfl rfl
  go_wp2_with fail
  refine (rsameD_any d d ad a2 cd c2 _ (bytes_grow hd gW3) hb3).mono ?_
  rw [HSD.out]
  rintro e w4 ⟨rfl, g4⟩
  have gW := gW3.trans g4
  clear g4 gW3 y0 y1 y2 y3 z0 z1 z2 z3 hX3 hD3 hb3
  have hVs := hV _ _ hw gW
  go_wp2_with fail
  refine (TR s _ hVs hs).mono ?_
  obtain ⟨pd, hpd⟩ : ∃ pd, pd = parseD s := ⟨_, rfl⟩
  rw [← hpd]
  have HPD : Hid _ := hpd
  clear hpd
  obtain ⟨x, pe⟩ := pd
  rintro e w5 ⟨v5, rfl, ⟨a5, c5, hv5, hb5⟩, g5⟩
  obtain rfl : v5 = .tuple #[.agg #[.int .i64 x.kind, .int .i64 x.key, .int .i64 x.num, .slice a5 x.data.length c5], .int .i64 pe] := hv5
  replace hb5 : Bytes w5 (.slice a5 x.data.length c5) x.data := hb5
  have g6 := grow_alloc w5 (.cells #[.int .i64 x.kind, .int .i64 x.key, .int .i64 x.num, .slice a5 x.data.length c5] 24)
  have hX6 := heap_new w5 #[.int .i64 x.kind, .int .i64 x.key, .int .i64 x.num, .slice a5 x.data.length c5] 24
  have gW6 := gW.trans (g5.trans g6)
  have hb6 := bytes_grow hb5 g6
  have hV6 := hV _ _ hVs (g5.trans g6)
  clear g5 g6 hb5 hVs gW
  by_cases hpe : pe = 0
  ·subst hpe
   obtain ⟨h1, h2⟩ := print_parse HPD.out.symm
   have HPX : Hid _ := h1
   have HWX : Hid _ := h2
   have hlx : x.data.length ≤ 8 := by
    have h3 := HWX.out
    unfold wrongD at h3
    by_cases k1 : x.kind < 1 ∨ 3 < x.kind
    ·rw [if_pos k1] at h3; omega
    ·rw [if_neg k1] at h3
     split at h3
     ·omega
     ·split at h3 <;> omega
   clear h1 h2 HPD
   obtain ⟨z0, z1, z2, z3⟩ := box4 hX6 rfl rfl rfl rfl
   have dss : (s == s) = true := by simp
   go_wp2_with fail
   refine (TP x a5 c5 _ hV6 HWX.out hb6).mono ?_
   rw [HPX.out]
   rintro e w7 ⟨rfl, g7⟩
   have gW7 := gW6.trans g7
   have hX7 := (g7.block _ (heap_lt hX6)).trans hX6
   clear g7 gW6 hX6 z0 z1 z2 z3 hV6 hb6
   generalize w5.heap.size = gx at *
   obtain ⟨z0, z1, z2, z3⟩ := box4 hX7 rfl rfl rfl rfl
   go_wp2_with fail
   refine (rwrongD_any x a5 c5 _ (by omega)).mono ?_
   rw [HWX.out]
   rintro e w8 ⟨rfl, g8⟩
   have gE := gW7.trans g8
   clear g8 gW7 hX7 z0 z1 z2 z3
   go_wp2_with fail
   go_ret
   exact ⟨rfl, gE⟩
  ·have d0 : (pe != 0) = true := by simp [hpe]
   clear hpe HPD hX6 hb6 hV6
   go_wp2_with fail
   go_ret
   exact ⟨rfl, gW6⟩
 ·have d0 : (WD == 0) = false := by simp [hw0]
  clear hw0 hD
  have hVs := hV _ _ hw gW
  go_wp2_with fail
  refine (TR s _ hVs hs).mono ?_
  obtain ⟨pd, hpd⟩ : ∃ pd, pd = parseD s := ⟨_, rfl⟩
  rw [← hpd]
  have HPD : Hid _ := hpd
  clear hpd
  obtain ⟨x, pe⟩ := pd
  rintro e w5 ⟨v5, rfl, ⟨a5, c5, hv5, hb5⟩, g5⟩
  obtain rfl : v5 = .tuple #[.agg #[.int .i64 x.kind, .int .i64 x.key, .int .i64 x.num, .slice a5 x.data.length c5], .int .i64 pe] := hv5
  replace hb5 : Bytes w5 (.slice a5 x.data.length c5) x.data := hb5
  have g6 := grow_alloc w5 (.cells #[.int .i64 x.kind, .int .i64 x.key, .int .i64 x.num, .slice a5 x.data.length c5] 24)
  have hX6 := heap_new w5 #[.int .i64 x.kind, .int .i64 x.key, .int .i64 x.num, .slice a5 x.data.length c5] 24
  have gW6 := gW.trans (g5.trans g6)
  have hb6 := bytes_grow hb5 g6
  have hV6 := hV _ _ hVs (g5.trans g6)
  clear g5 g6 hb5 hVs gW
  by_cases hpe : pe = 0
  ·subst hpe
   obtain ⟨h1, h2⟩ := print_parse HPD.out.symm
   have HPX : Hid _ := h1
   have HWX : Hid _ := h2
   have hlx : x.data.length ≤ 8 := by
    have h3 := HWX.out
    unfold wrongD at h3
    by_cases k1 : x.kind < 1 ∨ 3 < x.kind
    ·rw [if_pos k1] at h3; omega
    ·rw [if_neg k1] at h3
     split at h3
     ·omega
     ·split at h3 <;> omega
   clear h1 h2 HPD
   obtain ⟨z0, z1, z2, z3⟩ := box4 hX6 rfl rfl rfl rfl
   have dss : (s == s) = true := by simp
   go_wp2_with fail
   refine (TP x a5 c5 _ hV6 HWX.out hb6).mono ?_
   rw [HPX.out]
   rintro e w7 ⟨rfl, g7⟩
   have gW7 := gW6.trans g7
   have hX7 := (g7.block _ (heap_lt hX6)).trans hX6
   clear g7 gW6 hX6 z0 z1 z2 z3 hV6 hb6
   generalize w5.heap.size = gx at *
   obtain ⟨z0, z1, z2, z3⟩ := box4 hX7 rfl rfl rfl rfl
   go_wp2_with fail
   refine (rwrongD_any x a5 c5 _ (by omega)).mono ?_
   rw [HWX.out]
   rintro e w8 ⟨rfl, g8⟩
   have gE := gW7.trans g8
   clear g8 gW7 hX7 z0 z1 z2 z3
   go_wp2_with fail
   go_ret
   exact ⟨rfl, gE⟩
  ·have d0 : (pe != 0) = true := by simp [hpe]
   clear hpe HPD hX6 hb6 hV6
   go_wp2_with fail
   go_ret
   exact ⟨rfl, gW6⟩
end Go.Proofs.YtgaecpdokgklpabDoor
