/-
  What the program's parseNumber reads of a word.
  Condition: strconv's Itoa and Atoi answer as they should (premises).
-/
import Derived.Test.YtgaecpdokgklpabDoorRParse
namespace Go.Proofs.YtgaecpdokgklpabDoor
set_option maxRecDepth 100000
open Go.RowKit
open Go.Proofs.YtgaecpdokgklpabDoor.Plain Go.Proofs.YtgaecpdokgklpabDoor.Reg

theorem tnum_yes {w : List UInt8} {n : Int} (h : Lib.atoiAll w = .ok n) (h2 : Lib.itoa n = w) : numW w = some n := by unfold numW; rw [h]; exact if_pos h2
theorem tnum_unlike {w : List UInt8} {n : Int} (h : Lib.atoiAll w = .ok n) (h2 : Lib.itoa n ≠ w) : numW w = none := by unfold numW; rw [h]; exact if_neg h2
theorem tnum_no {w : List UInt8} (h : ∀ v, Lib.atoiAll w ≠ .ok v) : numW w = none := by
 unfold numW
 split
 ·rename_i n hn; exact absurd hn (h n)
 ·rfl
/-- A number, and whether there is one. -/
def numQ : Option Int → Value
 | some n => .tuple #[.int .i64 n, .bool true]
 | none => .tuple #[.int .i64 0, .bool false]
set_option maxHeartbeats 1000000 in
theorem tnum_any (V : World → Prop) (hV : ∀ w w', V w → Grow w w' → V w') (IT : ItoaC V) (AT : AtoiC V) (s : List UInt8) (w : World) (hw : V w) (hs : s.length ≤ 140737488355328) :
  Calls Tryd.prog 23 #[.string ⟨s.toArray⟩] w fun r w' => r = .returned (numQ (numW s)) ∧ Grow w w' := by
 obtain ⟨O, hO⟩ : ∃ O, O = numW s := ⟨_, rfl⟩
 rw [← hO]
 have HO : Hid _ := hO
 clear hO
 go_enter Tryd.func23, Tryd.ntmps23
 go_wp2_with fail
 refine (AT s w hw hs).mono ?_
 rintro r w1 ⟨⟨n, ev, rfl, hcase⟩, g1⟩
 rcases hcase with ⟨hok, rfl, hn0, hn1⟩ | ⟨hno, T, p, rfl⟩
 ·have HOK : Hid _ := hok
  clear hok
  go_wp2_with fail
  refine (IT n w1 (hV _ _ hw g1) hn0 hn1).mono ?_
  rintro r w2 ⟨rfl, g2⟩
  have gE := g1.trans g2
  clear g1 g2
  by_cases hit : Lib.itoa n = s
  ·obtain rfl : O = some n := by rw [HO.out]; exact tnum_yes HOK.out hit
   have dA : (Lib.itoa n == s) = true := by simp [hit]
   clear hit HOK HO
   go_wp2_with fail
   exact bodyPost_ret (v := .tuple #[.int .i64 n, .bool true]) (by simp [results, Tryd.results23, go_sem]) rfl ⟨rfl, gE⟩
  ·obtain rfl : O = none := by rw [HO.out]; exact tnum_unlike HOK.out hit
   have dA : (Lib.itoa n == s) = false := by simp [hit]
   clear hit HOK HO
   go_wp2_with fail
   exact bodyPost_ret (v := .tuple #[.int .i64 0, .bool false]) (by simp [results, Tryd.results23, go_sem]) rfl ⟨rfl, gE⟩
 ·obtain rfl : O = none := by rw [HO.out]; exact tnum_no hno
  clear hno HO
  go_wp2_with fail
  exact bodyPost_ret (v := .tuple #[.int .i64 0, .bool false]) (by simp [results, Tryd.results23, go_sem]) rfl ⟨rfl, g1⟩
end Go.Proofs.YtgaecpdokgklpabDoor
