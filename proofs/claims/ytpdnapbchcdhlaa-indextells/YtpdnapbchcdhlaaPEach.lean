import Derived.Test.YtpdnapbchcdhlaaBRead
set_option maxHeartbeats 8000000
namespace Go.Proofs.Ytpdnapbchcdhlaa
set_option maxRecDepth 100000
open Go.RowKit
open Plain Reg
theorem Zim (K : Nat) (caps : Array Value) (p : Int) (w : World) (h : p < 0 ∨ 6 ≤ p) :
  Calls Try.prog 81 #[.int .i64 p, .func (.func K) #[] caps] w fun e w' => e = .returned (.int .i64 3) ∧ w = w' := by
 by_cases h0 : p < 0
 ·clear h;go_enter Try.func81, Try.ntmps81;go_wp2_with fail;go_ret;exact ⟨rfl, rfl⟩
 ·have h1 : 6 ≤ p := by omega
  have h2 : 0 ≤ p := by omega
  clear h h0;go_enter Try.func81, Try.ntmps81;go_wp2_with fail;go_ret;exact ⟨rfl, rfl⟩
theorem Zin (K : Nat) (caps : Array Value) (p : Int) (w : World) (h0 : 0 ≤ p) (h1 : p < 6) (hK : ∀ (args : Array Value) (w : World), (callFunc K args).run Try.prog w = .ok (.enter K args) w) (I : Nat → World → Prop) (F : Int → World → Prop) (hI : I 0 w)
  (hc : ∀ (n : Nat) (w : World), n < 2 → I n w → Calls Try.prog K (#[.int .i64 (p * 2 + (n : Int))] ++ caps) w fun e w' => ∃ E : Int, e = .returned (.int .i64 E) ∧ (E = 0 → I (n + 1) w') ∧ (E ≠ 0 → F E w')) :
  Calls Try.prog 81 #[.int .i64 p, .func (.func K) #[] caps] w fun e w' => ∃ E : Int, e = .returned (.int .i64 E) ∧ (E = 0 → I 2 w') ∧ (E ≠ 0 → F E w') := by
 go_enter Try.func81, Try.ntmps81;go_wp2_with fail;go_loopw [13] (fun i wr => ∃ k : Nat, k ≤ 2 ∧ i = .int .i64 k ∧ I k wr) (fun i _ => 2 - (intOf i).toNat)
 case atStart => exact ⟨0, by omega, rfl, hI⟩
 case round =>
  obtain ⟨k, hk, rfl, hIk⟩ := hrel;by_cases hlt : k < 2
  ·go_wp2_with fail;refine (hc k _ hlt hIk).mono ?_;rintro e w1 ⟨E, rfl, hE0, hE1⟩;by_cases hE : E = 0
   ·subst hE;have hI1 := hE0 rfl;clear hE0 hE1;go_wp2_with fail;go_roundw
    case rel => exact ⟨k + 1, by omega, by go_num, hI1⟩
    case measure => simp [intOf]; omega
   ·have d0 : (E != 0) = true := by simp [hE]
    have hF := hE1 hE;clear hE0 hE1;go_wp2_with fail;go_ret;exact ⟨E, rfl, fun h => absurd h hE, fun _ => hF⟩
  ·have hk2 : k = 2 := by omega
   subst hk2;go_wp2_with fail;go_ret;exact ⟨0, rfl, fun _ => hIk, fun h => absurd rfl h⟩
end Go.Proofs.Ytpdnapbchcdhlaa
