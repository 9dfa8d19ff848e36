/-
  sclaw6.alive answers true.
  Condition: the program's model keeps its contracts (premises).
-/
import Derived.Test.YtgaecpdokgklpabMdlC
import Derived.Lib.SlBytesConst
namespace Go.Proofs.Ytgaecpdokgklpab
set_option maxRecDepth 100000
open Go.RowKit
open Go.Proofs.Ytgaecpdokgklpab.Plain Go.Proofs.Ytgaecpdokgklpab.Reg

def dA : Dd := ⟨1, 7, 0, [97, 98]⟩
def dB : Dd := ⟨2, 7, 0, []⟩
def rA : Rec := ⟨2, 7, 1, [97, 98]⟩
def rB : Rec := ⟨3, 7, 2, []⟩
theorem do_A : doR [] dA = ⟨[rA], 1, 0⟩ := rfl
theorem do_B : doR [rA] dB = ⟨[rA, rB], 2, 0⟩ := rfl
theorem get_A : getK [rA] 7 = ⟨1, 0, [97, 98]⟩ := rfl
theorem get_B : getK [rA, rB] 7 = ⟨2, 10, []⟩ := rfl
theorem next_B : nextV [rA, rB] = 3 := rfl
theorem right_A : rightR [rA] = true := by decide
theorem right_B : rightR [rA, rB] = true := by decide
theorem wrong_A : wrongD dA = 0 := by decide
theorem wrong_B : wrongD dB = 0 := by decide
theorem same_BB : sameRs [rA, rB] [rA, rB] = true := by decide

set_option maxHeartbeats 8000000 in
theorem malive_of (MW : MWrongC) (MN : MNextC) (MM : MMadeC) (MD : MDoC) (MG : MGetC) (MS : MSameC) (w : World) :
  Calls Try.prog 31 #[] w fun r w' => r = .returned (.bool true) ∧ Grow w w' := by
 have g0 := grow_alloc2 w (.cells #[.int .u8 97, .int .u8 98] 5 (2, 3)) (.cells #[.int .i64 1, .int .i64 7, .int .i64 0, .slice (some ⟨w.heap.size, 0, none⟩) 2 2] 47)
 have hb0 : (w.alloc (.cells #[.int .u8 97, .int .u8 98] 5 (2, 3))).heap[w.heap.size]? = some (.cells #[.int .u8 97, .int .u8 98] 5 (2, 3)) := by
  show (w.heap.push _)[w.heap.size]? = _
  simp
 have kc := fun (w : World) (C : Array Value) (n c : Nat) => Lib.run_convert_bytes_const (P := Try.prog) w 31 5 C n c Try.underlying31 Try.underlying5
 have hD0 := heap_new (w.alloc (.cells #[.int .u8 97, .int .u8 98] 5 (2, 3))) #[.int .i64 1, .int .i64 7, .int .i64 0, .slice (some ⟨w.heap.size, 0, none⟩) 2 2] 47
 have hb1 := ((grow_alloc (w.alloc (.cells #[.int .u8 97, .int .u8 98] 5 (2, 3))) (.cells #[.int .i64 1, .int .i64 7, .int .i64 0, .slice (some ⟨w.heap.size, 0, none⟩) 2 2] 47)).block _ (heap_lt hb0)).trans hb0
 rw [World.size_alloc] at hD0
 clear hb0
 go_enter Try.func31, Try.ntmps31
 go_wp2_with fail
 clear kc
 generalize World.alloc (World.alloc w _) _ = W at *
 have hd : BytesS (fun b => b < W.heap.size) W (.slice (some ⟨w.heap.size, 0, none⟩) 2 2) [97, 98] := by
  refine .inr ⟨w.heap.size, 0, 2, heap_lt hb1, rfl, Nat.le_refl _, fun i hi => ?_⟩
  have hi2 : i < 2 := hi
  match i, hi2 with
  | 0, _ => exact box_cell hb1 0 _ rfl
  | 1, _ => exact box_cell hb1 1 _ rfl
 refine (MD (fun b => b < W.heap.size) [] dA _ (some ⟨w.heap.size, 0, none⟩) 2 W (fun b h => h) rfl wrong_A (SliceS.nil _ _ _) hd).mono ?_
 rw [do_A]
 rintro e w1 ⟨vl, he, hl, g1⟩
 replace hl : RecsS _ w1 vl [rA] := hl
 obtain ⟨al, cl, rfl⟩ : ∃ a c, vl = .slice a 1 c := hl.form
 obtain rfl : e = .returned (.tuple #[.slice al 1 cl, .int .i64 1, .int .i64 0]) := he
 have gW := g0.trans g1
 have hD := (g1.block _ (heap_lt hD0)).trans hD0
 have hd1 := hd.grow g1
 clear g0 g1 hD0 hd hb1
 replace hl := SliceS.every hl (by decide)
 go_wp2_with fail
 refine (MD _ [rA] dB _ none 0 w1 (fun b h => h) right_A wrong_B hl (.inl ⟨none, 0, rfl, rfl, fun _ => rfl⟩)).mono ?_
 rw [do_B]
 rintro e w2 ⟨vm, he, hm, g2⟩
 replace hm : RecsS _ w2 vm [rA, rB] := hm
 obtain ⟨am, cm, rfl⟩ : ∃ a c, vm = .slice a 2 c := hm.form
 obtain rfl : e = .returned (.tuple #[.slice am 2 cm, .int .i64 2, .int .i64 0]) := he
 replace gW := gW.trans g2
 replace hD := (g2.block _ (heap_lt hD)).trans hD
 replace hd1 := hd1.grow g2
 replace hl := SliceS.every (SliceS.grow hl g2) (by decide)
 replace hm := SliceS.every hm (by decide)
 clear g2
 go_wp2_with fail
 refine (MG _ [rA] 7 _ w2 (fun b h => h) right_A hl).mono ?_
 rw [get_A]
 rintro e w3 ⟨ub, he, hub, g3⟩
 obtain ⟨ab, cb, rfl⟩ : ∃ a c, ub = .slice a 2 c := hub.form
 obtain rfl : e = .returned (.tuple #[.slice ab 2 cb, .int .i64 0]) := he
 replace gW := gW.trans g3
 replace hD := (g3.block _ (heap_lt hD)).trans hD
 replace hd1 := hd1.grow g3
 replace hl := SliceS.every (SliceS.grow hl g3) (by decide)
 replace hm := SliceS.every (SliceS.grow hm g3) (by decide)
 replace hub : Bytes w3 (.slice ab 2 cb) [97, 98] := hub.p
 clear g3
 go_wp2_with fail
 refine (MG _ [rA, rB] 7 _ w3 (fun b h => h) right_B hm).mono ?_
 rw [get_B]
 rintro e w4 ⟨uc, he, huc, g4⟩
 obtain ⟨ac, cc, rfl⟩ : ∃ a c, uc = .slice a 0 c := huc.form
 obtain rfl : e = .returned (.tuple #[.slice ac 0 cc, .int .i64 10]) := he
 replace gW := gW.trans g4
 replace hD := (g4.block _ (heap_lt hD)).trans hD
 replace hd1 := hd1.grow g4
 replace hl := SliceS.every (SliceS.grow hl g4) (by decide)
 replace hm := SliceS.every (SliceS.grow hm g4) (by decide)
 replace hub := bytes_grow hub g4
 clear g4 huc
 obtain ⟨b1, o1, a1, c1, hv1, p0, p1, p2, p3, hu⟩ := recs_at hl 0 (by decide)
 cases hv1
 go_wp2_with fail
 obtain ⟨W4, rfl⟩ : ∃ W4 : World, W4 = w4 := ⟨_, rfl⟩
 refine wp_region_told [ex (.int .i64 0), ex (.bool true), ex (.bool true), ex (.int .i64 0), ex (.bool true), ex (.bool true), ex (.bool true), ex (.int .i64 1), ex (.bool true), ex (.bool true), ex (.bool true), ex (.int .i64 2), ex (.bool true), ex (.bool true), ex (.bool true), ex (.int .i64 0), ex (.bool true), ex (.bool true), ex (.bool true), ex (.slice ab 2 cb), ex (.string ⟨#[97, 98]⟩), ex (.bool true), ex (.bool true), ex (.bool true), ex (.int .i64 10), ex (.bool true), ex (.bool true), ex (.bool true), ex (.slice am 2 cm), ex (.int .i64 3), ex (.bool true), ex (.bool true), ex (.bool true), ex (.agg #[.int .i64 1, .int .i64 7, .int .i64 0, .slice (some ⟨w.heap.size, 0, none⟩) 2 2]), ex (.int .i64 0), ex (.bool true), ex (.bool true), ex (.bool true), ex (.agg #[.int .i64 1, .int .i64 7, .int .i64 0, .slice (some ⟨w.heap.size, 0, none⟩) 2 2]), ((fun v w' => ∃ a' c', v = .agg #[.int .i64 2, .int .i64 7, .int .i64 1, .slice a' 2 c'] ∧ Bytes w' (.slice a' 2 c') [97, 98])), ex (.slice (some ⟨b1, o1, none⟩) 1 cl), ex (.pointer (some ⟨b1, o1, none⟩)), ex (.agg #[.int .i64 2, .int .i64 7, .int .i64 1, .slice a1 2 c1]), ex (.bool true), ex (.bool true), ex (.bool true), ex (.slice am 2 cm), ex (.slice am 2 cm), ex (.bool true), ex (.bool true), ex (.bool true)] (by kernel_rfl) (by kernel_rfl) ⟨st_ex _, st_ex _, st_ex _, st_ex _, st_ex _, st_ex _, st_ex _, st_ex _, st_ex _, st_ex _, st_ex _, st_ex _, st_ex _, st_ex _, st_ex _, st_ex _, st_ex _, st_ex _, st_ex _, st_ex _, st_ex _, st_ex _, st_ex _, st_ex _, st_ex _, st_ex _, st_ex _, st_ex _, st_ex _, st_ex _, st_ex _, st_ex _, st_ex _, st_ex _, st_ex _, st_ex _, st_ex _, st_ex _, st_ex _, (fun v w w' hg h => by obtain ⟨a', c', h1, h2⟩ := h; exact ⟨a', c', h1, bytes_grow h2 hg⟩), st_ex _, st_ex _, st_ex _, st_ex _, st_ex _, st_ex _, st_ex _, st_ex _, st_ex _, st_ex _, st_ex _, trivial⟩ ?_ ?_
 ·refine ⟨?_, ?_, ?_, ?_, ?_, ?_, ?_, ?_, ?_, ?_, ?_, ?_, ?_, ?_, ?_, ?_, ?_, ?_, ?_, ?_, ?_, ?_, ?_, ?_, ?_, ?_, ?_, ?_, ?_, ?_, ?_, ?_, ?_, ?_, ?_, ?_, ?_, ?_, ?_, ?_, ?_, ?_, ?_, ?_, ?_, ?_, ?_, ?_, ?_, ?_, ?_, trivial⟩
  ·refine need_plain rfl (fun a w' hg hin => ?_)
   have e : a.eval (.tmp 4) = .int .i64 0 := ins_ext hin 4 (by kernel_rfl)
   exact upon_move rfl e
  ·refine need_plain rfl (fun a w' hg hin => ?_)
   have e38 : a.eval (.tmp 38) = _ := ins_on hin 0 (by kernel_rfl)
   refine upon_val ?_ rfl
   clear hin hg
   obtain ⟨ek, ef⟩ := evs a
   generalize a.eval = ev at *
   go_simp
   all_goals first | omega | (intro _; omega) | go_arith
  ·refine need_plain rfl (fun a w' hg hin => ?_)
   have e : a.eval (.tmp 39) = _ := ins_on hin 1 (by kernel_rfl)
   exact upon_move rfl e
  ·refine need_yes 2 true rfl (fun a w' hin => ins_on hin 2 (by kernel_rfl)) (fun a w' hg hin => ?_)
   have e : a.eval (.tmp 7) = .int .i64 0 := ins_ext hin 7 (by kernel_rfl)
   exact upon_move rfl e
  ·refine need_yes 2 true rfl (fun a w' hin => ins_on hin 2 (by kernel_rfl)) (fun a w' hg hin => ?_)
   have e41 : a.eval (.tmp 41) = _ := ins_on hin 3 (by kernel_rfl)
   refine upon_val ?_ rfl
   clear hin hg
   obtain ⟨ek, ef⟩ := evs a
   generalize a.eval = ev at *
   go_simp
   all_goals first | omega | (intro _; omega) | go_arith
  ·refine need_plain rfl (fun a w' hg hin => ?_)
   have ec : a.eval (.tmp 40) = _ := ins_on hin 2 (by kernel_rfl)
   have e : a.eval (.tmp 42) = _ := ins_on hin 4 (by kernel_rfl)
   exact upon_pick rfl ec e
  ·refine need_plain rfl (fun a w' hg hin => ?_)
   have e : a.eval (.tmp 43) = _ := ins_on hin 5 (by kernel_rfl)
   exact upon_move rfl e
  ·refine need_yes 6 true rfl (fun a w' hin => ins_on hin 6 (by kernel_rfl)) (fun a w' hg hin => ?_)
   have e : a.eval (.tmp 3) = .int .i64 1 := ins_ext hin 3 (by kernel_rfl)
   exact upon_move rfl e
  ·refine need_yes 6 true rfl (fun a w' hin => ins_on hin 6 (by kernel_rfl)) (fun a w' hg hin => ?_)
   have e45 : a.eval (.tmp 45) = _ := ins_on hin 7 (by kernel_rfl)
   refine upon_val ?_ rfl
   clear hin hg
   obtain ⟨ek, ef⟩ := evs a
   generalize a.eval = ev at *
   go_simp
   all_goals first | omega | (intro _; omega) | go_arith
  ·refine need_plain rfl (fun a w' hg hin => ?_)
   have ec : a.eval (.tmp 44) = _ := ins_on hin 6 (by kernel_rfl)
   have e : a.eval (.tmp 46) = _ := ins_on hin 8 (by kernel_rfl)
   exact upon_pick rfl ec e
  ·refine need_plain rfl (fun a w' hg hin => ?_)
   have e : a.eval (.tmp 47) = _ := ins_on hin 9 (by kernel_rfl)
   exact upon_move rfl e
  ·refine need_yes 10 true rfl (fun a w' hin => ins_on hin 10 (by kernel_rfl)) (fun a w' hg hin => ?_)
   have e : a.eval (.tmp 6) = .int .i64 2 := ins_ext hin 6 (by kernel_rfl)
   exact upon_move rfl e
  ·refine need_yes 10 true rfl (fun a w' hin => ins_on hin 10 (by kernel_rfl)) (fun a w' hg hin => ?_)
   have e49 : a.eval (.tmp 49) = _ := ins_on hin 11 (by kernel_rfl)
   refine upon_val ?_ rfl
   clear hin hg
   obtain ⟨ek, ef⟩ := evs a
   generalize a.eval = ev at *
   go_simp
   all_goals first | omega | (intro _; omega) | go_arith
  ·refine need_plain rfl (fun a w' hg hin => ?_)
   have ec : a.eval (.tmp 48) = _ := ins_on hin 10 (by kernel_rfl)
   have e : a.eval (.tmp 50) = _ := ins_on hin 12 (by kernel_rfl)
   exact upon_pick rfl ec e
  ·refine need_plain rfl (fun a w' hg hin => ?_)
   have e : a.eval (.tmp 51) = _ := ins_on hin 13 (by kernel_rfl)
   exact upon_move rfl e
  ·refine need_yes 14 true rfl (fun a w' hin => ins_on hin 14 (by kernel_rfl)) (fun a w' hg hin => ?_)
   have e : a.eval (.tmp 9) = .int .i64 0 := ins_ext hin 9 (by kernel_rfl)
   exact upon_move rfl e
  ·refine need_yes 14 true rfl (fun a w' hin => ins_on hin 14 (by kernel_rfl)) (fun a w' hg hin => ?_)
   have e53 : a.eval (.tmp 53) = _ := ins_on hin 15 (by kernel_rfl)
   refine upon_val ?_ rfl
   clear hin hg
   obtain ⟨ek, ef⟩ := evs a
   generalize a.eval = ev at *
   go_simp
   all_goals first | omega | (intro _; omega) | go_arith
  ·refine need_plain rfl (fun a w' hg hin => ?_)
   have ec : a.eval (.tmp 52) = _ := ins_on hin 14 (by kernel_rfl)
   have e : a.eval (.tmp 54) = _ := ins_on hin 16 (by kernel_rfl)
   exact upon_pick rfl ec e
  ·refine need_plain rfl (fun a w' hg hin => ?_)
   have e : a.eval (.tmp 55) = _ := ins_on hin 17 (by kernel_rfl)
   exact upon_move rfl e
  ·refine need_yes 18 true rfl (fun a w' hin => ins_on hin 18 (by kernel_rfl)) (fun a w' hg hin => ?_)
   have e : a.eval (.tmp 8) = .slice ab 2 cb := ins_ext hin 8 (by kernel_rfl)
   exact upon_move rfl e
  ·refine need_yes 18 true rfl (fun a w' hin => ins_on hin 18 (by kernel_rfl)) (fun a w' hg hin => ?_)
   have e57 : a.eval (.tmp 57) = _ := ins_on hin 19 (by kernel_rfl)
   have hrun := run_str6 w' _ _ (bytes_grow hub hg)
   refine upon_val ?_ rfl
   clear hin hg
   obtain ⟨ek, ef⟩ := evs a
   generalize a.eval = ev at *
   go_simp
   all_goals first | omega | (intro _; omega) | go_arith
  ·refine need_yes 18 true rfl (fun a w' hin => ins_on hin 18 (by kernel_rfl)) (fun a w' hg hin => ?_)
   have e58 : a.eval (.tmp 58) = _ := ins_on hin 20 (by kernel_rfl)
   refine upon_val ?_ rfl
   clear hin hg
   obtain ⟨ek, ef⟩ := evs a
   generalize a.eval = ev at *
   go_simp
   all_goals first | omega | (intro _; omega) | go_arith
  ·refine need_plain rfl (fun a w' hg hin => ?_)
   have ec : a.eval (.tmp 56) = _ := ins_on hin 18 (by kernel_rfl)
   have e : a.eval (.tmp 59) = _ := ins_on hin 21 (by kernel_rfl)
   exact upon_pick rfl ec e
  ·refine need_plain rfl (fun a w' hg hin => ?_)
   have e : a.eval (.tmp 60) = _ := ins_on hin 22 (by kernel_rfl)
   exact upon_move rfl e
  ·refine need_yes 23 true rfl (fun a w' hin => ins_on hin 23 (by kernel_rfl)) (fun a w' hg hin => ?_)
   have e : a.eval (.tmp 11) = .int .i64 10 := ins_ext hin 11 (by kernel_rfl)
   exact upon_move rfl e
  ·refine need_yes 23 true rfl (fun a w' hin => ins_on hin 23 (by kernel_rfl)) (fun a w' hg hin => ?_)
   have e62 : a.eval (.tmp 62) = _ := ins_on hin 24 (by kernel_rfl)
   refine upon_val ?_ rfl
   clear hin hg
   obtain ⟨ek, ef⟩ := evs a
   generalize a.eval = ev at *
   go_simp
   all_goals first | omega | (intro _; omega) | go_arith
  ·refine need_plain rfl (fun a w' hg hin => ?_)
   have ec : a.eval (.tmp 61) = _ := ins_on hin 23 (by kernel_rfl)
   have e : a.eval (.tmp 63) = _ := ins_on hin 25 (by kernel_rfl)
   exact upon_pick rfl ec e
  ·refine need_plain rfl (fun a w' hg hin => ?_)
   have e : a.eval (.tmp 64) = _ := ins_on hin 26 (by kernel_rfl)
   exact upon_move rfl e
  ·refine need_yes 27 true rfl (fun a w' hin => ins_on hin 27 (by kernel_rfl)) (fun a w' hg hin => ?_)
   have e : a.eval (.tmp 5) = .slice am 2 cm := ins_ext hin 5 (by kernel_rfl)
   exact upon_move rfl e
  ·refine need_yes 27 true rfl (fun a w' hin => ins_on hin 27 (by kernel_rfl)) (fun a w' hg hin => ?_)
   have e66 : a.eval (.tmp 66) = _ := ins_on hin 28 (by kernel_rfl)
   refine upon_call (f := 23) (args := #[.slice am 2 cm]) ?_ ((MN _ [rA, rB] _ w' right_B (SliceS.grow hm hg)).mono ?_)
   ·clear hin hg
    obtain ⟨ek, ef⟩ := evs a
    generalize a.eval = ev at *
    go_simp
    all_goals first | omega | (intro _; omega) | go_arith
   ·rw [next_B]
    rintro e w2 ⟨rfl, g2⟩
    exact ⟨_, rfl, g2, rfl⟩
  ·refine need_yes 27 true rfl (fun a w' hin => ins_on hin 27 (by kernel_rfl)) (fun a w' hg hin => ?_)
   have e67 : a.eval (.tmp 67) = _ := ins_on hin 29 (by kernel_rfl)
   refine upon_val ?_ rfl
   clear hin hg
   obtain ⟨ek, ef⟩ := evs a
   generalize a.eval = ev at *
   go_simp
   all_goals first | omega | (intro _; omega) | go_arith
  ·refine need_plain rfl (fun a w' hg hin => ?_)
   have ec : a.eval (.tmp 65) = _ := ins_on hin 27 (by kernel_rfl)
   have e : a.eval (.tmp 68) = _ := ins_on hin 30 (by kernel_rfl)
   exact upon_pick rfl ec e
  ·refine need_plain rfl (fun a w' hg hin => ?_)
   have e : a.eval (.tmp 69) = _ := ins_on hin 31 (by kernel_rfl)
   exact upon_move rfl e
  ·refine need_yes 32 true rfl (fun a w' hin => ins_on hin 32 (by kernel_rfl)) (fun a w' hg hin => ?_)
   have e1 : a.eval (.tmp 1) = .pointer (some ⟨w.heap.size + 1, 0, none⟩) := ins_ext hin 1 (by kernel_rfl)
   have hx := (hg.block _ (heap_lt hD)).trans hD
   obtain ⟨z0, z1, z2, z3⟩ := box4 hx rfl rfl rfl rfl
   refine upon_val ?_ rfl
   clear hin hg hx
   obtain ⟨ek, ef⟩ := evs a
   generalize a.eval = ev at *
   go_simp
   all_goals first | omega | (intro _; omega) | go_arith
  ·refine need_yes 32 true rfl (fun a w' hin => ins_on hin 32 (by kernel_rfl)) (fun a w' hg hin => ?_)
   have e71 : a.eval (.tmp 71) = _ := ins_on hin 33 (by kernel_rfl)
   refine upon_call (f := 18) (args := #[.agg #[.int .i64 1, .int .i64 7, .int .i64 0, .slice (some ⟨w.heap.size, 0, none⟩) 2 2]]) ?_ ((MW dA _ 2 w' (by decide) (hd1.grow hg).p).mono ?_)
   ·clear hin hg
    obtain ⟨ek, ef⟩ := evs a
    generalize a.eval = ev at *
    go_simp
    all_goals first | omega | (intro _; omega) | go_arith
   ·rw [wrong_A]
    rintro e w2 ⟨rfl, g2⟩
    exact ⟨_, rfl, g2, rfl⟩
  ·refine need_yes 32 true rfl (fun a w' hin => ins_on hin 32 (by kernel_rfl)) (fun a w' hg hin => ?_)
   have e72 : a.eval (.tmp 72) = _ := ins_on hin 34 (by kernel_rfl)
   refine upon_val ?_ rfl
   clear hin hg
   obtain ⟨ek, ef⟩ := evs a
   generalize a.eval = ev at *
   go_simp
   all_goals first | omega | (intro _; omega) | go_arith
  ·refine need_plain rfl (fun a w' hg hin => ?_)
   have ec : a.eval (.tmp 70) = _ := ins_on hin 32 (by kernel_rfl)
   have e : a.eval (.tmp 73) = _ := ins_on hin 35 (by kernel_rfl)
   exact upon_pick rfl ec e
  ·refine need_plain rfl (fun a w' hg hin => ?_)
   have e : a.eval (.tmp 74) = _ := ins_on hin 36 (by kernel_rfl)
   exact upon_move rfl e
  ·refine need_yes 37 true rfl (fun a w' hin => ins_on hin 37 (by kernel_rfl)) (fun a w' hg hin => ?_)
   have e1 : a.eval (.tmp 1) = .pointer (some ⟨w.heap.size + 1, 0, none⟩) := ins_ext hin 1 (by kernel_rfl)
   have hx := (hg.block _ (heap_lt hD)).trans hD
   obtain ⟨z0, z1, z2, z3⟩ := box4 hx rfl rfl rfl rfl
   refine upon_val ?_ rfl
   clear hin hg hx
   obtain ⟨ek, ef⟩ := evs a
   generalize a.eval = ev at *
   go_simp
   all_goals first | omega | (intro _; omega) | go_arith
  ·refine need_yes 37 true rfl (fun a w' hin => ins_on hin 37 (by kernel_rfl)) (fun a w' hg hin => ?_)
   have e76 : a.eval (.tmp 76) = _ := ins_on hin 38 (by kernel_rfl)
   refine upon_call (f := 29) (args := #[.agg #[.int .i64 1, .int .i64 7, .int .i64 0, .slice (some ⟨w.heap.size, 0, none⟩) 2 2], .int .i64 1]) ?_ ((MM (fun b => b < w'.heap.size) dA 1 _ 2 w' (fun b h => h) wrong_A (by decide) (by omega) (by omega) (bytes_s (hd1.grow hg).p)).mono ?_)
   ·clear hin hg
    obtain ⟨ek, ef⟩ := evs a
    generalize a.eval = ev at *
    go_simp
    all_goals first | omega | (intro _; omega) | go_arith
   ·rintro e w2 ⟨a', c', rfl, hb, g2⟩
    exact ⟨_, rfl, g2, a', c', rfl, hb.p⟩
  ·refine need_yes 37 true rfl (fun a w' hin => ins_on hin 37 (by kernel_rfl)) (fun a w' hg hin => ?_)
   have e : a.eval (.tmp 2) = .slice (some ⟨b1, o1, none⟩) 1 cl := ins_ext hin 2 (by kernel_rfl)
   exact upon_move rfl e
  ·refine need_yes 37 true rfl (fun a w' hin => ins_on hin 37 (by kernel_rfl)) (fun a w' hg hin => ?_)
   have e78 : a.eval (.tmp 78) = _ := ins_on hin 40 (by kernel_rfl)
   refine upon_val ?_ rfl
   clear hin hg
   obtain ⟨ek, ef⟩ := evs a
   generalize a.eval = ev at *
   go_simp
   all_goals first | omega | (intro _; omega) | go_arith
  ·refine need_yes 37 true rfl (fun a w' hin => ins_on hin 37 (by kernel_rfl)) (fun a w' hg hin => ?_)
   have e79 : a.eval (.tmp 79) = _ := ins_on hin 41 (by kernel_rfl)
   have h0 : w'.cell? ⟨b1, o1, none⟩ = some (.int .i64 2) := (Below.cell hg (cell_lt p0)).trans p0
   have h1 : w'.cell? ⟨b1, o1 + 1, none⟩ = some (.int .i64 7) := (Below.cell hg (cell_lt p1)).trans p1
   have h2 : w'.cell? ⟨b1, o1 + 2, none⟩ = some (.int .i64 1) := (Below.cell hg (cell_lt p2)).trans p2
   have h3 : w'.cell? ⟨b1, o1 + 3, none⟩ = some (.slice a1 2 c1) := (Below.cell hg (cell_lt p3)).trans p3
   refine upon_val ?_ rfl
   clear hin hg
   obtain ⟨ek, ef⟩ := evs a
   generalize a.eval = ev at *
   go_simp
   all_goals first | omega | (intro _; omega) | go_arith
  ·refine need_yes 37 true rfl (fun a w' hin => ins_on hin 37 (by kernel_rfl)) (fun a w' hg hin => ?_)
   have e77 : ((fun v w' => ∃ a' c', v = .agg #[.int .i64 2, .int .i64 7, .int .i64 1, .slice a' 2 c'] ∧ Bytes w' (.slice a' 2 c') [97, 98])) (a.eval (.tmp 77)) w' := ins_on hin 39 (by kernel_rfl)
   have e80 : a.eval (.tmp 80) = _ := ins_on hin 42 (by kernel_rfl)
   obtain ⟨a', c', h77, hb⟩ := e77
   refine upon_call (f := 13) (args := #[.agg #[.int .i64 2, .int .i64 7, .int .i64 1, .slice a' 2 c'], .agg #[.int .i64 2, .int .i64 7, .int .i64 1, .slice a1 2 c1]]) ?_ ((rsame_any _ _ _ _ _ _ [97, 98] [97, 98] _ _ w' hb (hu.grow hg).p).mono ?_)
   ·clear hin hg hb
    obtain ⟨ek, ef⟩ := evs a
    generalize a.eval = ev at *
    go_simp
    all_goals first | omega | (intro _; omega) | go_arith
   ·rintro e w2 ⟨rfl, g2⟩
    exact ⟨_, rfl, g2, rfl⟩
  ·refine need_plain rfl (fun a w' hg hin => ?_)
   have ec : a.eval (.tmp 75) = _ := ins_on hin 37 (by kernel_rfl)
   have e : a.eval (.tmp 81) = _ := ins_on hin 43 (by kernel_rfl)
   exact upon_pick rfl ec e
  ·refine need_plain rfl (fun a w' hg hin => ?_)
   have e : a.eval (.tmp 82) = _ := ins_on hin 44 (by kernel_rfl)
   exact upon_move rfl e
  ·refine need_yes 45 true rfl (fun a w' hin => ins_on hin 45 (by kernel_rfl)) (fun a w' hg hin => ?_)
   have e : a.eval (.tmp 5) = .slice am 2 cm := ins_ext hin 5 (by kernel_rfl)
   exact upon_move rfl e
  ·refine need_yes 45 true rfl (fun a w' hin => ins_on hin 45 (by kernel_rfl)) (fun a w' hg hin => ?_)
   have e : a.eval (.tmp 5) = .slice am 2 cm := ins_ext hin 5 (by kernel_rfl)
   exact upon_move rfl e
  ·refine need_yes 45 true rfl (fun a w' hin => ins_on hin 45 (by kernel_rfl)) (fun a w' hg hin => ?_)
   have e84 : a.eval (.tmp 84) = _ := ins_on hin 46 (by kernel_rfl)
   have e85 : a.eval (.tmp 85) = _ := ins_on hin 47 (by kernel_rfl)
   refine upon_call (f := 25) (args := #[.slice am 2 cm, .slice am 2 cm]) ?_ ((MS _ _ [rA, rB] [rA, rB] _ _ w' right_B right_B (SliceS.grow hm hg) (SliceS.grow hm hg)).mono ?_)
   ·clear hin hg
    obtain ⟨ek, ef⟩ := evs a
    generalize a.eval = ev at *
    go_simp
    all_goals first | omega | (intro _; omega) | go_arith
   ·rw [same_BB]
    rintro e w2 ⟨rfl, g2⟩
    exact ⟨_, rfl, g2, rfl⟩
  ·refine need_plain rfl (fun a w' hg hin => ?_)
   have ec : a.eval (.tmp 83) = _ := ins_on hin 45 (by kernel_rfl)
   have e : a.eval (.tmp 86) = _ := ins_on hin 48 (by kernel_rfl)
   exact upon_pick rfl ec e
  ·refine need_plain rfl (fun a w' hg hin => ?_)
   have e : a.eval (.tmp 87) = _ := ins_on hin 49 (by kernel_rfl)
   exact upon_assign rfl e
 ·intro vs w' hg ht
  obtain ⟨q38, q39, q40, q41, q42, q43, q44, q45, q46, q47, q48, q49, q50, q51, q52, q53, q54, q55, q56, q57, q58, q59, q60, q61, q62, q63, q64, q65, q66, q67, q68, q69, q70, q71, q72, q73, q74, q75, q76, q77, q78, q79, q80, q81, q82, q83, q84, q85, q86, q87, q0, -⟩ := ht
  have r38 : vs 0 = .int .i64 0 := q38
  have r39 : vs 1 = .bool true := q39
  have r40 : vs 2 = .bool true := q40
  have r41 : vs 3 = .int .i64 0 := q41
  have r42 : vs 4 = .bool true := q42
  have r43 : vs 5 = .bool true := q43
  have r44 : vs 6 = .bool true := q44
  have r45 : vs 7 = .int .i64 1 := q45
  have r46 : vs 8 = .bool true := q46
  have r47 : vs 9 = .bool true := q47
  have r48 : vs 10 = .bool true := q48
  have r49 : vs 11 = .int .i64 2 := q49
  have r50 : vs 12 = .bool true := q50
  have r51 : vs 13 = .bool true := q51
  have r52 : vs 14 = .bool true := q52
  have r53 : vs 15 = .int .i64 0 := q53
  have r54 : vs 16 = .bool true := q54
  have r55 : vs 17 = .bool true := q55
  have r56 : vs 18 = .bool true := q56
  have r57 : vs 19 = .slice ab 2 cb := q57
  have r58 : vs 20 = .string ⟨#[97, 98]⟩ := q58
  have r59 : vs 21 = .bool true := q59
  have r60 : vs 22 = .bool true := q60
  have r61 : vs 23 = .bool true := q61
  have r62 : vs 24 = .int .i64 10 := q62
  have r63 : vs 25 = .bool true := q63
  have r64 : vs 26 = .bool true := q64
  have r65 : vs 27 = .bool true := q65
  have r66 : vs 28 = .slice am 2 cm := q66
  have r67 : vs 29 = .int .i64 3 := q67
  have r68 : vs 30 = .bool true := q68
  have r69 : vs 31 = .bool true := q69
  have r70 : vs 32 = .bool true := q70
  have r71 : vs 33 = .agg #[.int .i64 1, .int .i64 7, .int .i64 0, .slice (some ⟨w.heap.size, 0, none⟩) 2 2] := q71
  have r72 : vs 34 = .int .i64 0 := q72
  have r73 : vs 35 = .bool true := q73
  have r74 : vs 36 = .bool true := q74
  have r75 : vs 37 = .bool true := q75
  have r76 : vs 38 = .agg #[.int .i64 1, .int .i64 7, .int .i64 0, .slice (some ⟨w.heap.size, 0, none⟩) 2 2] := q76
  have r78 : vs 40 = .slice (some ⟨b1, o1, none⟩) 1 cl := q78
  have r79 : vs 41 = .pointer (some ⟨b1, o1, none⟩) := q79
  have r80 : vs 42 = .agg #[.int .i64 2, .int .i64 7, .int .i64 1, .slice a1 2 c1] := q80
  have r81 : vs 43 = .bool true := q81
  have r82 : vs 44 = .bool true := q82
  have r83 : vs 45 = .bool true := q83
  have r84 : vs 46 = .slice am 2 cm := q84
  have r85 : vs 47 = .slice am 2 cm := q85
  have r86 : vs 48 = .bool true := q86
  have r87 : vs 49 = .bool true := q87
  have r0 : vs 50 = .bool true := q0
  clear q38 q39 q40 q41 q42 q43 q44 q45 q46 q47 q48 q49 q50 q51 q52 q53 q54 q55 q56 q57 q58 q59 q60 q61 q62 q63 q64 q65 q66 q67 q68 q69 q70 q71 q72 q73 q74 q75 q76 q78 q79 q80 q81 q82 q83 q84 q85 q86 q87 q0
  simp only [putAll, Act.put, List.setIfInBounds_toArray, List.set_cons_zero, List.set_cons_succ, r38, r39, r40, r41, r42, r43, r44, r45, r46, r47, r48, r49, r50, r51, r52, r53, r54, r55, r56, r57, r58, r59, r60, r61, r62, r63, r64, r65, r66, r67, r68, r69, r70, r71, r72, r73, r74, r75, r76, r78, r79, r80, r81, r82, r83, r84, r85, r86, r87, r0]
  clear r38 r39 r40 r41 r42 r43 r44 r45 r46 r47 r48 r49 r50 r51 r52 r53 r54 r55 r56 r57 r58 r59 r60 r61 r62 r63 r64 r65 r66 r67 r68 r69 r70 r71 r72 r73 r74 r75 r76 r78 r79 r80 r81 r82 r83 r84 r85 r86 r87 r0
  have gE := gW.trans hg
  clear hg q77 hD hd1 hl hm hub hu gW
  go_wp2_with fail
  go_ret
  exact ⟨rfl, gE⟩
end Go.Proofs.Ytgaecpdokgklpab
