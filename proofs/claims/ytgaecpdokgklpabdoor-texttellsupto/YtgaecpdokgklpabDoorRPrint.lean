/-
  What the document's Print writes of a right deed.
  Condition: strconv.Itoa keeps its contract (premise).
-/
import Derived.Test.YtgaecpdokgklpabDoorTextLaw
import Derived.Lib.ItoaLen
namespace Go.Proofs.YtgaecpdokgklpabDoor
set_option maxRecDepth 100000
open Go.RowKit
open Go.Proofs.YtgaecpdokgklpabDoor.Plain Go.Proofs.YtgaecpdokgklpabDoor.Reg

def ItoaC (V : World → Prop) : Prop := ∀ (n : Int) (w : World), V w → -9223372036854775808 ≤ n → n ≤ 9223372036854775807 →
 Calls Tryd.prog 20 #[.int .i64 n] w fun r w' => r = .returned (.string ⟨(Lib.itoa n).toArray⟩) ∧ Grow w w'
theorem bytes_app (a b : List UInt8) : (ByteArray.mk a.toArray) ++ (ByteArray.mk b.toArray) = ByteArray.mk (a ++ b).toArray := by
 apply ByteArray.ext
 simp
theorem exec_addstr (w : World) (ev : Operand → Value) (o : Oper) (x y : Operand) (ho : o.op = Op.binOp .add 9 x y 9) (a b : List UInt8) (hx : ev x = .string ⟨a.toArray⟩) (hy : ev y = .string ⟨b.toArray⟩) (hl : a.length + b.length ≤ 9223372036854775807) :
  (execOp ev o).run Tryd.prog w = .ok (.value (.string ⟨(a ++ b).toArray⟩)) w := by
 unfold execOp
 rw [ho]
 go_simp
 rw [if_neg (by omega), bytes_app]
/-- The four words. -/
def Words4 (v : Value) (w : World) : Prop := ∃ g, v = .slice (some ⟨g, 0, none⟩) 4 4 ∧ w.heap[g]? = some (.cells #[.string ⟨#[]⟩, .string ⟨#[112, 117, 116]⟩, .string ⟨#[100, 101, 108, 101, 116, 101]⟩, .string ⟨#[112, 117, 114, 103, 101]⟩] 9 (0, 0))
theorem st_words4 : Stable Words4 := by
 rintro v w w' hg ⟨g, h1, h2⟩; exact ⟨g, h1, (hg.block _ (heap_lt h2)).trans h2⟩
def Word4 (k : Nat) (v : Value) (w : World) : Prop := ∃ g, v = .pointer (some ⟨g, k, none⟩) ∧ w.heap[g]? = some (.cells #[.string ⟨#[]⟩, .string ⟨#[112, 117, 116]⟩, .string ⟨#[100, 101, 108, 101, 116, 101]⟩, .string ⟨#[112, 117, 114, 103, 101]⟩] 9 (0, 0))
theorem st_word4 (k : Nat) : Stable (Word4 k) := by
 rintro v w w' hg ⟨g, h1, h2⟩; exact ⟨g, h1, (hg.block _ (heap_lt h2)).trans h2⟩

theorem upon_step6 {P : Program} {w w' : World} {R : Value → World → Prop} {o : Oper} {ev : Operand → Value} {v : Value} (h : (execOp ev o).run P w = .ok (.value v) w') (hg : Grow w w') (hv : R v w') : upon P w R ((execOp ev o).run P w) := by
 rw [h]; exact ⟨hg, hv⟩
set_option maxHeartbeats 4000000 in
theorem rprint_delete (V : World → Prop) (hV : ∀ w w', V w → Grow w w' → V w') (IT : ItoaC V) (d : Dd) (ad : Option Addr) (cd : Nat) (w : World) (hw : V w) (hk : d.kind = 2) (h1 : 1 ≤ d.key) (h2 : d.key ≤ 255) :
  Calls Tryd.prog 11 #[.agg #[.int .i64 d.kind, .int .i64 d.key, .int .i64 d.num, .slice ad d.data.length cd]] w fun r w' => r = .returned (.string ⟨(wDelete ++ 32 :: Lib.itoa d.key).toArray⟩) ∧ Grow w w' := by
 have gW := grow_alloc w (.cells #[.int .i64 d.kind, .int .i64 d.key, .int .i64 d.num, .slice ad d.data.length cd] 24)
 have hD := heap_new w #[.int .i64 d.kind, .int .i64 d.key, .int .i64 d.num, .slice ad d.data.length cd] 24
 have hVW := hV _ _ hw gW
 rw [hk] at gW hD hVW ⊢
 have HKK : Hid _ := hk
 clear hk
 go_enter Tryd.func11, Tryd.ntmps11
 go_wp2_with fail
 generalize World.alloc w _ = W at *
 refine wp_region_told [(Words4), ex (.pointer (some ⟨w.heap.size, 0, none⟩)), ex (.int .i64 2), (Word4 2), ex (.string ⟨#[100, 101, 108, 101, 116, 101]⟩), ex (.string ⟨#[100, 101, 108, 101, 116, 101, 32]⟩), ex (.pointer (some ⟨w.heap.size, 1, none⟩)), ex (.int .i64 d.key), ex (.string ⟨(Lib.itoa d.key).toArray⟩), ex (.string ⟨(wDelete ++ 32 :: Lib.itoa d.key).toArray⟩), ex (.string ⟨(wDelete ++ 32 :: Lib.itoa d.key).toArray⟩)] (by kernel_rfl) (by kernel_rfl) ⟨st_words4, st_ex _, st_ex _, st_word4 2, st_ex _, st_ex _, st_ex _, st_ex _, st_ex _, st_ex _, st_ex _, trivial⟩ ?_ ?_
 ·refine ⟨?_, ?_, ?_, ?_, ?_, ?_, ?_, ?_, ?_, ?_, ?_, trivial⟩
  ·refine need_plain rfl (fun a w' hg hin => ?_)
   refine upon_step6 (v := .slice (some ⟨w'.heap.size, 0, none⟩) 4 4) (w' := w'.alloc (.cells #[.string ⟨#[]⟩, .string ⟨#[112, 117, 116]⟩, .string ⟨#[100, 101, 108, 101, 116, 101]⟩, .string ⟨#[112, 117, 114, 103, 101]⟩] 9)) ?_ (grow_alloc _ _) ⟨_, rfl, heap_new _ _ _⟩
   clear hin hg
   obtain ⟨ek, ef⟩ := evs a
   generalize a.eval = ev at *
   go_simp
   all_goals first | omega | (intro _; omega) | go_arith
  ·refine need_plain rfl (fun a w' hg hin => ?_)
   have e1 : a.eval (.tmp 1) = .pointer (some ⟨w.heap.size, 0, none⟩) := ins_ext hin 1 (by kernel_rfl)
   refine upon_val ?_ rfl
   clear hin hg
   obtain ⟨ek, ef⟩ := evs a
   generalize a.eval = ev at *
   go_simp
   all_goals first | omega | (intro _; omega) | go_arith
  ·refine need_plain rfl (fun a w' hg hin => ?_)
   have e7 : a.eval (.tmp 7) = _ := ins_on hin 1 (by kernel_rfl)
   have z0 := box_cell ((hg.block _ (heap_lt hD)).trans hD) 0 _ rfl
   refine upon_val ?_ rfl
   clear hin hg
   obtain ⟨ek, ef⟩ := evs a
   generalize a.eval = ev at *
   go_simp
   all_goals first | omega | (intro _; omega) | go_arith
  ·refine need_plain rfl (fun a w' hg hin => ?_)
   have e6 : (Words4) (a.eval (.tmp 6)) w' := ins_on hin 0 (by kernel_rfl)
   have e8 : a.eval (.tmp 8) = _ := ins_on hin 2 (by kernel_rfl)
   obtain ⟨g, h6, hh⟩ := e6
   refine upon_val (v := .pointer (some ⟨g, 2, none⟩)) ?_ ⟨g, rfl, hh⟩
   clear hin hg hh
   obtain ⟨ek, ef⟩ := evs a
   generalize a.eval = ev at *
   go_simp
   all_goals first | omega | (intro _; omega) | go_arith
  ·refine need_plain rfl (fun a w' hg hin => ?_)
   have e9 : (Word4 2) (a.eval (.tmp 9)) w' := ins_on hin 3 (by kernel_rfl)
   obtain ⟨g, h9, hh⟩ := e9
   have z2 := box_cell hh 2 _ rfl
   refine upon_val ?_ rfl
   clear hin hg hh
   obtain ⟨ek, ef⟩ := evs a
   generalize a.eval = ev at *
   go_simp
   all_goals first | omega | (intro _; omega) | go_arith
  ·refine need_plain rfl (fun a w' hg hin => ?_)
   have e10 : a.eval (.tmp 10) = _ := ins_on hin 4 (by kernel_rfl)
   exact upon_val (exec_addstr w' a.eval _ _ _ rfl [100, 101, 108, 101, 116, 101] [32] e10 rfl (by decide)) rfl
  ·refine need_plain rfl (fun a w' hg hin => ?_)
   have e1 : a.eval (.tmp 1) = .pointer (some ⟨w.heap.size, 0, none⟩) := ins_ext hin 1 (by kernel_rfl)
   refine upon_val ?_ rfl
   clear hin hg
   obtain ⟨ek, ef⟩ := evs a
   generalize a.eval = ev at *
   go_simp
   all_goals first | omega | (intro _; omega) | go_arith
  ·refine need_plain rfl (fun a w' hg hin => ?_)
   have e12 : a.eval (.tmp 12) = _ := ins_on hin 6 (by kernel_rfl)
   have z1 := box_cell ((hg.block _ (heap_lt hD)).trans hD) 1 _ rfl
   refine upon_val ?_ rfl
   clear hin hg
   obtain ⟨ek, ef⟩ := evs a
   generalize a.eval = ev at *
   go_simp
   all_goals first | omega | (intro _; omega) | go_arith
  ·refine need_plain rfl (fun a w' hg hin => ?_)
   have e13 : a.eval (.tmp 13) = _ := ins_on hin 7 (by kernel_rfl)
   refine upon_call (f := 20) (args := #[.int .i64 d.key]) ?_ ((IT d.key w' (hV _ _ hVW hg) (by omega) (by omega)).mono ?_)
   ·clear hin hg
    obtain ⟨ek, ef⟩ := evs a
    generalize a.eval = ev at *
    go_simp
    all_goals first | omega | (intro _; omega) | go_arith
   ·rintro r w2 ⟨rfl, g2⟩
    exact ⟨_, rfl, g2, rfl⟩
  ·refine need_plain rfl (fun a w' hg hin => ?_)
   have e11 : a.eval (.tmp 11) = _ := ins_on hin 5 (by kernel_rfl)
   have e14 : a.eval (.tmp 14) = _ := ins_on hin 8 (by kernel_rfl)
   exact upon_val (exec_addstr w' a.eval _ _ _ rfl [100, 101, 108, 101, 116, 101, 32] (Lib.itoa d.key) e11 e14 (by have := Lib.itoa_length_le d.key (by omega) (by omega); simp; omega)) rfl
  ·refine need_plain rfl (fun a w' hg hin => ?_)
   have e : a.eval (.tmp 15) = _ := ins_on hin 9 (by kernel_rfl)
   exact upon_assign rfl e
 ·intro vs w' hg ht
  obtain ⟨q6, q7, q8, q9, q10, q11, q12, q13, q14, q15, q3, -⟩ := ht
  have r7 : vs 1 = .pointer (some ⟨w.heap.size, 0, none⟩) := q7
  have r8 : vs 2 = .int .i64 2 := q8
  have r10 : vs 4 = .string ⟨#[100, 101, 108, 101, 116, 101]⟩ := q10
  have r11 : vs 5 = .string ⟨#[100, 101, 108, 101, 116, 101, 32]⟩ := q11
  have r12 : vs 6 = .pointer (some ⟨w.heap.size, 1, none⟩) := q12
  have r13 : vs 7 = .int .i64 d.key := q13
  have r14 : vs 8 = .string ⟨(Lib.itoa d.key).toArray⟩ := q14
  have r15 : vs 9 = .string ⟨(wDelete ++ 32 :: Lib.itoa d.key).toArray⟩ := q15
  have r3 : vs 10 = .string ⟨(wDelete ++ 32 :: Lib.itoa d.key).toArray⟩ := q3
  clear q7 q8 q10 q11 q12 q13 q14 q15 q3
  simp only [putAll, Act.put, List.setIfInBounds_toArray, List.set_cons_zero, List.set_cons_succ, r7, r8, r10, r11, r12, r13, r14, r15, r3]
  clear r7 r8 r10 r11 r12 r13 r14 r15 r3
  have gE := gW.trans hg
  have z0 := box_cell ((hg.block _ (heap_lt hD)).trans hD) 0 _ rfl
  clear hg hD q6 q9 gW hVW
  go_wp2_with fail
  go_ret
  exact ⟨rfl, gE⟩
set_option maxHeartbeats 4000000 in
theorem rprint_purge (V : World → Prop) (hV : ∀ w w', V w → Grow w w' → V w') (IT : ItoaC V) (d : Dd) (ad : Option Addr) (cd : Nat) (w : World) (hw : V w) (hk : d.kind = 3) (h1 : 1 ≤ d.key) (h2 : d.key ≤ 255) (h3 : 0 ≤ d.num) (h4 : d.num ≤ 60000) :
  Calls Tryd.prog 11 #[.agg #[.int .i64 d.kind, .int .i64 d.key, .int .i64 d.num, .slice ad d.data.length cd]] w fun r w' => r = .returned (.string ⟨(wPurge ++ 32 :: (Lib.itoa d.key ++ 32 :: Lib.itoa d.num)).toArray⟩) ∧ Grow w w' := by
 obtain ⟨R, hR⟩ : ∃ R, R = wPurge ++ 32 :: (Lib.itoa d.key ++ 32 :: Lib.itoa d.num) := ⟨_, rfl⟩
 rw [← hR]
 have HE : Hid ((wPurge ++ 32 :: Lib.itoa d.key) ++ 32 :: Lib.itoa d.num = R) := by show _ = _; rw [hR]; simp
 clear hR
 have gW := grow_alloc w (.cells #[.int .i64 d.kind, .int .i64 d.key, .int .i64 d.num, .slice ad d.data.length cd] 24)
 have hD := heap_new w #[.int .i64 d.kind, .int .i64 d.key, .int .i64 d.num, .slice ad d.data.length cd] 24
 have hVW := hV _ _ hw gW
 rw [hk] at gW hD hVW ⊢
 have HKK : Hid _ := hk
 clear hk
 go_enter Tryd.func11, Tryd.ntmps11
 go_wp2_with fail
 generalize World.alloc w _ = W at *
 refine wp_region_told [(Words4), ex (.pointer (some ⟨w.heap.size, 0, none⟩)), ex (.int .i64 3), (Word4 3), ex (.string ⟨#[112, 117, 114, 103, 101]⟩), ex (.string ⟨#[112, 117, 114, 103, 101, 32]⟩), ex (.pointer (some ⟨w.heap.size, 1, none⟩)), ex (.int .i64 d.key), ex (.string ⟨(Lib.itoa d.key).toArray⟩), ex (.string ⟨(wPurge ++ 32 :: Lib.itoa d.key).toArray⟩), ex (.string ⟨(wPurge ++ 32 :: Lib.itoa d.key).toArray⟩)] (by kernel_rfl) (by kernel_rfl) ⟨st_words4, st_ex _, st_ex _, st_word4 3, st_ex _, st_ex _, st_ex _, st_ex _, st_ex _, st_ex _, st_ex _, trivial⟩ ?_ ?_
 ·refine ⟨?_, ?_, ?_, ?_, ?_, ?_, ?_, ?_, ?_, ?_, ?_, trivial⟩
  ·refine need_plain rfl (fun a w' hg hin => ?_)
   refine upon_step6 (v := .slice (some ⟨w'.heap.size, 0, none⟩) 4 4) (w' := w'.alloc (.cells #[.string ⟨#[]⟩, .string ⟨#[112, 117, 116]⟩, .string ⟨#[100, 101, 108, 101, 116, 101]⟩, .string ⟨#[112, 117, 114, 103, 101]⟩] 9)) ?_ (grow_alloc _ _) ⟨_, rfl, heap_new _ _ _⟩
   clear hin hg
   obtain ⟨ek, ef⟩ := evs a
   generalize a.eval = ev at *
   go_simp
   all_goals first | omega | (intro _; omega) | go_arith
  ·refine need_plain rfl (fun a w' hg hin => ?_)
   have e1 : a.eval (.tmp 1) = .pointer (some ⟨w.heap.size, 0, none⟩) := ins_ext hin 1 (by kernel_rfl)
   refine upon_val ?_ rfl
   clear hin hg
   obtain ⟨ek, ef⟩ := evs a
   generalize a.eval = ev at *
   go_simp
   all_goals first | omega | (intro _; omega) | go_arith
  ·refine need_plain rfl (fun a w' hg hin => ?_)
   have e7 : a.eval (.tmp 7) = _ := ins_on hin 1 (by kernel_rfl)
   have z0 := box_cell ((hg.block _ (heap_lt hD)).trans hD) 0 _ rfl
   refine upon_val ?_ rfl
   clear hin hg
   obtain ⟨ek, ef⟩ := evs a
   generalize a.eval = ev at *
   go_simp
   all_goals first | omega | (intro _; omega) | go_arith
  ·refine need_plain rfl (fun a w' hg hin => ?_)
   have e6 : (Words4) (a.eval (.tmp 6)) w' := ins_on hin 0 (by kernel_rfl)
   have e8 : a.eval (.tmp 8) = _ := ins_on hin 2 (by kernel_rfl)
   obtain ⟨g, h6, hh⟩ := e6
   refine upon_val (v := .pointer (some ⟨g, 3, none⟩)) ?_ ⟨g, rfl, hh⟩
   clear hin hg hh
   obtain ⟨ek, ef⟩ := evs a
   generalize a.eval = ev at *
   go_simp
   all_goals first | omega | (intro _; omega) | go_arith
  ·refine need_plain rfl (fun a w' hg hin => ?_)
   have e9 : (Word4 3) (a.eval (.tmp 9)) w' := ins_on hin 3 (by kernel_rfl)
   obtain ⟨g, h9, hh⟩ := e9
   have z2 := box_cell hh 3 _ rfl
   refine upon_val ?_ rfl
   clear hin hg hh
   obtain ⟨ek, ef⟩ := evs a
   generalize a.eval = ev at *
   go_simp
   all_goals first | omega | (intro _; omega) | go_arith
  ·refine need_plain rfl (fun a w' hg hin => ?_)
   have e10 : a.eval (.tmp 10) = _ := ins_on hin 4 (by kernel_rfl)
   exact upon_val (exec_addstr w' a.eval _ _ _ rfl [112, 117, 114, 103, 101] [32] e10 rfl (by decide)) rfl
  ·refine need_plain rfl (fun a w' hg hin => ?_)
   have e1 : a.eval (.tmp 1) = .pointer (some ⟨w.heap.size, 0, none⟩) := ins_ext hin 1 (by kernel_rfl)
   refine upon_val ?_ rfl
   clear hin hg
   obtain ⟨ek, ef⟩ := evs a
   generalize a.eval = ev at *
   go_simp
   all_goals first | omega | (intro _; omega) | go_arith
  ·refine need_plain rfl (fun a w' hg hin => ?_)
   have e12 : a.eval (.tmp 12) = _ := ins_on hin 6 (by kernel_rfl)
   have z1 := box_cell ((hg.block _ (heap_lt hD)).trans hD) 1 _ rfl
   refine upon_val ?_ rfl
   clear hin hg
   obtain ⟨ek, ef⟩ := evs a
   generalize a.eval = ev at *
   go_simp
   all_goals first | omega | (intro _; omega) | go_arith
  ·refine need_plain rfl (fun a w' hg hin => ?_)
   have e13 : a.eval (.tmp 13) = _ := ins_on hin 7 (by kernel_rfl)
   refine upon_call (f := 20) (args := #[.int .i64 d.key]) ?_ ((IT d.key w' (hV _ _ hVW hg) (by omega) (by omega)).mono ?_)
   ·clear hin hg
    obtain ⟨ek, ef⟩ := evs a
    generalize a.eval = ev at *
    go_simp
    all_goals first | omega | (intro _; omega) | go_arith
   ·rintro r w2 ⟨rfl, g2⟩
    exact ⟨_, rfl, g2, rfl⟩
  ·refine need_plain rfl (fun a w' hg hin => ?_)
   have e11 : a.eval (.tmp 11) = _ := ins_on hin 5 (by kernel_rfl)
   have e14 : a.eval (.tmp 14) = _ := ins_on hin 8 (by kernel_rfl)
   exact upon_val (exec_addstr w' a.eval _ _ _ rfl [112, 117, 114, 103, 101, 32] (Lib.itoa d.key) e11 e14 (by have := Lib.itoa_length_le d.key (by omega) (by omega); simp; omega)) rfl
  ·refine need_plain rfl (fun a w' hg hin => ?_)
   have e : a.eval (.tmp 15) = _ := ins_on hin 9 (by kernel_rfl)
   exact upon_assign rfl e
 ·intro vs w' hg ht
  obtain ⟨q6, q7, q8, q9, q10, q11, q12, q13, q14, q15, q3, -⟩ := ht
  have r7 : vs 1 = .pointer (some ⟨w.heap.size, 0, none⟩) := q7
  have r8 : vs 2 = .int .i64 3 := q8
  have r10 : vs 4 = .string ⟨#[112, 117, 114, 103, 101]⟩ := q10
  have r11 : vs 5 = .string ⟨#[112, 117, 114, 103, 101, 32]⟩ := q11
  have r12 : vs 6 = .pointer (some ⟨w.heap.size, 1, none⟩) := q12
  have r13 : vs 7 = .int .i64 d.key := q13
  have r14 : vs 8 = .string ⟨(Lib.itoa d.key).toArray⟩ := q14
  have r15 : vs 9 = .string ⟨(wPurge ++ 32 :: Lib.itoa d.key).toArray⟩ := q15
  have r3 : vs 10 = .string ⟨(wPurge ++ 32 :: Lib.itoa d.key).toArray⟩ := q3
  clear q7 q8 q10 q11 q12 q13 q14 q15 q3
  simp only [putAll, Act.put, List.setIfInBounds_toArray, List.set_cons_zero, List.set_cons_succ, r7, r8, r10, r11, r12, r13, r14, r15, r3]
  clear r7 r8 r10 r11 r12 r13 r14 r15 r3
  have gE := gW.trans hg
  have hVE := hV _ _ hVW hg
  have hDE := (hg.block _ (heap_lt hD)).trans hD
  have z0 := box_cell hDE 0 _ rfl
  have z2 := box_cell hDE 2 _ rfl
  have hl1 := Lib.itoa_length_le d.key (by omega) (by omega)
  have hl2 := Lib.itoa_length_le d.num (by omega) (by omega)
  have hpl : (wPurge ++ 32 :: Lib.itoa d.key).length ≤ 100 := by simp [wPurge]; omega
  clear hg hD q6 q9 gW hVW
  generalize wPurge ++ 32 :: Lib.itoa d.key = p at *
  have ba := bytes_app
  go_wp2_with fail
  refine (IT d.num _ hVE (by omega) (by omega)).mono ?_
  rintro r w2 ⟨rfl, g2⟩
  have gE2 := gE.trans g2
  clear gE g2 hVE hDE z0 z2
  generalize Lib.itoa d.num = q at *
  have hql : (p ++ [32]).length ≤ 101 := by simp; omega
  go_wp2_with fail
  go_ret
  exact ⟨by rw [← HE.out]; rfl, gE2⟩

/-! ### The bytes -/

theorem enc_ascii {n : Nat} (h : n < 128) : Utf8.encode (n : Int) = ByteArray.mk #[UInt8.ofNat n] := by
 unfold Utf8.encode
 have hv : Utf8.valid (n : Int) = true := by unfold Utf8.valid; simp; omega
 rw [hv]
 simp [h]
def hexS : List UInt8 := [48, 49, 50, 51, 52, 53, 54, 55, 56, 57, 97, 98, 99, 100, 101, 102]
theorem hexS_at {k : Nat} (h : k < 16) : hexS[k]? = some (hexd k) := by
 have : k = 0 ∨ k = 1 ∨ k = 2 ∨ k = 3 ∨ k = 4 ∨ k = 5 ∨ k = 6 ∨ k = 7 ∨ k = 8 ∨ k = 9 ∨ k = 10 ∨ k = 11 ∨ k = 12 ∨ k = 13 ∨ k = 14 ∨ k = 15 := by omega
 rcases this with rfl | rfl | rfl | rfl | rfl | rfl | rfl | rfl | rfl | rfl | rfl | rfl | rfl | rfl | rfl | rfl <;> rfl
theorem exec_hex (w : World) (ev : Operand → Value) (o : Oper) (y : Operand) (ho : o.op = Op.index 9 (.const (.string ⟨#[48, 49, 50, 51, 52, 53, 54, 55, 56, 57, 97, 98, 99, 100, 101, 102]⟩)) y) (kd : IntKind) (k : Nat) (hk : k < 16) (ek : ∀ x, ev (.const x) = x) (hy : ev y = .int kd (k : Int)) :
  (execOp ev o).run Tryd.prog w = .ok (.value (.int .u8 ((hexd k).toNat : Int))) w := by
 have : k = 0 ∨ k = 1 ∨ k = 2 ∨ k = 3 ∨ k = 4 ∨ k = 5 ∨ k = 6 ∨ k = 7 ∨ k = 8 ∨ k = 9 ∨ k = 10 ∨ k = 11 ∨ k = 12 ∨ k = 13 ∨ k = 14 ∨ k = 15 := by omega
 unfold execOp
 rw [ho]
 rcases this with rfl | rfl | rfl | rfl | rfl | rfl | rfl | rfl | rfl | rfl | rfl | rfl | rfl | rfl | rfl | rfl <;> (go_simp; rfl)

theorem bytes_at {w : World} {ao : Option Addr} {n cap : Nat} {l : List UInt8} (h : Bytes w (.slice ao n cap) l) (i : Nat) (hi : i < l.length) : ∃ b off, ao = some ⟨b, off, none⟩ ∧ w.cell? ⟨b, off + i, none⟩ = some (.int .u8 (l[i].toNat : Int)) := by
 rcases h with ⟨_, _, _, rfl, _⟩ | ⟨b, off, cp, h2, h3, h4⟩
 ·simp at hi
 ·cases h2
  exact ⟨b, off, rfl, h4 i hi⟩
theorem hexB_len : ∀ l : List UInt8, (hexB l).length = 2 * l.length
 | [] => rfl
 | c :: l => by
  unfold hexB
  simp [hexB_len l]; omega
theorem hexB_append : ∀ a b : List UInt8, hexB (a ++ b) = hexB a ++ hexB b
 | [], b => rfl
 | c :: a, b => by
  show hexd _ :: hexd _ :: hexB (a ++ b) = _
  rw [hexB_append a b]; rfl
theorem hexB_next (l : List UInt8) (k : Nat) (h : k < l.length) : hexB (l.take (k + 1)) = hexB (l.take k) ++ [hexd (l[k].toNat / 16), hexd (l[k].toNat % 16)] := by
 rw [List.take_succ_eq_append_getElem h, hexB_append]; rfl
set_option maxHeartbeats 4000000 in
theorem rprint_put (V : World → Prop) (hV : ∀ w w', V w → Grow w w' → V w') (IT : ItoaC V) (d : Dd) (ad : Option Addr) (cd : Nat) (w : World) (hw : V w) (hk : d.kind = 1) (h1 : 1 ≤ d.key) (h2 : d.key ≤ 255) (h8 : d.data.length ≤ 8) (hb : Bytes w (.slice ad d.data.length cd) d.data) :
  Calls Tryd.prog 11 #[.agg #[.int .i64 d.kind, .int .i64 d.key, .int .i64 d.num, .slice ad d.data.length cd]] w fun r w' => r = .returned (.string ⟨(wPut ++ 32 :: (Lib.itoa d.key ++ 32 :: dataW d.data)).toArray⟩) ∧ Grow w w' := by
 obtain ⟨R, hR⟩ : ∃ R, R = wPut ++ 32 :: (Lib.itoa d.key ++ 32 :: dataW d.data) := ⟨_, rfl⟩
 rw [← hR]
 have HE : Hid ((wPut ++ 32 :: Lib.itoa d.key) ++ 32 :: dataW d.data = R) := by show _ = _; rw [hR]; simp
 clear hR
 have gW := grow_alloc w (.cells #[.int .i64 d.kind, .int .i64 d.key, .int .i64 d.num, .slice ad d.data.length cd] 24)
 have hD := heap_new w #[.int .i64 d.kind, .int .i64 d.key, .int .i64 d.num, .slice ad d.data.length cd] 24
 have hVW := hV _ _ hw gW
 rw [hk] at gW hD hVW ⊢
 have HKK : Hid _ := hk
 clear hk
 go_enter Tryd.func11, Tryd.ntmps11
 go_wp2_with fail
 generalize World.alloc w _ = W at *
 refine wp_region_told [(Words4), ex (.pointer (some ⟨w.heap.size, 0, none⟩)), ex (.int .i64 1), (Word4 1), ex (.string ⟨#[112, 117, 116]⟩), ex (.string ⟨#[112, 117, 116, 32]⟩), ex (.pointer (some ⟨w.heap.size, 1, none⟩)), ex (.int .i64 d.key), ex (.string ⟨(Lib.itoa d.key).toArray⟩), ex (.string ⟨(wPut ++ 32 :: Lib.itoa d.key).toArray⟩), ex (.string ⟨(wPut ++ 32 :: Lib.itoa d.key).toArray⟩)] (by kernel_rfl) (by kernel_rfl) ⟨st_words4, st_ex _, st_ex _, st_word4 1, st_ex _, st_ex _, st_ex _, st_ex _, st_ex _, st_ex _, st_ex _, trivial⟩ ?_ ?_
 ·refine ⟨?_, ?_, ?_, ?_, ?_, ?_, ?_, ?_, ?_, ?_, ?_, trivial⟩
  ·refine need_plain rfl (fun a w' hg hin => ?_)
   refine upon_step6 (v := .slice (some ⟨w'.heap.size, 0, none⟩) 4 4) (w' := w'.alloc (.cells #[.string ⟨#[]⟩, .string ⟨#[112, 117, 116]⟩, .string ⟨#[100, 101, 108, 101, 116, 101]⟩, .string ⟨#[112, 117, 114, 103, 101]⟩] 9)) ?_ (grow_alloc _ _) ⟨_, rfl, heap_new _ _ _⟩
   clear hin hg
   obtain ⟨ek, ef⟩ := evs a
   generalize a.eval = ev at *
   go_simp
   all_goals first | omega | (intro _; omega) | go_arith
  ·refine need_plain rfl (fun a w' hg hin => ?_)
   have e1 : a.eval (.tmp 1) = .pointer (some ⟨w.heap.size, 0, none⟩) := ins_ext hin 1 (by kernel_rfl)
   refine upon_val ?_ rfl
   clear hin hg
   obtain ⟨ek, ef⟩ := evs a
   generalize a.eval = ev at *
   go_simp
   all_goals first | omega | (intro _; omega) | go_arith
  ·refine need_plain rfl (fun a w' hg hin => ?_)
   have e7 : a.eval (.tmp 7) = _ := ins_on hin 1 (by kernel_rfl)
   have z0 := box_cell ((hg.block _ (heap_lt hD)).trans hD) 0 _ rfl
   refine upon_val ?_ rfl
   clear hin hg
   obtain ⟨ek, ef⟩ := evs a
   generalize a.eval = ev at *
   go_simp
   all_goals first | omega | (intro _; omega) | go_arith
  ·refine need_plain rfl (fun a w' hg hin => ?_)
   have e6 : (Words4) (a.eval (.tmp 6)) w' := ins_on hin 0 (by kernel_rfl)
   have e8 : a.eval (.tmp 8) = _ := ins_on hin 2 (by kernel_rfl)
   obtain ⟨g, h6, hh⟩ := e6
   refine upon_val (v := .pointer (some ⟨g, 1, none⟩)) ?_ ⟨g, rfl, hh⟩
   clear hin hg hh
   obtain ⟨ek, ef⟩ := evs a
   generalize a.eval = ev at *
   go_simp
   all_goals first | omega | (intro _; omega) | go_arith
  ·refine need_plain rfl (fun a w' hg hin => ?_)
   have e9 : (Word4 1) (a.eval (.tmp 9)) w' := ins_on hin 3 (by kernel_rfl)
   obtain ⟨g, h9, hh⟩ := e9
   have z2 := box_cell hh 1 _ rfl
   refine upon_val ?_ rfl
   clear hin hg hh
   obtain ⟨ek, ef⟩ := evs a
   generalize a.eval = ev at *
   go_simp
   all_goals first | omega | (intro _; omega) | go_arith
  ·refine need_plain rfl (fun a w' hg hin => ?_)
   have e10 : a.eval (.tmp 10) = _ := ins_on hin 4 (by kernel_rfl)
   exact upon_val (exec_addstr w' a.eval _ _ _ rfl [112, 117, 116] [32] e10 rfl (by decide)) rfl
  ·refine need_plain rfl (fun a w' hg hin => ?_)
   have e1 : a.eval (.tmp 1) = .pointer (some ⟨w.heap.size, 0, none⟩) := ins_ext hin 1 (by kernel_rfl)
   refine upon_val ?_ rfl
   clear hin hg
   obtain ⟨ek, ef⟩ := evs a
   generalize a.eval = ev at *
   go_simp
   all_goals first | omega | (intro _; omega) | go_arith
  ·refine need_plain rfl (fun a w' hg hin => ?_)
   have e12 : a.eval (.tmp 12) = _ := ins_on hin 6 (by kernel_rfl)
   have z1 := box_cell ((hg.block _ (heap_lt hD)).trans hD) 1 _ rfl
   refine upon_val ?_ rfl
   clear hin hg
   obtain ⟨ek, ef⟩ := evs a
   generalize a.eval = ev at *
   go_simp
   all_goals first | omega | (intro _; omega) | go_arith
  ·refine need_plain rfl (fun a w' hg hin => ?_)
   have e13 : a.eval (.tmp 13) = _ := ins_on hin 7 (by kernel_rfl)
   refine upon_call (f := 20) (args := #[.int .i64 d.key]) ?_ ((IT d.key w' (hV _ _ hVW hg) (by omega) (by omega)).mono ?_)
   ·clear hin hg
    obtain ⟨ek, ef⟩ := evs a
    generalize a.eval = ev at *
    go_simp
    all_goals first | omega | (intro _; omega) | go_arith
   ·rintro r w2 ⟨rfl, g2⟩
    exact ⟨_, rfl, g2, rfl⟩
  ·refine need_plain rfl (fun a w' hg hin => ?_)
   have e11 : a.eval (.tmp 11) = _ := ins_on hin 5 (by kernel_rfl)
   have e14 : a.eval (.tmp 14) = _ := ins_on hin 8 (by kernel_rfl)
   exact upon_val (exec_addstr w' a.eval _ _ _ rfl [112, 117, 116, 32] (Lib.itoa d.key) e11 e14 (by have := Lib.itoa_length_le d.key (by omega) (by omega); simp; omega)) rfl
  ·refine need_plain rfl (fun a w' hg hin => ?_)
   have e : a.eval (.tmp 15) = _ := ins_on hin 9 (by kernel_rfl)
   exact upon_assign rfl e
 ·intro vs w' hg ht
  obtain ⟨q6, q7, q8, q9, q10, q11, q12, q13, q14, q15, q3, -⟩ := ht
  have r7 : vs 1 = .pointer (some ⟨w.heap.size, 0, none⟩) := q7
  have r8 : vs 2 = .int .i64 1 := q8
  have r10 : vs 4 = .string ⟨#[112, 117, 116]⟩ := q10
  have r11 : vs 5 = .string ⟨#[112, 117, 116, 32]⟩ := q11
  have r12 : vs 6 = .pointer (some ⟨w.heap.size, 1, none⟩) := q12
  have r13 : vs 7 = .int .i64 d.key := q13
  have r14 : vs 8 = .string ⟨(Lib.itoa d.key).toArray⟩ := q14
  have r15 : vs 9 = .string ⟨(wPut ++ 32 :: Lib.itoa d.key).toArray⟩ := q15
  have r3 : vs 10 = .string ⟨(wPut ++ 32 :: Lib.itoa d.key).toArray⟩ := q3
  clear q7 q8 q10 q11 q12 q13 q14 q15 q3
  simp only [putAll, Act.put, List.setIfInBounds_toArray, List.set_cons_zero, List.set_cons_succ, r7, r8, r10, r11, r12, r13, r14, r15, r3]
  clear r7 r8 r10 r11 r12 r13 r14 r15 r3
  have gE := gW.trans hg
  have hDE := (hg.block _ (heap_lt hD)).trans hD
  have z0 := box_cell hDE 0 _ rfl
  have z3 := box_cell hDE 3 _ rfl
  have hl1 := Lib.itoa_length_le d.key (by omega) (by omega)
  have hpl : (wPut ++ 32 :: Lib.itoa d.key).length ≤ 100 := by simp [wPut]; omega
  have hbE := bytes_grow hb gE
  clear hg hD q6 q9 gW hVW hb
  generalize wPut ++ 32 :: Lib.itoa d.key = p at *
  have ba := bytes_app
  go_wp2_with fail
  clear ba z0 z3
  obtain ⟨W1, rfl⟩ : ∃ W1 : World, W1 = w' := ⟨_, rfl⟩
  generalize hdl : d.data = l at *
  clear hdl
  go_loopw [3, 34] (fun sv i wr => ∃ k : Nat, k ≤ l.length ∧ i = .int .i64 k ∧ sv = .string ⟨((p ++ [32]) ++ hexB (l.take k)).toArray⟩ ∧ Grow W1 wr) (fun _ i _ => l.length - (intOf i).toNat)
  case atStart => exact ⟨0, Nat.zero_le _, rfl, by simp [hexB], Grow.refl _⟩
  case round =>
   obtain ⟨k, hk, rfl, rfl, hgr⟩ := hrel
   by_cases hlt : k < l.length
   ·obtain ⟨b, off, hao, q0⟩ := bytes_at (bytes_grow hbE hgr) k hlt
    cases hao
    have HX : Hid ((p ++ [32]) ++ hexB (l.take (k + 1)) = ((p ++ [32]) ++ hexB (l.take k)) ++ [hexd (l[k].toNat / 16)] ++ [hexd (l[k].toNat % 16)]) := by show _ = _; rw [hexB_next l k hlt]; simp
    have hql : ((p ++ [32]) ++ hexB (l.take k)).length ≤ 200 := by have := hexB_len (l.take k); rw [List.length_take] at this; simp; omega
    have hc := l[k].toNat_lt
    generalize l[k] = c at *
    generalize (p ++ [32]) ++ hexB (l.take k) = q at *
    have hq1 : (c.toNat : Int).tdiv 16 = ((c.toNat / 16 : Nat) : Int) := by rw [Int.tdiv_eq_ediv_of_nonneg (by omega)]; omega
    have hq2 : (c.toNat : Int).tmod 16 = ((c.toNat % 16 : Nat) : Int) := by rw [Int.tmod_eq_emod_of_nonneg (by omega)]; omega
    have hk1 : c.toNat / 16 < 16 := by omega
    have hk2 : c.toNat % 16 < 16 := by omega
    have n1 := hexd_nat hk1
    have n2 := hexd_nat hk2
    have m1 : (hexd (c.toNat / 16)).toNat < 128 := by rw [n1]; split <;> omega
    have m2 : (hexd (c.toNat % 16)).toNat < 128 := by rw [n2]; split <;> omega
    clear n1 n2
    go_wp2_with fail
    refine wp_region_told [ex (.string ⟨q.toArray⟩), ex (.int .u8 (c.toNat : Int)), ex (.int .u8 ((c.toNat / 16 : Nat) : Int)), ex (.int .u8 ((hexd (c.toNat / 16)).toNat : Int)), ex (.string ⟨#[hexd (c.toNat / 16)]⟩), ex (.string ⟨(q ++ [hexd (c.toNat / 16)]).toArray⟩), ex (.int .u8 (c.toNat : Int)), ex (.int .u8 ((c.toNat % 16 : Nat) : Int)), ex (.int .u8 ((hexd (c.toNat % 16)).toNat : Int)), ex (.string ⟨#[hexd (c.toNat % 16)]⟩), ex (.string ⟨(q ++ [hexd (c.toNat / 16)] ++ [hexd (c.toNat % 16)]).toArray⟩), ex (.string ⟨(q ++ [hexd (c.toNat / 16)] ++ [hexd (c.toNat % 16)]).toArray⟩)] (by kernel_rfl) (by kernel_rfl) ⟨st_ex _, st_ex _, st_ex _, st_ex _, st_ex _, st_ex _, st_ex _, st_ex _, st_ex _, st_ex _, st_ex _, st_ex _, trivial⟩ ?_ ?_
    ·refine ⟨?_, ?_, ?_, ?_, ?_, ?_, ?_, ?_, ?_, ?_, ?_, ?_, trivial⟩
     ·refine need_plain rfl (fun a w' hg hin => ?_)
      have e : a.eval (.tmp 3) = .string ⟨q.toArray⟩ := ins_ext hin 3 (by kernel_rfl)
      exact upon_move rfl e
     ·refine need_plain rfl (fun a w' hg hin => ?_)
      have e : a.eval (.tmp 5) = .int .u8 (c.toNat : Int) := ins_ext hin 5 (by kernel_rfl)
      exact upon_move rfl e
     ·refine need_plain rfl (fun a w' hg hin => ?_)
      have e39 : a.eval (.tmp 39) = _ := ins_on hin 1 (by kernel_rfl)
      refine upon_val ?_ rfl
      clear hin hg
      obtain ⟨ek, ef⟩ := evs a
      generalize a.eval = ev at *
      go_simp
      all_goals first | omega | (intro _; omega) | go_arith
     ·refine need_plain rfl (fun a w' hg hin => ?_)
      have e40 : a.eval (.tmp 40) = _ := ins_on hin 2 (by kernel_rfl)
      exact upon_val (exec_hex w' a.eval _ _ rfl .u8 _ hk1 (fun _ => rfl) e40) rfl
     ·refine need_plain rfl (fun a w' hg hin => ?_)
      have e41 : a.eval (.tmp 41) = _ := ins_on hin 3 (by kernel_rfl)
      have ea := enc_ascii m1
      refine upon_val ?_ rfl
      clear hin hg
      generalize hexd (c.toNat / 16) = h at *
      obtain ⟨ek, ef⟩ := evs a
      generalize a.eval = ev at *
      go_simp
     ·refine need_plain rfl (fun a w' hg hin => ?_)
      have e38 : a.eval (.tmp 38) = _ := ins_on hin 0 (by kernel_rfl)
      have e42 : a.eval (.tmp 42) = _ := ins_on hin 4 (by kernel_rfl)
      exact upon_val (exec_addstr w' a.eval _ _ _ rfl q [hexd (c.toNat / 16)] e38 e42 (by simp; omega)) rfl
     ·refine need_plain rfl (fun a w' hg hin => ?_)
      have e : a.eval (.tmp 5) = .int .u8 (c.toNat : Int) := ins_ext hin 5 (by kernel_rfl)
      exact upon_move rfl e
     ·refine need_plain rfl (fun a w' hg hin => ?_)
      have e44 : a.eval (.tmp 44) = _ := ins_on hin 6 (by kernel_rfl)
      refine upon_val ?_ rfl
      clear hin hg
      obtain ⟨ek, ef⟩ := evs a
      generalize a.eval = ev at *
      go_simp
      all_goals first | omega | (intro _; omega) | go_arith
     ·refine need_plain rfl (fun a w' hg hin => ?_)
      have e45 : a.eval (.tmp 45) = _ := ins_on hin 7 (by kernel_rfl)
      exact upon_val (exec_hex w' a.eval _ _ rfl .u8 _ hk2 (fun _ => rfl) e45) rfl
     ·refine need_plain rfl (fun a w' hg hin => ?_)
      have e46 : a.eval (.tmp 46) = _ := ins_on hin 8 (by kernel_rfl)
      have ea := enc_ascii m2
      refine upon_val ?_ rfl
      clear hin hg
      generalize hexd (c.toNat % 16) = h at *
      obtain ⟨ek, ef⟩ := evs a
      generalize a.eval = ev at *
      go_simp
     ·refine need_plain rfl (fun a w' hg hin => ?_)
      have e43 : a.eval (.tmp 43) = _ := ins_on hin 5 (by kernel_rfl)
      have e47 : a.eval (.tmp 47) = _ := ins_on hin 9 (by kernel_rfl)
      exact upon_val (exec_addstr w' a.eval _ _ _ rfl (q ++ [hexd (c.toNat / 16)]) [hexd (c.toNat % 16)] e43 e47 (by simp; omega)) rfl
     ·refine need_plain rfl (fun a w' hg hin => ?_)
      have e : a.eval (.tmp 48) = _ := ins_on hin 10 (by kernel_rfl)
      exact upon_assign rfl e
    ·intro vs w' hg ht
     obtain ⟨q38, q39, q40, q41, q42, q43, q44, q45, q46, q47, q48, q3, -⟩ := ht
     have r38 : vs 0 = .string ⟨q.toArray⟩ := q38
     have r39 : vs 1 = .int .u8 (c.toNat : Int) := q39
     have r40 : vs 2 = .int .u8 ((c.toNat / 16 : Nat) : Int) := q40
     have r41 : vs 3 = .int .u8 ((hexd (c.toNat / 16)).toNat : Int) := q41
     have r42 : vs 4 = .string ⟨#[hexd (c.toNat / 16)]⟩ := q42
     have r43 : vs 5 = .string ⟨(q ++ [hexd (c.toNat / 16)]).toArray⟩ := q43
     have r44 : vs 6 = .int .u8 (c.toNat : Int) := q44
     have r45 : vs 7 = .int .u8 ((c.toNat % 16 : Nat) : Int) := q45
     have r46 : vs 8 = .int .u8 ((hexd (c.toNat % 16)).toNat : Int) := q46
     have r47 : vs 9 = .string ⟨#[hexd (c.toNat % 16)]⟩ := q47
     have r48 : vs 10 = .string ⟨(q ++ [hexd (c.toNat / 16)] ++ [hexd (c.toNat % 16)]).toArray⟩ := q48
     have r3 : vs 11 = .string ⟨(q ++ [hexd (c.toNat / 16)] ++ [hexd (c.toNat % 16)]).toArray⟩ := q3
     clear q38 q39 q40 q41 q42 q43 q44 q45 q46 q47 q48 q3
     simp only [putAll, Act.put, List.setIfInBounds_toArray, List.set_cons_zero, List.set_cons_succ, r38, r39, r40, r41, r42, r43, r44, r45, r46, r47, r48, r3]
     clear r38 r39 r40 r41 r42 r43 r44 r45 r46 r47 r48 r3
     have gr2 := hgr.trans hg
     clear hg hgr q0
     go_wp2_with fail
     go_roundw
     case rel => exact ⟨k + 1, by omega, by go_num, by rw [HX.out], gr2⟩
     case measure => simp [intOf]; omega
   ·have hkl : l.take k = l := List.take_of_length_le (by omega)
    have HQ : Hid ((p ++ [32]) ++ hexB (l.take k) = p ++ 32 :: hexB l) := by show _ = _; rw [hkl]; simp
    have hDx := (hgr.block _ (heap_lt hDE)).trans hDE
    have z3 := box_cell hDx 3 _ rfl
    have gEx := gE.trans hgr
    have hql : ((p ++ [32]) ++ hexB (l.take k)).length ≤ 200 := by rw [hkl]; have := hexB_len l; simp; omega
    generalize (p ++ [32]) ++ hexB (l.take k) = q at *
    by_cases hl0 : l = []
    ·have HR : Hid (q ++ [45] = R) := by
      show _ = _
      rw [← HE.out, HQ.out, hl0]
      simp [hexB, dataW]
     have dl : ((l.length : Int) == 0) = true := by rw [hl0]; rfl
     have ba := bytes_app
     clear hl0 hkl HQ HE hDx hDE hgr gE hbE
     go_wp2_with fail
     go_ret
     exact ⟨by rw [← HR.out]; rfl, gEx⟩
    ·have HR : Hid (q = R) := by
      show _ = _
      rw [← HE.out, HQ.out]
      unfold dataW
      rw [if_neg hl0]
     have dl : ((l.length : Int) == 0) = false := by
      simp
      exact hl0
     clear hl0 hkl HQ HE hDx hDE hgr gE hbE
     go_wp2_with fail
     go_ret
     exact ⟨by rw [← HR.out]; rfl, gEx⟩
theorem rprintC (V : World → Prop) (hV : ∀ w w', V w → Grow w w' → V w') (IT : ItoaC V) : RPrintC V := by
 intro d a c w hw hd hb
 obtain ⟨h1, h2, h3, h4, h5, h6, h7, h8⟩ := right_nums hd
 have hl8 : d.data.length ≤ 8 := by
  unfold wrongD at hd
  by_cases k1 : d.kind < 1 ∨ 3 < d.kind
  ·omega
  ·rw [if_neg k1] at hd
   split at hd
   ·omega
   ·split at hd <;> omega
 by_cases hk3 : d.kind = 3
 ·have e : printD d = wPurge ++ 32 :: (Lib.itoa d.key ++ 32 :: Lib.itoa d.num) := by unfold printD; rw [if_pos hk3]
  rw [e]
  exact rprint_purge V hV IT d a c w hw hk3 h3 h4 h5 h6
 ·by_cases hk2 : d.kind = 2
  ·have e : printD d = wDelete ++ 32 :: Lib.itoa d.key := by unfold printD; rw [if_neg hk3, if_pos hk2]
   rw [e]
   exact rprint_delete V hV IT d a c w hw hk2 h3 h4
  ·have e : printD d = wPut ++ 32 :: (Lib.itoa d.key ++ 32 :: dataW d.data) := by unfold printD; rw [if_neg hk3, if_neg hk2]
   rw [e]
   exact rprint_put V hV IT d a c w hw (by omega) h3 h4 hl8 hb
end Go.Proofs.YtgaecpdokgklpabDoor
