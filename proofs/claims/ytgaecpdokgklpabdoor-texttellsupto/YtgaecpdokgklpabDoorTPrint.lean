/-
  What the program's Print writes of a right deed.
  Condition: strconv.Itoa keeps its contract (premise).
-/
import Derived.Test.YtgaecpdokgklpabDoorRParse
import Derived.Test.YtgaecpdokgklpabDoorMdlW
import Derived.Test.YtgaecpdokgklpabDoorRRead
import Derived.Test.YtgaecpdokgklpabDoorJReg
namespace Go.Proofs.YtgaecpdokgklpabDoor
set_option maxRecDepth 100000
open Go.RowKit
open Go.Proofs.YtgaecpdokgklpabDoor.Plain Go.Proofs.YtgaecpdokgklpabDoor.Reg

theorem tupd_ne {dn : Nat → Bool} {i j : Nat} (h : j ≠ i) : upd dn i j = dn j := by unfold upd; rw [if_neg h]
theorem tupd_at {dn : Nat → Bool} {i : Nat} : upd dn i i = true := by unfold upd; rw [if_pos rfl]
theorem tsetv_ne {f : Nat → Value} {i j : Nat} {v : Value} (h : j ≠ i) : setv f i v j = f j := by unfold setv; rw [if_neg h]
theorem tsetv_at {f : Nat → Value} {i : Nat} {v : Value} : setv f i v i = v := by unfold setv; rw [if_pos rfl]
theorem and15_fin : ∀ c : Fin 256, bits .and .u8 ((c.val : Nat) : Int) 15 = ((c.val % 16 : Nat) : Int) := by decide +kernel
theorem exec_and15 (w : World) (ev : Operand → Value) (o : Oper) (x : Operand) (ho : o.op = Op.binOp .and 5 x (.const (.int .u8 15)) 5) (k : Nat) (hk : k < 256) (ek : ∀ x, ev (.const x) = x) (hx : ev x = .int .u8 (k : Int)) :
  (execOp ev o).run Tryd.prog w = .ok (.value (.int .u8 ((k % 16 : Nat) : Int))) w := by
 have h := and15_fin ⟨k, hk⟩
 simp only at h
 unfold execOp
 rw [ho]
 go_simp
/-- A row of its own that grows by two bytes. -/
def PdJ (w0 : World) (v0 : Value) (xs ys : List UInt8) (dn : Nat → Bool) (f : Nat → Value) (w : World) : Prop :=
 Grow w0 w ∧ (dn 8 = false → w.ownsRow w0.heap.size 5 1 v0 xs.length (xs.map bv)) ∧ (dn 7 = true → dn 8 = false → ∃ g, f 7 = .slice (some ⟨g, 0, none⟩) 2 2 ∧ w.heap[g]? = some (.cells (ys.map bv).toArray 5 (0, 0))) ∧
  (dn 8 = true → w.ownsRow w0.heap.size 5 1 (f 8) (xs ++ ys).length ((xs ++ ys).map bv))
theorem PdJ.start {w0 W : World} {v0 : Value} {xs ys : List UInt8} {f : Nat → Value} (hg : Grow w0 W) (h : W.ownsRow w0.heap.size 5 1 v0 xs.length (xs.map bv)) : PdJ w0 v0 xs ys (fun _ => false) f W.drew := by
 refine ⟨hg.drew, fun _ => own_grow h (Grow.refl _).drew, ?_, ?_⟩ <;> (intro h; cases h)
theorem PdJ.on {w0 w w' : World} {v0 : Value} {xs ys : List UInt8} {dn : Nat → Bool} {f : Nat → Value} (h : PdJ w0 v0 xs ys dn f w) (hg : Grow w w') : PdJ w0 v0 xs ys dn f w' := by
 refine ⟨h.1.trans hg, fun h1 => own_grow (h.2.1 h1) hg, fun h1 h2 => ?_, fun h1 => own_grow (h.2.2.2 h1) hg⟩
 obtain ⟨g, k1, k2⟩ := h.2.2.1 h1 h2
 exact ⟨g, k1, (hg.block _ (heap_lt k2)).trans k2⟩
theorem PdJ.built {w0 w : World} {v0 : Value} {xs ys : List UInt8} {dn : Nat → Bool} {f : Nat → Value} (h : PdJ w0 v0 xs ys dn f w) (h8 : dn 8 = false) : PdJ w0 v0 xs ys (upd dn 7) (setv f 7 (.slice (some ⟨w.heap.size, 0, none⟩) 2 2)) (w.alloc (.cells (ys.map bv).toArray 5)) := by
 have h' := h.on (grow_alloc w (.cells (ys.map bv).toArray 5))
 refine ⟨h'.1, fun h1 => h'.2.1 h8, fun _ _ => ⟨w.heap.size, tsetv_at, heap_new _ _ _⟩, fun h1 => ?_⟩
 rw [tupd_ne (by decide), h8] at h1; cases h1
theorem PdJ.app {w0 w : World} {v0 : Value} {xs : List UInt8} {y0 y1 : UInt8} {dn : Nat → Bool} {f : Nat → Value} (h : PdJ w0 v0 xs [y0, y1] dn f w) (h7 : dn 7 = true) (h8 : dn 8 = false) (hx : xs.length ≤ 1000000000) :
  ∃ v' w', (Builtin.append_ #[22, 22] 22 #[v0, f 7]).run Tryd.prog w = .ok v' w' ∧ PdJ w0 v0 xs [y0, y1] (upd dn 8) (setv f 8 v') w' := by
 obtain ⟨i0, hif, hz0, hz1, hz2⟩ := info_parts info_byte
 have hrow := h.2.1 h8
 obtain ⟨g, hf, hh⟩ := h.2.2.1 h7 h8
 obtain ⟨v', w', hrun, hown, hgb, -⟩ := run_append_own (P := Tryd.prog) (w := w) w0.heap.size 22 22 5 i0 _ 1 1 Tryd.underlying22 hif hz0 hz1 hz2 (by decide) (by decide) v0 xs.length (xs.map bv) hrow ⟨g, 0, none⟩ 2 2 [bv y0, bv y1] rfl (fun j u hj => by
  have : (⟨g, 0, none⟩ : Addr).add j = ⟨g, j, none⟩ := by
   unfold Addr.add
   split
   ·rename_i h; rw [h]
   ·rw [Nat.zero_add]
  rw [this]
  exact box_cell hh j u (by simpa using hj)) (by intro u hu; simp at hu; rcases hu with rfl | rfl <;> rfl) (by unfold maxLen; omega) (by omega) h.1.size
 refine ⟨v', w', by rw [hf]; exact hrun, grow_of_grown h.1 hgb (fun k hk => (hrow.lt k hk).1), fun h1 => ?_, fun _ h2 => ?_, fun _ => ?_⟩
 ·rw [tupd_at] at h1; cases h1
 ·rw [tupd_at] at h2; cases h2
 ·rw [tsetv_at]; simpa using hown

set_option maxHeartbeats 4000000 in
theorem tdata_any (l : List UInt8) (ao : Option Addr) (cap : Nat) (w : World) (hl : l.length ≤ 1048576) (hb : Bytes w (.slice ao l.length cap) l) :
  Calls Tryd.prog 21 #[.slice ao l.length cap] w fun r w' => r = .returned (.string ⟨(dataW l).toArray⟩) ∧ Grow w w' := by
 by_cases h0 : l = []
 ·subst h0
  go_enter Tryd.func21, Tryd.ntmps21
  go_wp2_with fail
  go_ret
  exact ⟨rfl, Grow.refl _⟩
 ·have hp : 0 < l.length := List.length_pos_iff.2 h0
  have hne : ((l.length : Int) == 0) = false := by simp; omega
  have HD : Hid (dataW l = hexB l) := by show _ = _; unfold dataW; rw [if_neg h0]
  rw [HD.out]
  clear h0 HD
  obtain ⟨i0, hif, hz0, hz1, hz2⟩ := info_parts info_byte
  go_enter Tryd.func21, Tryd.ntmps21
  go_wp2_with (at_make; refine wpList_make_own _ rfl _ _ 22 rfl w.heap.size 5 i0 (.int .u8 0) 1 Tryd.underlying22 hif hz0 hz1 .i64 .i64 _ (2 * l.length) rfl rfl (by omega) (by rw [hz2]; omega) (by unfold maxLen; omega) (Nat.le_refl _) ?_; intro w1 hown1 hgrow1)
  have g1 : Grow w w1 := grow_of_grown (Grow.refl _) hgrow1 (fun k hk => by cases hk)
  clear hgrow1
  go_loopw [3, 15] (fun ov i wr => ∃ k : Nat, k ≤ l.length ∧ i = .int .i64 k ∧ wr.ownsRow w.heap.size 5 1 ov (hexB (l.take k)).length ((hexB (l.take k)).map bv) ∧ Grow w wr) (fun _ i _ => l.length - (intOf i).toNat)
  case atStart => exact ⟨0, Nat.zero_le _, rfl, by simpa [hexB] using hown1, g1⟩
  case round =>
   obtain ⟨k, hk, rfl, hrow, hgr⟩ := hrel
   obtain ⟨a1, c1, rfl⟩ := own_slice hrow
   by_cases hlt : k < l.length
   ·obtain ⟨b, off, hao, q0⟩ := bytes_at (bytes_grow hb hgr) k hlt
    cases hao
    have HX : Hid (hexB (l.take (k + 1)) = hexB (l.take k) ++ [hexd (l[k].toNat / 16), hexd (l[k].toNat % 16)]) := hexB_next l k hlt
    have hql : (hexB (l.take k)).length ≤ 1000000000 := by have := hexB_len (l.take k); rw [List.length_take] at this; omega
    have hc := l[k].toNat_lt
    generalize l[k] = c at *
    generalize hexB (l.take k) = q at *
    have hk1 : c.toNat / 16 < 16 := by omega
    have hk2 : c.toNat % 16 < 16 := by omega
    go_wp2_with fail
    refine wp_region_x [pl (ex (.slice a1 q.length c1)), pl (ex (.int .u8 (c.toNat : Int))), pl (ex (.int .u8 ((c.toNat / 16 : Nat) : Int))), pl (ex (.int .u8 ((hexd (c.toNat / 16)).toNat : Int))), pl (ex (.int .u8 (c.toNat : Int))), pl (ex (.int .u8 ((c.toNat % 16 : Nat) : Int))), pl (ex (.int .u8 ((hexd (c.toNat % 16)).toNat : Int))), pl ((fun _ _ => True)), pl ((fun _ _ => True)), pl1 8 ((fun v u _ => v = u))] [none, none, none, none, none, none, none, none, some ((fun _ _ => True))] (PdJ w (.slice a1 q.length c1) q [hexd (c.toNat / 16), hexd (c.toNat % 16)]) (by kernel_rfl) (by kernel_rfl) ⟨st_pl (st_ex _), st_pl (st_ex _), st_pl (st_ex _), st_pl (st_ex _), st_pl (st_ex _), st_pl (st_ex _), st_pl (st_ex _), st_pl ((fun _ _ _ _ _ => trivial)), st_pl ((fun _ _ _ _ _ => trivial)), (fun _ _ _ _ _ h => h), trivial⟩ ⟨⟨(fun _ => trivial), ⟨.inr (fun _ _ _ _ _ h => h), .inr (fun _ _ _ _ _ h => h), .inr (fun _ _ _ _ _ h => h), .inr (fun _ _ _ _ _ h => h), .inr (fun _ _ _ _ _ h => h), .inr (fun _ _ _ _ _ h => h), .inr (fun _ _ _ _ _ h => h), .inr ((fun _ _ _ _ _ _ => trivial)), .inl (by kernel_rfl), .inl (by kernel_rfl), trivial⟩⟩, trivial⟩ ⟨(fun h => by cases h), (fun h => by cases h), (fun h => by cases h), (fun h => by cases h), (fun h => by cases h), (fun h => by cases h), (fun h => by cases h), (fun h => by cases h), (fun h => by cases h), (fun h => by cases h), trivial⟩ (fun _ => PdJ.start hgr hrow) ?_ ?_
    ·refine ⟨?_, ?_, ?_, ?_, ?_, ?_, ?_, ?_, ?_, ?_, trivial⟩
     ·refine needx_plain rfl (fun a w' dn hr hg hin => ?_)
      have e : a.eval (.tmp 3) = .slice a1 q.length c1 := insw_ext hin 3 (by kernel_rfl)
      exact uponx_move rfl hg e
     ·refine needx_plain rfl (fun a w' dn hr hg hin => ?_)
      have e : a.eval (.tmp 5) = .int .u8 (c.toNat : Int) := insw_ext hin 5 (by kernel_rfl)
      exact uponx_move rfl hg e
     ·refine needx_plain rfl (fun a w' dn hr hg hin => ?_)
      have e20 : a.eval (.tmp 20) = _ := insw_on hin 1 (by kernel_rfl)
      refine uponx_val ?_ hg rfl
      clear hin hg
      obtain ⟨ek, ef⟩ := evs a
      generalize a.eval = ev at *
      go_simp
      all_goals first | omega | (intro _; omega) | go_arith
     ·refine needx_plain rfl (fun a w' dn hr hg hin => ?_)
      have e21 : a.eval (.tmp 21) = _ := insw_on hin 2 (by kernel_rfl)
      exact uponx_val (exec_hex w' a.eval _ _ rfl .u8 _ hk1 (fun _ => rfl) e21) hg rfl
     ·refine needx_plain rfl (fun a w' dn hr hg hin => ?_)
      have e : a.eval (.tmp 5) = .int .u8 (c.toNat : Int) := insw_ext hin 5 (by kernel_rfl)
      exact uponx_move rfl hg e
     ·refine needx_plain rfl (fun a w' dn hr hg hin => ?_)
      have e23 : a.eval (.tmp 23) = _ := insw_on hin 4 (by kernel_rfl)
      exact uponx_val (exec_and15 w' a.eval _ _ rfl _ hc (fun _ => rfl) e23) hg rfl
     ·refine needx_plain rfl (fun a w' dn hr hg hin => ?_)
      have e24 : a.eval (.tmp 24) = _ := insw_on hin 5 (by kernel_rfl)
      exact uponx_val (exec_hex w' a.eval _ _ rfl .u8 _ hk2 (fun _ => rfl) e24) hg rfl
     ·refine needx_plain rfl (fun a w' dn hr hg hin => ?_)
      have e22 : a.eval (.tmp 22) = _ := insw_on hin 3 (by kernel_rfl)
      have e25 : a.eval (.tmp 25) = _ := insw_on hin 6 (by kernel_rfl)
      refine uponx_step (v := .slice (some ⟨w'.heap.size, 0, none⟩) 2 2) (w' := w'.alloc (.cells #[bv (hexd (c.toNat / 16)), bv (hexd (c.toNat % 16))] 5)) ?_ (grow_alloc _ _) (PdJ.built hg (hr.not1 8 (by kernel_rfl))) trivial
      clear hin hg hr
      unfold bv
      obtain ⟨ek, ef⟩ := evs a
      generalize a.eval = ev at *
      go_simp
      all_goals first | omega | (intro _; omega) | go_arith
     ·refine needx_plain rfl (fun a w' dn hr hg hin => ?_)
      have e19 : a.eval (.tmp 19) = _ := insw_on hin 0 (by kernel_rfl)
      have e26 : ((fun _ _ => True)) (a.eval (.tmp 26)) w' := insw_on hin 7 (by kernel_rfl)
      obtain ⟨v', w2, hrun, hJ⟩ := PdJ.app hg (hr.rd 7 (by kernel_rfl)) hr.un hql
      exact uponx_step (v := v') (w' := w2) (exec_append (.tmp 19) (.tmp 26) 22 rfl _ _ e19 rfl hrun) trivial hJ trivial
     ·refine needx_plain rfl (fun a w' dn hr hg hin => ?_)
      have e27 : ((fun _ _ => True)) (a.eval (.tmp 27)) w' := insw_on hin 8 (by kernel_rfl)
      exact uponx_assign rfl hg rfl
    ·intro vs w' dn hdn hg ht
     obtain ⟨q19, q20, q21, q22, q23, q24, q25, q26, q27, q3, -⟩ := ht
     have r19 : vs 0 = .slice a1 q.length c1 := q19
     have r20 : vs 1 = .int .u8 (c.toNat : Int) := q20
     have r21 : vs 2 = .int .u8 ((c.toNat / 16 : Nat) : Int) := q21
     have r22 : vs 3 = .int .u8 ((hexd (c.toNat / 16)).toNat : Int) := q22
     have r23 : vs 4 = .int .u8 (c.toNat : Int) := q23
     have r24 : vs 5 = .int .u8 ((c.toNat % 16 : Nat) : Int) := q24
     have r25 : vs 6 = .int .u8 ((hexd (c.toNat % 16)).toNat : Int) := q25
     replace q26 : ((fun _ _ => True)) (vs 7) w' := q26
     replace q27 : ((fun _ _ => True)) (vs 8) w' := q27
     replace q3 : ((fun v u _ => v = u)) (vs 9) (vs 8) w' := q3
     clear q19 q20 q21 q22 q23 q24 q25
     simp only [putAll, Act.put, List.setIfInBounds_toArray, List.set_cons_zero, List.set_cons_succ, Nat.reduceAdd, r19, r20, r21, r22, r23, r24, r25]
     clear r19 r20 r21 r22 r23 r24 r25
     have hO := hg.2.2.2 (hdn 8 (by decide))
     have e9 : vs 9 = vs 8 := q3
     rw [← e9] at hO
     have gE := hg.1
     have hO2 := hO
     rw [← HX.out] at hO2
     clear hg hO
     go_wp2_with fail
     go_roundw
     case rel => exact ⟨k + 1, by omega, by go_num, hO2, gE⟩
     case measure => simp [intOf]; omega
   ·obtain rfl : k = l.length := by omega
    rw [List.take_length] at hrow
    have ra := run_str7 _ _ _ (bytes_own hrow)
    rw [List.take_length] at *
    go_wp2_with fail
    go_ret
    exact ⟨rfl, hgr⟩

theorem right_short {d : Dd} (h : wrongD d = 0) : d.data.length ≤ 8 := by
 by_cases h8 : 8 < d.data.length
 ·exfalso
  unfold wrongD at h
  by_cases h1 : d.kind < 1 ∨ 3 < d.kind
  ·rw [if_pos h1] at h; omega
  ·rw [if_neg h1] at h
   by_cases h2 : d.key < 1 ∨ 255 < d.key ∨ d.num < (if d.kind = 3 then 1 else 0) ∨ (if d.kind = 3 then 60000 else 0) < d.num
   ·rw [if_pos h2] at h; omega
   ·rw [if_neg h2, if_pos (.inl h8)] at h; omega
 ·omega
set_option maxHeartbeats 4000000 in
theorem tprint_delete (V : World → Prop) (hV : ∀ w w', V w → Grow w w' → V w') (IT : ItoaC V) (d : Dd) (ad : Option Addr) (cd : Nat) (w : World) (hw : V w) (hr : wrongD d = 0) (hb : Bytes w (.slice ad d.data.length cd) d.data) (hk : d.kind = 2) :
  Calls Tryd.prog 10 #[.agg #[.int .i64 d.kind, .int .i64 d.key, .int .i64 d.num, .slice ad d.data.length cd]] w fun r w' => r = .returned (.string ⟨(wDelete ++ 32 :: Lib.itoa d.key).toArray⟩) ∧ Grow w w' := by
 have HDL : Hid (d.data.length ≤ 8) := right_short hr
 have d1 : (d.kind == 1) = false := by simp [hk]
 have d2 : (d.kind == 2) = true := by simp [hk]
 clear hk
 obtain ⟨h1, h2, h3, h4, h5, h6, h7, h8⟩ := right_nums hr
 have HR : Hid _ := hr
 have hdl : d.data.length ≤ 8 := HDL.out
 clear h7 h8 hr HDL
 have gW := grow_alloc w (.cells #[.int .i64 d.kind, .int .i64 d.key, .int .i64 d.num, .slice ad d.data.length cd] 24)
 have hD := heap_new w #[.int .i64 d.kind, .int .i64 d.key, .int .i64 d.num, .slice ad d.data.length cd] 24
 have hl1 := Lib.itoa_length_le d.key (by omega) (by omega)
 go_enter Tryd.func10, Tryd.ntmps10
 go_wp2_with fail
 refine (mwrongC d ad cd _ (by omega) (bytes_grow hb gW)).mono ?_
 rw [HR.out]
 rintro r w1 ⟨rfl, g1⟩
 have gE1 := gW.trans g1
 have hD1 := (g1.block _ (heap_lt hD)).trans hD
 have y1 := box_cell hD1 1 _ rfl
 clear gW g1 hD
 go_wp2_with fail
 refine (IT d.key w1 (hV _ _ hw gE1) (by omega) (by omega)).mono ?_
 rintro r w2 ⟨rfl, g2⟩
 have gE := gE1.trans g2
 have hDE := (g2.block _ (heap_lt hD1)).trans hD1
 have y0 := box_cell hDE 0 _ rfl
 have y2 := box_cell hDE 2 _ rfl
 have y3 := box_cell hDE 3 _ rfl
 clear gE1 g2 hD1 y1 hDE
 have ba := bytes_app
 go_wp2_with fail
 go_ret
 exact ⟨rfl, gE⟩
set_option maxHeartbeats 4000000 in
theorem tprint_purge (V : World → Prop) (hV : ∀ w w', V w → Grow w w' → V w') (IT : ItoaC V) (d : Dd) (ad : Option Addr) (cd : Nat) (w : World) (hw : V w) (hr : wrongD d = 0) (hb : Bytes w (.slice ad d.data.length cd) d.data) (hk : d.kind = 3) :
  Calls Tryd.prog 10 #[.agg #[.int .i64 d.kind, .int .i64 d.key, .int .i64 d.num, .slice ad d.data.length cd]] w fun r w' => r = .returned (.string ⟨(wPurge ++ 32 :: (Lib.itoa d.key ++ 32 :: Lib.itoa d.num)).toArray⟩) ∧ Grow w w' := by
 have HDL : Hid (d.data.length ≤ 8) := right_short hr
 have d1 : (d.kind == 1) = false := by simp [hk]
 have d2 : (d.kind == 2) = false := by simp [hk]
 clear hk
 obtain ⟨R, hR⟩ : ∃ R, R = wPurge ++ 32 :: (Lib.itoa d.key ++ 32 :: Lib.itoa d.num) := ⟨_, rfl⟩
 rw [← hR]
 have HE : Hid (112 :: 117 :: 114 :: 103 :: 101 :: 32 :: (Lib.itoa d.key ++ 32 :: Lib.itoa d.num) = R) := by show _ = _; rw [hR]; rfl
 clear hR
 obtain ⟨h1, h2, h3, h4, h5, h6, h7, h8⟩ := right_nums hr
 have HR : Hid _ := hr
 have hdl : d.data.length ≤ 8 := HDL.out
 clear h7 h8 hr HDL
 have gW := grow_alloc w (.cells #[.int .i64 d.kind, .int .i64 d.key, .int .i64 d.num, .slice ad d.data.length cd] 24)
 have hD := heap_new w #[.int .i64 d.kind, .int .i64 d.key, .int .i64 d.num, .slice ad d.data.length cd] 24
 have hl1 := Lib.itoa_length_le d.key (by omega) (by omega)
 go_enter Tryd.func10, Tryd.ntmps10
 go_wp2_with fail
 refine (mwrongC d ad cd _ (by omega) (bytes_grow hb gW)).mono ?_
 rw [HR.out]
 rintro r w1 ⟨rfl, g1⟩
 have gE1 := gW.trans g1
 have hD1 := (g1.block _ (heap_lt hD)).trans hD
 have y1 := box_cell hD1 1 _ rfl
 clear gW g1 hD
 go_wp2_with fail
 refine (IT d.key w1 (hV _ _ hw gE1) (by omega) (by omega)).mono ?_
 rintro r w2 ⟨rfl, g2⟩
 have gE := gE1.trans g2
 have hDE := (g2.block _ (heap_lt hD1)).trans hD1
 have y0 := box_cell hDE 0 _ rfl
 have y2 := box_cell hDE 2 _ rfl
 have y3 := box_cell hDE 3 _ rfl
 clear gE1 g2 hD1 y1 hDE
 have ba := bytes_app
 have hl2 := Lib.itoa_length_le d.num (by omega) (by omega)
 generalize Lib.itoa d.key = p at *
 go_wp2_with fail
 refine (IT d.num _ (hV _ _ hw gE) (by omega) (by omega)).mono ?_
 rintro r w3 ⟨rfl, g3⟩
 have gF := gE.trans g3
 clear gE g3 y0 y2 y3
 generalize Lib.itoa d.num = q at *
 have hpl : (([112, 117, 114, 103, 101, 32] ++ p) ++ [32]).length ≤ 100 := by simp; omega
 go_wp2_with fail
 go_ret
 exact ⟨by rw [← HE.out]; rfl, gF⟩
set_option maxHeartbeats 4000000 in
theorem tprint_put (V : World → Prop) (hV : ∀ w w', V w → Grow w w' → V w') (IT : ItoaC V) (d : Dd) (ad : Option Addr) (cd : Nat) (w : World) (hw : V w) (hr : wrongD d = 0) (hb : Bytes w (.slice ad d.data.length cd) d.data) (hk : d.kind = 1) :
  Calls Tryd.prog 10 #[.agg #[.int .i64 d.kind, .int .i64 d.key, .int .i64 d.num, .slice ad d.data.length cd]] w fun r w' => r = .returned (.string ⟨(wPut ++ 32 :: (Lib.itoa d.key ++ 32 :: dataW d.data)).toArray⟩) ∧ Grow w w' := by
 have HDL : Hid (d.data.length ≤ 8) := right_short hr
 have d1 : (d.kind == 1) = true := by simp [hk]
 clear hk
 obtain ⟨R, hR⟩ : ∃ R, R = wPut ++ 32 :: (Lib.itoa d.key ++ 32 :: dataW d.data) := ⟨_, rfl⟩
 rw [← hR]
 have HE : Hid (112 :: 117 :: 116 :: 32 :: (Lib.itoa d.key ++ 32 :: dataW d.data) = R) := by show _ = _; rw [hR]; rfl
 have HL : Hid ((dataW d.data).length ≤ 20) := by
  show _ ≤ _
  unfold dataW
  split
  ·simp
  ·rw [hexB_len]; have := HDL.out; omega
 clear hR
 obtain ⟨h1, h2, h3, h4, h5, h6, h7, h8⟩ := right_nums hr
 have HR : Hid _ := hr
 have hdl : d.data.length ≤ 8 := HDL.out
 clear h7 h8 hr HDL
 have gW := grow_alloc w (.cells #[.int .i64 d.kind, .int .i64 d.key, .int .i64 d.num, .slice ad d.data.length cd] 24)
 have hD := heap_new w #[.int .i64 d.kind, .int .i64 d.key, .int .i64 d.num, .slice ad d.data.length cd] 24
 have hl1 := Lib.itoa_length_le d.key (by omega) (by omega)
 go_enter Tryd.func10, Tryd.ntmps10
 go_wp2_with fail
 refine (mwrongC d ad cd _ (by omega) (bytes_grow hb gW)).mono ?_
 rw [HR.out]
 rintro r w1 ⟨rfl, g1⟩
 have gE1 := gW.trans g1
 have hD1 := (g1.block _ (heap_lt hD)).trans hD
 have y1 := box_cell hD1 1 _ rfl
 clear gW g1 hD
 go_wp2_with fail
 refine (IT d.key w1 (hV _ _ hw gE1) (by omega) (by omega)).mono ?_
 rintro r w2 ⟨rfl, g2⟩
 have gE := gE1.trans g2
 have hDE := (g2.block _ (heap_lt hD1)).trans hD1
 have y0 := box_cell hDE 0 _ rfl
 have y2 := box_cell hDE 2 _ rfl
 have y3 := box_cell hDE 3 _ rfl
 clear gE1 g2 hD1 y1 hDE
 have ba := bytes_app
 generalize Lib.itoa d.key = p at *
 go_wp2_with fail
 refine (tdata_any d.data ad cd _ (by omega) (bytes_grow hb gE)).mono ?_
 rintro r w3 ⟨rfl, g3⟩
 have gF := gE.trans g3
 have hql := HL.out
 clear gE g3 y0 y2 y3 HL
 generalize dataW d.data = q at *
 have hpl : (([112, 117, 116, 32] ++ p) ++ [32]).length ≤ 100 := by simp; omega
 go_wp2_with fail
 go_ret
 exact ⟨by rw [← HE.out]; rfl, gF⟩
theorem tprintC (V : World → Prop) (hV : ∀ w w', V w → Grow w w' → V w') (IT : ItoaC V) : TPrintC V := by
 intro d ad cd w hw hr hb
 obtain ⟨h1, h2, -, -, -, -, -, -⟩ := right_nums hr
 have hk : d.kind = 1 ∨ d.kind = 2 ∨ d.kind = 3 := by omega
 unfold printD
 rcases hk with hk | hk | hk
 ·rw [if_neg (by omega), if_neg (by omega)]
  exact tprint_put V hV IT d ad cd w hw hr hb hk
 ·rw [if_neg (by omega), if_pos hk]
  exact tprint_delete V hV IT d ad cd w hw hr hb hk
 ·rw [if_pos hk]
  exact tprint_purge V hV IT d ad cd w hw hr hb hk
end Go.Proofs.YtgaecpdokgklpabDoor
