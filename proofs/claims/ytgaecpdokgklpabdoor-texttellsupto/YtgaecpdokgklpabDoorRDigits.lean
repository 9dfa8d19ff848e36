/-
  What the document's digits reads of a word: bytes, two digits each.
-/
import Derived.Test.YtgaecpdokgklpabDoorRPrint
namespace Go.Proofs.YtgaecpdokgklpabDoor
set_option maxRecDepth 100000
open Go.RowKit
open Go.Proofs.YtgaecpdokgklpabDoor.Plain Go.Proofs.YtgaecpdokgklpabDoor.Reg

/-- Bytes of digits, the last one's lower half still to come where there is an odd number of them. -/
def outB : List Nat → List UInt8
 | [] => []
 | [x] => [UInt8.ofNat (16 * x)]
 | x :: y :: r => UInt8.ofNat (16 * x + y) :: outB r
theorem outB_even : ∀ (ds : List Nat) (d : Nat), ds.length % 2 = 0 → outB (ds ++ [d]) = outB ds ++ [UInt8.ofNat (16 * d)]
 | [], d, _ => rfl
 | [x], d, h => by simp at h
 | x :: y :: r, d, h => by
  have := outB_even r d (by simp at h; omega)
  show UInt8.ofNat (16 * x + y) :: outB (r ++ [d]) = _
  rw [this]; rfl
theorem outB_odd : ∀ (ds : List Nat) (d : Nat), ds.length % 2 = 1 → ∃ pre x, outB ds = pre ++ [UInt8.ofNat (16 * x)] ∧ outB (ds ++ [d]) = pre ++ [UInt8.ofNat (16 * x + d)] ∧ pre.length = ds.length / 2 ∧ (x = ds.getLast?.getD 0)
 | [], d, h => by simp at h
 | [x], d, _ => ⟨[], x, rfl, rfl, by simp, rfl⟩
 | x :: y :: r, d, h => by
  obtain ⟨pre, z, h1, h2, h3, h4⟩ := outB_odd r d (by simp at h; omega)
  refine ⟨UInt8.ofNat (16 * x + y) :: pre, z, ?_, ?_, ?_, ?_⟩
  ·show UInt8.ofNat (16 * x + y) :: outB r = _; rw [h1]; rfl
  ·show UInt8.ofNat (16 * x + y) :: outB (r ++ [d]) = _; rw [h2]; rfl
  ·simp; omega
  ·rw [h4]
   cases r with
   | nil => simp at h
   | cons a r => simp
theorem outB_len : ∀ ds : List Nat, (outB ds).length = (ds.length + 1) / 2
 | [] => rfl
 | [x] => by simp [outB]
 | x :: y :: r => by
  have := outB_len r
  show (outB r).length + 1 = _
  rw [this]; simp; omega
/-- The digits' values. -/
def Vals (s : List UInt8) (ds : List Nat) : Prop := s.length = ds.length ∧ ∀ (j : Nat) (h : j < s.length) (h' : j < ds.length), hexV s[j] = some ds[j]
theorem unhex_vals : ∀ (s : List UInt8) (ds : List Nat), Vals s ds → s.length % 2 = 0 → unhex s = some (outB ds)
 | [], [], _, _ => rfl
 | [], _ :: _, h, _ => by have := h.1; simp at this
 | _ :: _, [], h, _ => by have := h.1; simp at this
 | [_], _, _, h => by simp at h
 | a :: b :: s, [x], h, _ => by have := h.1; simp at this
 | a :: b :: s, x :: y :: ds, h, he => by
  have h0 : hexV a = some x := h.2 0 (by simp) (by simp)
  have h1 : hexV b = some y := h.2 1 (by simp) (by simp)
  have ih := unhex_vals s ds ⟨by have := h.1; simp at this; exact this, fun j hj hj' => h.2 (j + 2) (by simp; omega) (by simp; omega)⟩ (by simp at he; omega)
  unfold unhex
  rw [h0, h1, ih]; rfl
theorem unhex_odd : ∀ (s : List UInt8), s.length % 2 = 1 → unhex s = none
 | [], h => by simp at h
 | [_], _ => rfl
 | a :: b :: s, h => by
  unfold unhex
  rw [unhex_odd s (by simp at h; omega)]
  cases hexV a <;> cases hexV b <;> rfl
theorem unhex_bad : ∀ (s : List UInt8) (j : Nat) (h : j < s.length), hexV s[j] = none → unhex s = none
 | [], j, h, _ => by simp at h
 | [_], _, _, _ => rfl
 | a :: b :: s, 0, _, h => by
  unfold unhex
  rw [show hexV a = none from h]
 | a :: b :: s, 1, _, h => by
  unfold unhex
  rw [show hexV b = none from h]
  cases hexV a <;> rfl
 | a :: b :: s, j + 2, hj, h => by
  unfold unhex
  rw [unhex_bad s j (by simp at hj; omega) h]
  cases hexV a <;> cases hexV b <;> rfl
theorem dataR_bad {s : List UInt8} (hs : s ≠ [45]) {j : Nat} (h : j < s.length) (hb : hexV s[j] = none) : dataR s = none := by
 unfold dataR
 rw [if_neg hs]
 split
 ·rfl
 ·exact unhex_bad s j h hb
theorem hexV_iff {c : UInt8} {k : Nat} (hk : k < 16) : hexd k = c ↔ hexV c = some k := by
 constructor
 ·rintro rfl; exact hexV_hexd hk
 ·intro h; exact (hexd_hexV h).2
/-- The greatest below k that it is; -1, if there is none. -/
def seenV (c : UInt8) (k : Nat) : Int := match hexV c with
 | some x => if x < k then (x : Int) else -1
 | none => -1
theorem seen_next {c : UInt8} {k : Nat} (hk : k < 16) : seenV c (k + 1) = if hexd k = c then (k : Int) else seenV c k := by
 by_cases h : hexd k = c
 ·rw [if_pos h]
  unfold seenV
  rw [(hexV_iff hk).1 h]
  simp
 ·rw [if_neg h]
  unfold seenV
  cases hc : hexV c with
  | none => rfl
  | some x =>
   have hne : x ≠ k := by rintro rfl; exact h ((hexV_iff hk).2 hc)
   simp only
   by_cases h1 : x < k
   ·rw [if_pos h1, if_pos (by omega)]
   ·rw [if_neg h1, if_neg (by omega)]
theorem seen_all (c : UInt8) : seenV c 16 = match hexV c with | some x => (x : Int) | none => -1 := by
 unfold seenV
 cases hc : hexV c with
 | none => rfl
 | some x => simp only; rw [if_pos (hexd_hexV hc).1]

theorem exec_at (w : World) (ev : Operand → Value) (o : Oper) (x y : Operand) (ho : o.op = Op.index 9 x y) (s : List UInt8) (i : Nat) (hi : i < s.length) (hx : ev x = .string ⟨s.toArray⟩) (hy : ev y = .int .i64 (i : Int)) :
  (execOp ev o).run Tryd.prog w = .ok (.value (.int .u8 (s[i].toNat : Int))) w := by
 unfold execOp
 rw [ho]
 go_simp
 rfl
theorem vals_lt {s : List UInt8} {ds : List Nat} (h : Vals s ds) : ds.getLast?.getD 0 < 16 := by
 cases hl : ds.getLast? with
 | none => simp
 | some y =>
  have hm := List.mem_of_getLast? hl
  obtain ⟨j, hj, hy⟩ := List.mem_iff_getElem.1 hm
  have := h.2 j (by rw [h.1]; exact hj) hj
  have h16 := (hexd_hexV this).1
  simp only [Option.getD_some]
  omega
theorem set_last (pre : List Value) (u v : Value) : (pre ++ [u]).set pre.length v = pre ++ [v] := by
 rw [List.set_append_right _ _ (Nat.le_refl _)]
 simp
def DatQ (o : Option (List UInt8)) (v : Value) (b : Bool) (w : World) : Prop := match o with
 | some l => b = true ∧ Bytes w v l
 | none => b = false
def DatV (o : Option (List UInt8)) (e : Ending) (w : World) : Prop := ∃ v b, e = .returned (.tuple #[v, .bool b]) ∧ DatQ o v b w
theorem vals_next {s : List UInt8} {k x : Nat} {ds : List Nat} (h : Vals (s.take k) ds) (hk : k < s.length) (hx : hexV s[k] = some x) : Vals (s.take (k + 1)) (ds ++ [x]) := by
 have hl : ds.length = k := by have := h.1; rw [List.length_take] at this; omega
 refine ⟨by simp; omega, fun j hj hj' => ?_⟩
 by_cases hjk : j < k
 ·have h1 := h.2 j (by rw [List.length_take]; omega) (by omega)
  rw [List.getElem_append_left (by omega)]
  rw [List.getElem_take] at h1 ⊢
  exact h1
 ·obtain rfl : j = k := by rw [List.length_take] at hj; omega
  rw [List.getElem_take, List.getElem_append_right (by omega)]
  simp [hl]
  exact hx

set_option maxHeartbeats 8000000 in
theorem rdigits_any (s : List UInt8) (w : World) (hm : s.length ≤ 140737488355328) :
  Calls Tryd.prog 18 #[.string ⟨s.toArray⟩] w fun r w' => DatV (dataR s) r w' ∧ Grow w w' := by
 by_cases hs : s = [45]
 ·have HD : Hid (dataR s = some []) := by show _ = _; rw [hs]; rfl
  have dd : (s == [45]) = true := by simp [hs]
  obtain ⟨O, hO⟩ : ∃ O, O = dataR s := ⟨_, rfl⟩
  rw [← hO]
  rw [HD.out] at hO
  subst hO
  clear hs HD
  go_enter Tryd.func18, Tryd.ntmps18
  go_wp2_with fail
  exact bodyPost_ret (v := .tuple #[.slice none 0 0, .bool true]) (by simp [results, Tryd.results18, go_sem]) rfl ⟨⟨_, _, rfl, rfl, .inl ⟨none, 0, rfl, rfl, fun _ => rfl⟩⟩, Grow.refl _⟩
 ·obtain ⟨i0, hif, hz0, hz1, hz2⟩ := info_parts info_byte
  have dd : (s == [45]) = false := by simp [hs]
  have HNS : Hid (s ≠ [45]) := hs
  obtain ⟨O, hO⟩ : ∃ O, O = dataR s := ⟨_, rfl⟩
  rw [← hO]
  have HO : Hid _ := hO
  clear hs hO
  go_enter Tryd.func18, Tryd.ntmps18
  go_wp2_with fail
  clear dd
  go_loopw [4, 12] (fun ov i wr => ∃ (k : Nat) (ds : List Nat), k ≤ s.length ∧ i = .int .i64 k ∧ Vals (s.take k) ds ∧ wr.ownsRow w.heap.size 5 1 ov (outB ds).length ((outB ds).map bv) ∧ Grow w wr) (fun _ i _ => s.length - (intOf i).toNat)
  case atStart => exact ⟨0, [], Nat.zero_le _, rfl, ⟨rfl, fun j hj => by simp at hj⟩, World.ownsRow_nil _ _ _ _, Grow.refl _⟩
  case round =>
   obtain ⟨k, ds, hk, rfl, hVl, hrow, hgr⟩ := hrel
   have HVL : Hid _ := hVl
   clear hVl
   obtain ⟨ao, cp, rfl⟩ := own_slice hrow
   by_cases hlt : k < s.length
   ·have HBAD : Hid (hexV s[k] = none → O = none) := fun h => by rw [HO.out]; exact dataR_bad HNS.out hlt h
    have HNXT : Hid (∀ x, hexV s[k] = some x → Vals (s.take (k + 1)) (ds ++ [x])) := fun x h => vals_next HVL.out hlt h
    have hdl : ds.length = k := by have := HVL.out.1; rw [List.length_take] at this; omega
    have HDL : Hid _ := hdl
    have HLT : Hid _ := vals_lt HVL.out
    obtain ⟨c, hc⟩ : ∃ c, c = s[k] := ⟨_, rfl⟩
    have HC : Hid _ := hc
    rw [← hc] at HBAD HNXT
    clear hc hdl HVL
    go_wp2_with fail
    obtain ⟨wo, rfl⟩ : ∃ wo : World, wo = wr := ⟨_, rfl⟩
    go_loopw [6, 15] (fun dv i wq => ∃ m : Nat, m ≤ 16 ∧ i = .int .i64 m ∧ dv = .int .i64 (seenV c m) ∧ Grow wo wq) (fun _ i _ => 16 - (intOf i).toNat)
    case atStart => exact ⟨0, Nat.zero_le _, rfl, by unfold seenV; cases hexV c <;> simp, Grow.refl _⟩
    case round =>
     obtain ⟨m, hm16, rfl, rfl, hgq⟩ := hrel
     by_cases hml : m < 16
     ·have HSN : Hid (seenV c (m + 1) = if hexd m = c then (m : Int) else seenV c m) := seen_next hml
      generalize seenV c m = sv at *
      by_cases hh : hexd m = c
      ·have HS2 : Hid (seenV c (m + 1) = (m : Int)) := by show _ = _; rw [HSN.out, if_pos hh]
       have d1 : (((hexd m).toNat : Int) == (c.toNat : Int)) = true := by rw [hh]; simp
       clear hh HSN
       go_wp2_with fail
       refine wp_region_told [ex (.int .i64 (m : Int)), ex (.int .u8 ((hexd m).toNat : Int)), ex (.string ⟨s.toArray⟩), ex (.int .i64 (k : Int)), ex (.int .u8 (c.toNat : Int)), ex (.bool true)] (by kernel_rfl) (by kernel_rfl) ⟨st_ex _, st_ex _, st_ex _, st_ex _, st_ex _, st_ex _, trivial⟩ ?_ ?_
       ·refine ⟨?_, ?_, ?_, ?_, ?_, ?_, trivial⟩
        ·refine need_plain rfl (fun a w' hg hin => ?_)
         have e : a.eval (.tmp 7) = .int .i64 (m : Int) := ins_ext hin 7 (by kernel_rfl)
         exact upon_move rfl e
        ·refine need_plain rfl (fun a w' hg hin => ?_)
         have e18 : a.eval (.tmp 18) = _ := ins_on hin 0 (by kernel_rfl)
         exact upon_val (exec_hex w' a.eval _ _ rfl .i64 _ hml (fun _ => rfl) e18) rfl
        ·refine need_plain rfl (fun a w' hg hin => ?_)
         have e : a.eval (.tmp 0) = .string ⟨s.toArray⟩ := ins_ext hin 0 (by kernel_rfl)
         exact upon_move rfl e
        ·refine need_plain rfl (fun a w' hg hin => ?_)
         have e : a.eval (.tmp 5) = .int .i64 (k : Int) := ins_ext hin 5 (by kernel_rfl)
         exact upon_move rfl e
        ·refine need_plain rfl (fun a w' hg hin => ?_)
         have e20 : a.eval (.tmp 20) = _ := ins_on hin 2 (by kernel_rfl)
         have e21 : a.eval (.tmp 21) = _ := ins_on hin 3 (by kernel_rfl)
         exact upon_val (by rw [HC.out]; exact exec_at w' a.eval _ _ _ rfl s k hlt e20 e21) rfl
        ·refine need_plain rfl (fun a w' hg hin => ?_)
         have e19 : a.eval (.tmp 19) = _ := ins_on hin 1 (by kernel_rfl)
         have e22 : a.eval (.tmp 22) = _ := ins_on hin 4 (by kernel_rfl)
         refine upon_val ?_ rfl
         clear hin hg
         obtain ⟨ek, ef⟩ := evs a
         generalize a.eval = ev at *
         go_simp
         all_goals first | omega | (intro _; omega) | go_arith
       ·intro vs w' hg ht
        obtain ⟨q18, q19, q20, q21, q22, q23, -⟩ := ht
        have r18 : vs 0 = .int .i64 (m : Int) := q18
        have r19 : vs 1 = .int .u8 ((hexd m).toNat : Int) := q19
        have r20 : vs 2 = .string ⟨s.toArray⟩ := q20
        have r21 : vs 3 = .int .i64 (k : Int) := q21
        have r22 : vs 4 = .int .u8 (c.toNat : Int) := q22
        have r23 : vs 5 = .bool true := q23
        clear q18 q19 q20 q21 q22 q23
        simp only [putAll, Act.put, List.setIfInBounds_toArray, List.set_cons_zero, List.set_cons_succ, r18, r19, r20, r21, r22, r23]
        clear r18 r19 r20 r21 r22 r23
        have gq2 := hgq.trans hg
        clear hg hgq
        go_wp2_with fail
        go_roundw
        case rel => exact ⟨m + 1, by omega, by go_num, by rw [HS2.out], gq2⟩
        case measure => simp [intOf]; omega
      ·have HS2 : Hid (seenV c (m + 1) = sv) := by show _ = _; rw [HSN.out, if_neg hh]
       have d1 : (((hexd m).toNat : Int) == (c.toNat : Int)) = false := by
        simp only [beq_eq_false_iff_ne, ne_eq]
        intro h
        exact hh (UInt8.toNat_inj.1 (by omega))
       clear hh HSN
       go_wp2_with fail
       refine wp_region_told [ex (.int .i64 (m : Int)), ex (.int .u8 ((hexd m).toNat : Int)), ex (.string ⟨s.toArray⟩), ex (.int .i64 (k : Int)), ex (.int .u8 (c.toNat : Int)), ex (.bool false)] (by kernel_rfl) (by kernel_rfl) ⟨st_ex _, st_ex _, st_ex _, st_ex _, st_ex _, st_ex _, trivial⟩ ?_ ?_
       ·refine ⟨?_, ?_, ?_, ?_, ?_, ?_, trivial⟩
        ·refine need_plain rfl (fun a w' hg hin => ?_)
         have e : a.eval (.tmp 7) = .int .i64 (m : Int) := ins_ext hin 7 (by kernel_rfl)
         exact upon_move rfl e
        ·refine need_plain rfl (fun a w' hg hin => ?_)
         have e18 : a.eval (.tmp 18) = _ := ins_on hin 0 (by kernel_rfl)
         exact upon_val (exec_hex w' a.eval _ _ rfl .i64 _ hml (fun _ => rfl) e18) rfl
        ·refine need_plain rfl (fun a w' hg hin => ?_)
         have e : a.eval (.tmp 0) = .string ⟨s.toArray⟩ := ins_ext hin 0 (by kernel_rfl)
         exact upon_move rfl e
        ·refine need_plain rfl (fun a w' hg hin => ?_)
         have e : a.eval (.tmp 5) = .int .i64 (k : Int) := ins_ext hin 5 (by kernel_rfl)
         exact upon_move rfl e
        ·refine need_plain rfl (fun a w' hg hin => ?_)
         have e20 : a.eval (.tmp 20) = _ := ins_on hin 2 (by kernel_rfl)
         have e21 : a.eval (.tmp 21) = _ := ins_on hin 3 (by kernel_rfl)
         exact upon_val (by rw [HC.out]; exact exec_at w' a.eval _ _ _ rfl s k hlt e20 e21) rfl
        ·refine need_plain rfl (fun a w' hg hin => ?_)
         have e19 : a.eval (.tmp 19) = _ := ins_on hin 1 (by kernel_rfl)
         have e22 : a.eval (.tmp 22) = _ := ins_on hin 4 (by kernel_rfl)
         refine upon_val ?_ rfl
         clear hin hg
         obtain ⟨ek, ef⟩ := evs a
         generalize a.eval = ev at *
         go_simp
         all_goals first | omega | (intro _; omega) | go_arith
       ·intro vs w' hg ht
        obtain ⟨q18, q19, q20, q21, q22, q23, -⟩ := ht
        have r18 : vs 0 = .int .i64 (m : Int) := q18
        have r19 : vs 1 = .int .u8 ((hexd m).toNat : Int) := q19
        have r20 : vs 2 = .string ⟨s.toArray⟩ := q20
        have r21 : vs 3 = .int .i64 (k : Int) := q21
        have r22 : vs 4 = .int .u8 (c.toNat : Int) := q22
        have r23 : vs 5 = .bool false := q23
        clear q18 q19 q20 q21 q22 q23
        simp only [putAll, Act.put, List.setIfInBounds_toArray, List.set_cons_zero, List.set_cons_succ, r18, r19, r20, r21, r22, r23]
        clear r18 r19 r20 r21 r22 r23
        have gq2 := hgq.trans hg
        clear hg hgq
        go_wp2_with fail
        go_roundw
        case rel => exact ⟨m + 1, by omega, by go_num, by rw [HS2.out], gq2⟩
        case measure => simp [intOf]; omega
     ·have hm6 : m = 16 := by omega
      have HSA : Hid (seenV c m = match hexV c with | some x => (x : Int) | none => -1) := by show _ = _; rw [hm6]; exact seen_all c
      clear hm6
      have gw2 := hgr.trans hgq
      have hrow2 := own_grow hrow hgq
      clear hgr hgq hrow
      cases hx : hexV c with
      | none =>
       have HSV : Hid (seenV c m = -1) := by show _ = _; rw [HSA.out, hx]
       have hON := HBAD.out hx
       subst hON
       rw [HSV.out]
       clear hx HSA HSV
       go_wp2_with fail
       exact bodyPost_ret (v := .tuple #[.slice none 0 0, .bool false]) (by simp [results, Tryd.results18, go_sem]) rfl ⟨⟨_, _, rfl, rfl⟩, gw2⟩
      | some x =>
       have HSV : Hid (seenV c m = (x : Int)) := by show _ = _; rw [HSA.out, hx]
       have HNV : Hid (Vals (s.take (k + 1)) (ds ++ [x])) := HNXT.out x hx
       have hx16 : x < 16 := (hexd_hexV hx).1
       rw [HSV.out]
       clear hx HSA HSV HNXT HBAD
       have dx : ¬ ((x : Int) < 0) := by omega
       have hol := outB_len ds
       rw [HDL.out] at hol
       have HOL : Hid _ := hol
       have hob : (outB ds).length ≤ 70368744177665 := by omega
       clear hol
       by_cases hev : k % 2 = 0
       ·have hr2 : (k : Int).tmod 2 = 0 := by rw [Int.tmod_eq_emod_of_nonneg (by omega)]; omega
        have HOE : Hid (outB (ds ++ [x]) = outB ds ++ [UInt8.ofNat (16 * x)]) := outB_even ds x (by rw [HDL.out]; exact hev)
        have hbx : (UInt8.ofNat (16 * x)).toNat = 16 * x := by simp; omega
        have HSZ : Hid (w.heap.size ≤ wr.heap.size) := gw2.size
        have hnew : ∀ (j : Nat) u, ([.int .u8 (16 * (x : Int))] : List Value)[j]? = some u → (wr.alloc (.cells #[.int .u8 (16 * (x : Int))] 5)).cell? ((⟨wr.heap.size, 0, none⟩ : Addr).add j) = some u := by
         intro j u hj
         match j, hj with
         | 0, hj => simp at hj; subst hj; simp [Addr.add]
         | j + 1, hj => simp at hj
        have HBX : Hid _ := hbx
        clear hev hbx
        go_wp2_with (at_builtin; refine wpList_append_own _ rfl (.tmp 31) (.tmp 35) 22 rfl w.heap.size 5 i0 (.int .u8 0) 1 1 Tryd.underlying22 hif hz0 hz1 hz2 rfl (by decide) (.slice ao (outB ds).length cp) _ _ rfl (hrow2.alloc _) ⟨wr.heap.size, 0, none⟩ 1 1 [.int .u8 (16 * (x : Int))] rfl rfl hnew (by intro u hu; simp at hu; subst hu; rfl) (by unfold maxLen; omega) (by omega) (by have := HSZ.out; simp; omega) ?_; intro v4 w4 hown4 hgrow4 _; have g6 : Grow w w4 := grow_of_grown (gw2.trans (grow_alloc _ _)) hgrow4 (fun k hk => (hrow2.lt k hk).1); have hrow6 : w4.ownsRow w.heap.size 5 1 v4 (outB (ds ++ [x])).length ((outB (ds ++ [x])).map bv) := (by rw [HOE.out]; simp only [List.length_append, List.length_cons, List.length_nil, List.map_append, List.map_cons, List.map_nil, bv, HBX.out]; exact hown4); have hsl := own_slice hown4; obtain ⟨a4, c4, hv4⟩ := hsl; subst hv4; clear hgrow4 hown4 hrow2 hnew gw2)
        go_roundw
        case rel => exact ⟨k + 1, ds ++ [x], by omega, by go_num, HNV.out, hrow6, g6⟩
        case measure => simp [intOf]; omega
       ·have hr2 : (k : Int).tmod 2 = 1 := by rw [Int.tmod_eq_emod_of_nonneg (by omega)]; omega
        have hq2 : (k : Int).tdiv 2 = ((k / 2 : Nat) : Int) := by rw [Int.tdiv_eq_ediv_of_nonneg (by omega)]; omega
        obtain ⟨pre, y, ho1, ho2, ho3, ho4⟩ := outB_odd ds x (by rw [HDL.out]; omega)
        have hy16 : y < 16 := by rw [ho4]; exact HLT.out
        rw [HDL.out] at ho3
        have hb1 : (UInt8.ofNat (16 * y)).toNat = 16 * y := by simp; omega
        have hb2 : (UInt8.ofNat (16 * y + x)).toNat = 16 * y + x := by simp; omega
        have hkl : k / 2 < (outB ds).length := by rw [HOL.out]; omega
        obtain ⟨g, hao, hgB⟩ : ∃ g, ao = some ⟨g, 0, none⟩ ∧ w.heap.size ≤ g := by
         rcases hrow2.2 with ⟨e, h0⟩ | ⟨q, cap', cur, e, hb, _⟩
         ·rw [h0] at hkl; omega
         ·cases e; exact ⟨q, rfl, hb⟩
        subst hao
        have hmap : (outB ds).map bv = pre.map bv ++ [.int .u8 (16 * (y : Int))] := by rw [ho1]; simp [bv]; omega
        have c0 : wr.cell? ⟨g, k / 2, none⟩ = some (.int .u8 (16 * (y : Int))) := by
         have := hrow2.cellAt (k / 2) (by omega)
         rw [this, hmap, List.getElem?_append_right (by simp; omega)]
         simp [ho3]
        have f0 := hrow2.frozenAt (k / 2)
        have hst := (hrow2.stored (k / 2) (.int .u8 (16 * (y : Int) + (x : Int)))).1
        have hrow6 : (wr.setCell ⟨g, k / 2, none⟩ (.int .u8 (16 * (y : Int) + (x : Int)))).ownsRow w.heap.size 5 1 (.slice (some ⟨g, 0, none⟩) (outB ds).length cp) (outB (ds ++ [x])).length ((outB (ds ++ [x])).map bv) := by
         have h1 : ((outB ds).map bv).set (k / 2) (.int .u8 (16 * (y : Int) + (x : Int))) = (outB (ds ++ [x])).map bv := by
          rw [hmap, ← ho3, show pre.length = (pre.map bv).length by simp, set_last, ho2]
          simp [bv]
          omega
         have h2 : (outB (ds ++ [x])).length = (outB ds).length := by rw [ho1, ho2]; simp
         rw [h2, ← h1]; exact hst
        have g6 := grow_set gw2 (a := ⟨g, k / 2, none⟩) hgB (.int .u8 (16 * (y : Int) + (x : Int)))
        have cs := cell_set
        have HR6 : Hid _ := hrow6
        have HG6 : Hid _ := g6
        clear hev hrow2 gw2 hst hrow6 g6 ho1 ho2 ho3 ho4 hb1 hb2 hmap hgB
        go_wp2_with fail
        go_roundw
        case rel => exact ⟨k + 1, ds ++ [x], by omega, by go_num, HNV.out, HR6.out, HG6.out⟩
        case measure => simp [intOf]; omega
   ·have HK : Hid (Vals s ds) := by
     have h := HVL.out
     rw [List.take_of_length_le (by omega)] at h
     exact h
    clear HVL
    by_cases h0 : s.length = 0
    ·have hON : O = none := by rw [HO.out, List.eq_nil_of_length_eq_zero h0]; rfl
     subst hON
     have d0 : ¬ ((0 : Int) < (s.length : Int)) := by omega
     clear h0
     go_wp2_with fail
     exact bodyPost_ret (v := .tuple #[.slice ao (outB ds).length cp, .bool false]) (by simp [results, Tryd.results18, go_sem]) rfl ⟨⟨_, _, rfl, rfl⟩, hgr⟩
    ·have d0 : (0 : Int) < (s.length : Int) := by omega
     have hne : s ≠ [] := fun h => h0 (by rw [h]; rfl)
     by_cases hev : s.length % 2 = 0
     ·have hr2 : (s.length : Int).tmod 2 = 0 := by rw [Int.tmod_eq_emod_of_nonneg (by omega)]; omega
      have hON : O = some (outB ds) := by
       rw [HO.out]
       unfold dataR
       rw [if_neg HNS.out, if_neg hne]
       exact unhex_vals s ds HK.out hev
      subst hON
      clear h0 hne hev
      go_wp2_with fail
      exact bodyPost_ret (v := .tuple #[.slice ao (outB ds).length cp, .bool true]) (by simp [results, Tryd.results18, go_sem]) rfl ⟨⟨_, _, rfl, rfl, bytes_own hrow⟩, hgr⟩
     ·have hr2 : (s.length : Int).tmod 2 = 1 := by rw [Int.tmod_eq_emod_of_nonneg (by omega)]; omega
      have hON : O = none := by
       rw [HO.out]
       unfold dataR
       rw [if_neg HNS.out, if_neg hne]
       exact unhex_odd s (by omega)
      subst hON
      clear h0 hne hev
      go_wp2_with fail
      exact bodyPost_ret (v := .tuple #[.slice ao (outB ds).length cp, .bool false]) (by simp [results, Tryd.results18, go_sem]) rfl ⟨⟨_, _, rfl, rfl⟩, hgr⟩
end Go.Proofs.YtgaecpdokgklpabDoor
