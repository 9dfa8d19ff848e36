/-
  What the program's parseData reads of a word.
  Condition: strings.IndexByte tells a digit's place (premise).
-/
import Derived.Test.YtgaecpdokgklpabDoorTPrint
import Derived.Lib.Bytealg
import Derived.Laws.OwnMore
namespace Go.Proofs.YtgaecpdokgklpabDoor
set_option maxRecDepth 100000
open Go.RowKit
open Go.Proofs.YtgaecpdokgklpabDoor.Plain Go.Proofs.YtgaecpdokgklpabDoor.Reg

/-- A digit's value, or -1. -/
def hexI (c : UInt8) : Int := match hexV c with
 | some x => (x : Int)
 | none => -1
theorem hexI_index : ∀ c : UInt8, Lib.indexByte hexS c = hexI c := by
 have h : ∀ c : Fin 256, Lib.indexByte hexS (UInt8.ofNat c.val) = hexI (UInt8.ofNat c.val) := by decide +kernel
 intro c
 have := h ⟨c.toNat, c.toNat_lt⟩
 simpa using this
def IndexC : Prop := ∀ (c : UInt8) (w : World),
 Calls Tryd.prog 33 #[.string ⟨#[48, 49, 50, 51, 52, 53, 54, 55, 56, 57, 97, 98, 99, 100, 101, 102]⟩, .int .u8 (c.toNat : Int)] w fun r w' => r = .returned (.int .i64 (hexI c)) ∧ Grow w w'
theorem or16_fin : ∀ x y : Fin 16, bits .or .i64 (((x.val * 16 : Nat)) : Int) ((y.val : Nat) : Int) = ((16 * x.val + y.val : Nat) : Int) := by decide +kernel
theorem or16 {x y : Nat} (hx : x < 16) (hy : y < 16) : bits .or .i64 ((x : Int) * 16) (y : Int) = 16 * (x : Int) + (y : Int) := by
 have := or16_fin ⟨x, hx⟩ ⟨y, hy⟩
 simpa using this
theorem unhex_next : ∀ (m : Nat) (s pre : List UInt8) (x y : Nat) (h : 2 * m + 1 < s.length), unhex (s.take (2 * m)) = some pre → hexV s[2 * m] = some x → hexV s[2 * m + 1] = some y → unhex (s.take (2 * (m + 1))) = some (pre ++ [UInt8.ofNat (16 * x + y)])
 | 0, a :: b :: r, pre, x, y, h, h1, h2, h3 => by
  simp only [Nat.mul_zero, List.take_zero, unhex, Option.some.injEq] at h1
  subst h1
  have h2' : hexV a = some x := h2
  have h3' : hexV b = some y := h3
  simp [unhex, h2', h3']
 | m + 1, a :: b :: r, pre, x, y, h, h1, h2, h3 => by
  have e : (a :: b :: r).take (2 * (m + 1)) = a :: b :: r.take (2 * m) := by rw [show 2 * (m + 1) = 2 * m + 1 + 1 by omega, List.take_succ_cons, List.take_succ_cons]
  have e2 : (a :: b :: r).take (2 * (m + 1 + 1)) = a :: b :: r.take (2 * (m + 1)) := by rw [show 2 * (m + 1 + 1) = 2 * (m + 1) + 1 + 1 by omega, List.take_succ_cons, List.take_succ_cons]
  rw [e] at h1
  rw [e2]
  unfold unhex at h1 ⊢
  split at h1
  ·rename_i p q t hp hq ht
   cases h1
   have h2' : hexV (r[2 * m]'(by simp at h; omega)) = some x := by simpa [show 2 * (m + 1) = 2 * m + 1 + 1 by omega] using h2
   have h3' : hexV (r[2 * m + 1]'(by simp at h; omega)) = some y := by simpa [show 2 * (m + 1) = 2 * m + 1 + 1 by omega] using h3
   have ih := unhex_next m r t x y (by simp at h; omega) ht h2' h3'
   rw [hp, hq, ih]
   rfl
  ·cases h1
 | _, [], _, _, _, h, _, _, _ => by simp at h
 | _, [_], _, _, _, h, _, _, _ => by simp at h
theorem unhex_len2 : ∀ (s l : List UInt8), unhex s = some l → s.length = 2 * l.length
 | [], l, h => by unfold unhex at h; cases h; rfl
 | [_], l, h => by unfold unhex at h; cases h
 | a :: b :: r, l, h => by
  unfold unhex at h
  split at h
  ·rename_i x y t hx hy ht
   cases h
   have := unhex_len2 r t ht
   simp; omega
  ·cases h

def DatP (o : Option (List UInt8)) (e : Ending) (w : World) : Prop := match o with
 | some l => ∃ v, e = .returned (.tuple #[v, .bool true]) ∧ Bytes w v l
 | none => e = .returned (.tuple #[.slice none 0 0, .bool false])
set_option maxHeartbeats 8000000 in
theorem tpdata_any (IX : IndexC) (s : List UInt8) (w : World) (hm : s.length ≤ 140737488355328) :
  Calls Tryd.prog 24 #[.string ⟨s.toArray⟩] w fun r w' => DatP (dataR s) r w' ∧ Grow w w' := by
 by_cases hs : s = [45]
 ·have HD : Hid (dataR s = some []) := by show _ = _; rw [hs]; rfl
  have dd : (s == [45]) = true := by simp [hs]
  obtain ⟨O, hO⟩ : ∃ O, O = dataR s := ⟨_, rfl⟩
  rw [← hO]
  rw [HD.out] at hO
  subst hO
  clear hs HD
  go_enter Tryd.func24, Tryd.ntmps24
  go_wp2_with fail
  exact bodyPost_ret (v := .tuple #[.slice none 0 0, .bool true]) (by simp [results, Tryd.results24, go_sem]) rfl ⟨⟨_, rfl, .inl ⟨none, 0, rfl, rfl, fun _ => rfl⟩⟩, Grow.refl _⟩
 ·have dd : (s == [45]) = false := by simp [hs]
  have HNS : Hid (s ≠ [45]) := hs
  obtain ⟨O, hO⟩ : ∃ O, O = dataR s := ⟨_, rfl⟩
  rw [← hO]
  have HO : Hid _ := hO
  clear hs hO
  by_cases h0 : s = []
  ·have hON : O = none := by rw [HO.out, h0]; rfl
   subst hON
   have d0 : (s == []) = true := by simp [h0]
   clear h0
   go_enter Tryd.func24, Tryd.ntmps24
   go_wp2_with fail
   exact bodyPost_ret (v := .tuple #[.slice none 0 0, .bool false]) (by simp [results, Tryd.results24, go_sem]) rfl ⟨rfl, Grow.refl _⟩
  ·have d0 : (s == []) = false := by simp [h0]
   have HNE : Hid (s ≠ []) := h0
   by_cases hev : s.length % 2 = 0
   ·have hr2 : (s.length : Int).tmod 2 = 0 := by rw [Int.tmod_eq_emod_of_nonneg (by omega)]; omega
    have hq2 : (s.length : Int).tdiv 2 = ((s.length / 2 : Nat) : Int) := by rw [Int.tdiv_eq_ediv_of_nonneg (by omega)]; omega
    clear h0
    obtain ⟨i0, hif, hz0, hz1, hz2⟩ := info_parts info_byte
    go_enter Tryd.func24, Tryd.ntmps24
    go_wp2_with (at_make; refine wpList_make_full _ rfl _ _ 22 rfl w.heap.size 5 i0 (.int .u8 0) 1 Tryd.underlying22 hif hz0 hz1 .i64 .i64 _ _ (s.length / 2) rfl rfl hq2 hq2 (by rw [hz2]; omega) (by unfold maxLen; omega) (Nat.le_refl _) ?_; intro w1 hown1 hgrow1)
    have g1 : Grow w w1 := grow_of_grown (Grow.refl _) hgrow1 (fun k hk => by cases hk)
    have HEV : Hid _ := hev
    clear hgrow1 hev hr2
    rw [Nat.mul_one] at hown1
    rw [show (Value.int .u8 0).cells = #[Value.int .u8 0] from rfl, toList_madeCells_one] at hown1
    obtain ⟨n, hn⟩ : ∃ n, n = s.length / 2 := ⟨_, rfl⟩
    have HN : Hid (s.length = 2 * n) := by show _ = _; have := HEV.out; omega
    rw [← hn] at hown1 ⊢
    have hnb : n ≤ 140737488355328 := by omega
    clear hn hq2
    go_loopw [24] (fun i wr => ∃ (k : Nat) (pre : List UInt8), k ≤ n ∧ i = .int .i64 k ∧ Hid (unhex (s.take (2 * k)) = some pre) ∧ wr.ownsRow w.heap.size 5 1 (.slice (some ⟨w.heap.size, 0, none⟩) n n) n (pre.map bv ++ List.replicate (n - k) (.int .u8 0)) ∧ Grow w wr) (fun i _ => n - (intOf i).toNat)
    case atStart => exact ⟨0, [], Nat.zero_le _, rfl, (by show _ = _; rfl), by simpa using hown1, g1⟩
    case round =>
     clear hown1 g1
     obtain ⟨k, pre, hk, rfl, HPRE, hrow, hgr⟩ := hrel
     by_cases hlt : k < n
     ·have hl1 : 2 * k + 1 < s.length := by rw [HN.out]; omega
      have hl0 : 2 * k < s.length := by omega
      have HPL : Hid (pre.length = k) := by
       show _ = _
       have := unhex_len2 _ _ HPRE.out
       rw [List.length_take] at this
       omega
      obtain ⟨c, hc⟩ : ∃ c, c = s[2 * k] := ⟨_, rfl⟩
      obtain ⟨e, he⟩ : ∃ e, e = s[2 * k + 1] := ⟨_, rfl⟩
      have HC : Hid _ := hc
      have HE : Hid _ := he
      clear hc he
      go_wp2_with fail
      refine wp_region_told [ex (.string ⟨s.toArray⟩), ex (.int .i64 (k : Int)), ex (.int .i64 ((2 * k : Nat) : Int)), ex (.int .u8 (c.toNat : Int)), ex (.int .i64 (hexI c)), ex (.string ⟨s.toArray⟩), ex (.int .i64 (k : Int)), ex (.int .i64 ((2 * k : Nat) : Int)), ex (.int .i64 ((2 * k + 1 : Nat) : Int)), ex (.int .u8 (e.toNat : Int)), ex (.int .i64 (hexI e)), ex (.int .i64 (hexI c)), ex (.int .i64 (hexI e))] (by kernel_rfl) (by kernel_rfl) ⟨st_ex _, st_ex _, st_ex _, st_ex _, st_ex _, st_ex _, st_ex _, st_ex _, st_ex _, st_ex _, st_ex _, st_ex _, st_ex _, trivial⟩ ?_ ?_
      ·refine ⟨?_, ?_, ?_, ?_, ?_, ?_, ?_, ?_, ?_, ?_, ?_, ?_, ?_, trivial⟩
       ·refine need_plain rfl (fun a w' hg hin => ?_)
        have e : a.eval (.tmp 0) = .string ⟨s.toArray⟩ := ins_ext hin 0 (by kernel_rfl)
        exact upon_move rfl e
       ·refine need_plain rfl (fun a w' hg hin => ?_)
        have e : a.eval (.tmp 5) = .int .i64 (k : Int) := ins_ext hin 5 (by kernel_rfl)
        exact upon_move rfl e
       ·refine need_plain rfl (fun a w' hg hin => ?_)
        have e28 : a.eval (.tmp 28) = _ := ins_on hin 1 (by kernel_rfl)
        refine upon_val ?_ rfl
        clear hin hg
        obtain ⟨ek, ef⟩ := evs a
        generalize a.eval = ev at *
        go_simp
        all_goals first | omega | (intro _; omega) | go_arith
       ·refine need_plain rfl (fun a w' hg hin => ?_)
        have e27 : a.eval (.tmp 27) = _ := ins_on hin 0 (by kernel_rfl)
        have e29 : a.eval (.tmp 29) = _ := ins_on hin 2 (by kernel_rfl)
        exact upon_val (by rw [HC.out]; exact exec_at w' a.eval _ _ _ rfl s (2 * k) hl0 e27 e29) rfl
       ·refine need_plain rfl (fun a w' hg hin => ?_)
        have e30 : a.eval (.tmp 30) = _ := ins_on hin 3 (by kernel_rfl)
        refine upon_call (f := 33) (args := #[.string ⟨#[48, 49, 50, 51, 52, 53, 54, 55, 56, 57, 97, 98, 99, 100, 101, 102]⟩, .int .u8 (c.toNat : Int)]) ?_ ((IX c w').mono ?_)
        ·clear hin hg
         obtain ⟨ek, ef⟩ := evs a
         generalize a.eval = ev at *
         go_simp
         all_goals first | omega | (intro _; omega) | go_arith
        ·rintro r w2 ⟨rfl, g2⟩
         exact ⟨_, rfl, g2, rfl⟩
       ·refine need_plain rfl (fun a w' hg hin => ?_)
        have e : a.eval (.tmp 0) = .string ⟨s.toArray⟩ := ins_ext hin 0 (by kernel_rfl)
        exact upon_move rfl e
       ·refine need_plain rfl (fun a w' hg hin => ?_)
        have e : a.eval (.tmp 5) = .int .i64 (k : Int) := ins_ext hin 5 (by kernel_rfl)
        exact upon_move rfl e
       ·refine need_plain rfl (fun a w' hg hin => ?_)
        have e33 : a.eval (.tmp 33) = _ := ins_on hin 6 (by kernel_rfl)
        refine upon_val ?_ rfl
        clear hin hg
        obtain ⟨ek, ef⟩ := evs a
        generalize a.eval = ev at *
        go_simp
        all_goals first | omega | (intro _; omega) | go_arith
       ·refine need_plain rfl (fun a w' hg hin => ?_)
        have e34 : a.eval (.tmp 34) = _ := ins_on hin 7 (by kernel_rfl)
        refine upon_val ?_ rfl
        clear hin hg
        obtain ⟨ek, ef⟩ := evs a
        generalize a.eval = ev at *
        go_simp
        all_goals first | omega | (intro _; omega) | go_arith
       ·refine need_plain rfl (fun a w' hg hin => ?_)
        have e32 : a.eval (.tmp 32) = _ := ins_on hin 5 (by kernel_rfl)
        have e35 : a.eval (.tmp 35) = _ := ins_on hin 8 (by kernel_rfl)
        exact upon_val (by rw [HE.out]; exact exec_at w' a.eval _ _ _ rfl s (2 * k + 1) hl1 e32 e35) rfl
       ·refine need_plain rfl (fun a w' hg hin => ?_)
        have e36 : a.eval (.tmp 36) = _ := ins_on hin 9 (by kernel_rfl)
        refine upon_call (f := 33) (args := #[.string ⟨#[48, 49, 50, 51, 52, 53, 54, 55, 56, 57, 97, 98, 99, 100, 101, 102]⟩, .int .u8 (e.toNat : Int)]) ?_ ((IX e w').mono ?_)
        ·clear hin hg
         obtain ⟨ek, ef⟩ := evs a
         generalize a.eval = ev at *
         go_simp
         all_goals first | omega | (intro _; omega) | go_arith
        ·rintro r w2 ⟨rfl, g2⟩
         exact ⟨_, rfl, g2, rfl⟩
       ·refine need_plain rfl (fun a w' hg hin => ?_)
        have e : a.eval (.tmp 31) = _ := ins_on hin 4 (by kernel_rfl)
        exact upon_assign rfl e
       ·refine need_plain rfl (fun a w' hg hin => ?_)
        have e : a.eval (.tmp 37) = _ := ins_on hin 10 (by kernel_rfl)
        exact upon_assign rfl e
      ·intro vs w' hg ht
       obtain ⟨q27, q28, q29, q30, q31, q32, q33, q34, q35, q36, q37, q6, q7, -⟩ := ht
       have r27 : vs 0 = .string ⟨s.toArray⟩ := q27
       have r28 : vs 1 = .int .i64 (k : Int) := q28
       have r29 : vs 2 = .int .i64 ((2 * k : Nat) : Int) := q29
       have r30 : vs 3 = .int .u8 (c.toNat : Int) := q30
       have r31 : vs 4 = .int .i64 (hexI c) := q31
       have r32 : vs 5 = .string ⟨s.toArray⟩ := q32
       have r33 : vs 6 = .int .i64 (k : Int) := q33
       have r34 : vs 7 = .int .i64 ((2 * k : Nat) : Int) := q34
       have r35 : vs 8 = .int .i64 ((2 * k + 1 : Nat) : Int) := q35
       have r36 : vs 9 = .int .u8 (e.toNat : Int) := q36
       have r37 : vs 10 = .int .i64 (hexI e) := q37
       have r6 : vs 11 = .int .i64 (hexI c) := q6
       have r7 : vs 12 = .int .i64 (hexI e) := q7
       clear q27 q28 q29 q30 q31 q32 q33 q34 q35 q36 q37 q6 q7
       simp only [putAll, Act.put, List.setIfInBounds_toArray, List.set_cons_zero, List.set_cons_succ, r27, r28, r29, r30, r31, r32, r33, r34, r35, r36, r37, r6, r7]
       clear r27 r28 r29 r30 r31 r32 r33 r34 r35 r36 r37 r6 r7
       have g2 := hgr.trans hg
       have hrow2 := own_grow hrow hg
       clear hg hgr hrow
       cases hx : hexV c with
       | none =>
        have hI : hexI c = -1 := by unfold hexI; rw [hx]
        obtain rfl : O = none := by rw [HO.out]; exact dataR_bad HNS.out hl0 (by rw [← HC.out]; exact hx)
        rw [hI]
        clear hI hx
        go_wp2_with fail
        exact bodyPost_ret (v := .tuple #[.slice none 0 0, .bool false]) (by simp [results, Tryd.results24, go_sem]) rfl ⟨rfl, g2⟩
       | some x =>
        have hI : hexI c = (x : Int) := by unfold hexI; rw [hx]
        have hx16 := (hexd_hexV hx).1
        have dx : ¬ ((x : Int) < 0) := by omega
        have HX : Hid _ := hx
        rw [hI]
        clear hI hx
        cases hy : hexV e with
        | none =>
         have hJ : hexI e = -1 := by unfold hexI; rw [hy]
         obtain rfl : O = none := by rw [HO.out]; exact dataR_bad HNS.out hl1 (by rw [← HE.out]; exact hy)
         rw [hJ]
         clear hJ hy
         go_wp2_with fail
         exact bodyPost_ret (v := .tuple #[.slice none 0 0, .bool false]) (by simp [results, Tryd.results24, go_sem]) rfl ⟨rfl, g2⟩
        | some y =>
         have hJ : hexI e = (y : Int) := by unfold hexI; rw [hy]
         have hy16 := (hexd_hexV hy).1
         have dy : ¬ ((y : Int) < 0) := by omega
         have HY : Hid _ := hy
         rw [hJ]
         clear hJ hy
         have ho := or16 hx16 hy16
         have HNX : Hid (unhex (s.take (2 * (k + 1))) = some (pre ++ [UInt8.ofNat (16 * x + y)])) := unhex_next k s pre x y hl1 HPRE.out (by rw [← HC.out]; exact HX.out) (by rw [← HE.out]; exact HY.out)
         have f0 := hrow2.frozenAt k
         have c0 : w'.cell? ⟨w.heap.size, k, none⟩ = some (.int .u8 0) := by
          have := hrow2.cellAt k (by omega)
          rw [this, List.getElem?_append_right (by simp [HPL.out]), show n - k = (n - k - 1) + 1 by omega, List.replicate_succ]
          simp [HPL.out]
         have hst := (hrow2.stored k (.int .u8 (16 * (x : Int) + (y : Int)))).1
         have hrow6 : (w'.setCell ⟨w.heap.size, k, none⟩ (.int .u8 (16 * (x : Int) + (y : Int)))).ownsRow w.heap.size 5 1 (.slice (some ⟨w.heap.size, 0, none⟩) n n) n ((pre ++ [UInt8.ofNat (16 * x + y)]).map bv ++ List.replicate (n - (k + 1)) (.int .u8 0)) := by
          have hb2 : (UInt8.ofNat (16 * x + y)).toNat = 16 * x + y := by simp; omega
          have h1 : (pre.map bv ++ List.replicate (n - k) (Value.int .u8 0)).set k (.int .u8 (16 * (x : Int) + (y : Int))) = (pre ++ [UInt8.ofNat (16 * x + y)]).map bv ++ List.replicate (n - (k + 1)) (.int .u8 0) := by
           rw [show n - k = (n - (k + 1)) + 1 by omega, List.replicate_succ, List.set_append_right _ _ (by simp [HPL.out])]
           simp [HPL.out, bv]
           omega
          rw [← h1]; exact hst
         have g6 := grow_set g2 (a := ⟨w.heap.size, k, none⟩) (Nat.le_refl _) (.int .u8 (16 * (x : Int) + (y : Int)))
         have cs := cell_set
         have HR6 : Hid _ := hrow6
         have HG6 : Hid _ := g6
         clear hrow2 g2 hst hrow6 g6
         go_wp2_with fail
         go_roundw
         case rel => exact ⟨k + 1, _, by omega, by go_num, HNX, HR6.out, HG6.out⟩
         case measure => simp [intOf]; omega
     ·have HKN : Hid (k = n) := by show _ = _; omega
      have hON : O = some pre := by
       rw [HO.out]
       unfold dataR
       rw [if_neg HNS.out, if_neg HNE.out]
       have h := HPRE.out
       rw [HKN.out, ← HN.out, List.take_length] at h
       exact h
      subst hON
      have hB := hrow
      rw [HKN.out, Nat.sub_self, List.replicate_zero, List.append_nil] at hB
      have dlt : ¬ ((k : Int) < (s.length : Int) / 2) := by have := HN.out; omega
      clear hrow
      go_wp2_with fail
      exact bodyPost_ret (v := .tuple #[.slice (some ⟨w.heap.size, 0, none⟩) n n, .bool true]) (by simp [results, Tryd.results24, go_sem]) rfl ⟨⟨_, rfl, bytes_own hB⟩, hgr⟩
   ·have hr2 : (s.length : Int).tmod 2 = 1 := by rw [Int.tmod_eq_emod_of_nonneg (by omega)]; omega
    have hON : O = none := by
     rw [HO.out]
     unfold dataR
     rw [if_neg HNS.out, if_neg h0]
     exact unhex_odd s (by omega)
    subst hON
    clear h0 hev
    go_enter Tryd.func24, Tryd.ntmps24
    go_wp2_with fail
    exact bodyPost_ret (v := .tuple #[.slice none 0 0, .bool false]) (by simp [results, Tryd.results24, go_sem]) rfl ⟨rfl, Grow.refl _⟩
end Go.Proofs.YtgaecpdokgklpabDoor
