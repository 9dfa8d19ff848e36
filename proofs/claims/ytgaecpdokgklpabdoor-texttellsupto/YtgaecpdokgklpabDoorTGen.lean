/-
  strings.SplitN at a blank, and at most four pieces, of a text of whatever length: no table is read, and nothing is asked of package variables.
  Condition: strings.Index tells the first blank (premise).
-/
import Derived.Test.YtgaecpdokgklpabDoorTSplit
namespace Go.Proofs.YtgaecpdokgklpabDoor
set_option maxRecDepth 100000
open Go.RowKit
open Go.Proofs.YtgaecpdokgklpabDoor.Plain Go.Proofs.YtgaecpdokgklpabDoor.Reg

def IndexOneC : Prop := ∀ (s : List UInt8) (w : World),
 Calls Tryd.prog 32 #[.string ⟨s.toArray⟩, .string ⟨#[32]⟩] w fun r w' => r = .returned (.int .i64 (Lib.indexByte s 32)) ∧ w' = w
theorem info_str7 : (Tryd.prog.info? 9).map (fun i => (i.zero, i.size, i.bytes)) = some (some (.string ⟨#[]⟩), 1, 16) := by kernel_rfl
/-- The pieces that are laid, and empty ones behind them. -/
def pieces (ds : List (List UInt8)) (n : Nat) : List Value := ds.map (fun x => .string ⟨x.toArray⟩) ++ List.replicate (n - ds.length) (.string ⟨#[]⟩)
theorem pieces_set {ds : List (List UInt8)} {n : Nat} (h : ds.length < n) (x : List UInt8) : (pieces ds n).set ds.length (.string ⟨x.toArray⟩) = pieces (ds ++ [x]) n := by
 unfold pieces
 rw [show n - ds.length = (n - (ds ++ [x]).length) + 1 by simp; omega, List.replicate_succ, List.set_append_right _ _ (by simp)]
 simp
theorem pieces_len {ds : List (List UInt8)} {n : Nat} (h : ds.length ≤ n) : (pieces ds n).length = n := by
 unfold pieces; simp; omega
theorem pieces_at {ds : List (List UInt8)} {n i : Nat} (h : i < ds.length) : (pieces ds n)[i]? = some (.string ⟨ds[i].toArray⟩) := by
 unfold pieces
 rw [List.getElem?_append_left (by simpa using h)]
 simp [h]
theorem pieces_next {ds : List (List UInt8)} {n : Nat} (h : ds.length < n) : (pieces ds n)[ds.length]? = some (.string ⟨#[]⟩) := by
 unfold pieces
 rw [List.getElem?_append_right (by simp), List.length_map, Nat.sub_self, show n - ds.length = (n - ds.length - 1) + 1 by omega, List.replicate_succ]
 rfl

/-- The pieces, in a row. -/
def SplitQ (s : List UInt8) (r : Ending) (w' : World) : Prop := ∃ (ws : List (List UInt8)) (g c : Nat), Parts s ws ∧ r = .returned (.slice (some ⟨g, 0, none⟩) ws.length c) ∧ ws.length ≤ c ∧ ∀ (i : Nat) (h : i < ws.length), w'.cell? ⟨g, i, none⟩ = some (.string ⟨ws[i].toArray⟩)
set_option maxHeartbeats 4000000 in
theorem tgen_any (IX : IndexOneC) (s : List UInt8) (w : World) (hs : s.length ≤ 140737488355328) :
  Calls Tryd.prog 22 #[.string ⟨s.toArray⟩, .string ⟨#[32]⟩, .int .i64 0, .int .i64 4] w fun r w' => SplitQ s r w' ∧ Grow w w' := by
 obtain ⟨N, hN⟩ : ∃ N, N = min 4 (s.length + 1) := ⟨_, rfl⟩
 have hmin : (if (s.length : Int) + 1 < 4 then (s.length : Int) + 1 else 4) = (N : Int) := by split <;> omega
 have hN1 : 1 ≤ N := by omega
 have hN4 : N ≤ 4 := by omega
 have HPA : Hid (Parts s (Lib.splitK [32] 0 (N - 1) s)) := by rw [hN]; exact parts_split s
 clear hN
 obtain ⟨i0, hif, hz0, hz1, hz2⟩ := info_parts info_str7
 go_enter Tryd.func22, Tryd.ntmps22
 go_wp2_with (at_make; go_loud (refine wpList_make_full _ rfl _ _ 33 rfl w.heap.size 9 i0 (.string ⟨#[]⟩) 1 Tryd.underlying33 hif hz0 hz1 .i64 .i64 _ _ N rfl rfl (by first | exact hmin | rfl | (split at hmin <;> omega)) (by first | exact hmin | rfl | (split at hmin <;> omega)) (by rw [hz2]; omega) (by unfold maxLen; omega) (Nat.le_refl _) ?_; intro w1 hown1 hgrow1))
 have g1 : Grow w w1 := grow_of_grown (Grow.refl _) hgrow1 (fun k hk => by cases hk)
 clear hgrow1
 rw [Nat.mul_one, show (Value.string ⟨#[]⟩).cells = #[Value.string ⟨#[]⟩] from rfl, toList_madeCells_one] at hown1
 go_loopw [0, 10] (fun sv iv wr => ∃ (ds : List (List UInt8)) (r : List UInt8), sv = .string ⟨r.toArray⟩ ∧ iv = .int .i64 (ds.length : Int) ∧ ds.length ≤ N - 1 ∧ r.length ≤ s.length ∧ Hid (ds ++ Lib.splitK [32] 0 (N - 1 - ds.length) r = Lib.splitK [32] 0 (N - 1) s) ∧ wr.ownsRow w.heap.size 9 1 (.slice (some ⟨w.heap.size, 0, none⟩) N N) N (pieces ds N) ∧ Grow w wr) (fun _ iv _ => N - (intOf iv).toNat)
 case atStart => exact ⟨[], s, rfl, rfl, Nat.zero_le _, Nat.le_refl _, (by show _ = _; rfl), by simpa [pieces] using hown1, g1⟩
 case round =>
  clear hown1 g1
  obtain ⟨ds, r, rfl, rfl, hd, hrl, HS, hrow, hgr⟩ := hrel
  by_cases hlt : ds.length < N - 1
  ·have hltz : (ds.length : Int) < (N : Int) - 1 := by omega
   go_wp2_with fail
   refine (IX r _).mono ?_
   rcases blank_at r with ⟨hi, hbl⟩ | ⟨i, hi, hcut, hbl⟩
   ·rw [hi]
    rintro e w2 ⟨rfl, hw2⟩
    rw [hw2]
    clear hw2 w2
    have HW : Hid (Lib.splitK [32] 0 (N - 1) s = ds ++ [r]) := by
     show _ = _
     rw [← HS.out]
     congr 1
     rw [show N - 1 - ds.length = (N - 1 - ds.length - 1) + 1 by omega]
     unfold Lib.splitK
     rw [index_blank, hi]
     rfl
    clear hi hbl HS
    have f0 := hrow.frozenAt ds.length
    have c0 : wr.cell? ⟨w.heap.size, ds.length, none⟩ = some (.string ⟨#[]⟩) := by
     rw [hrow.cellAt ds.length (by omega)]; exact pieces_next (by omega)
    have hst := (hrow.stored ds.length (.string ⟨r.toArray⟩)).1
    rw [pieces_set (by omega)] at hst
    have g6 := grow_set hgr (a := ⟨w.heap.size, ds.length, none⟩) (Nat.le_refl _) (.string ⟨r.toArray⟩)
    have HR6 : Hid _ := hst
    have HG6 : Hid _ := g6
    have hdN : (ds.length : Int) + 1 ≤ (N : Int) := by omega
    have cs := cell_set
    clear hst g6 hrow hgr
    go_wp2_with fail
    go_ret
    have h6 : (wr.setCell ⟨w.heap.size, ds.length, none⟩ (.string ⟨r.toArray⟩)).ownsRow w.heap.size 9 1 (.slice (some ⟨w.heap.size, 0, none⟩) N N) N (pieces (ds ++ [r]) N) := HR6.out
    have hln : (ds ++ [r]).length = ds.length + 1 := by simp
    refine ⟨⟨ds ++ [r], w.heap.size, N, by rw [← HW.out]; exact HPA.out, by rw [hln]; rfl, by rw [hln]; omega, fun j hj => ?_⟩, HG6.out⟩
    rw [h6.cellAt j (by omega)]
    exact pieces_at hj
   ·rw [hi]
    rintro e w2 ⟨rfl, hw2⟩
    rw [hw2]
    clear hw2 w2
    have hil : i < r.length := by
     have := congrArg List.length hcut
     simp at this
     omega
    have e1 : (ByteArray.mk r.toArray).extract 0 i = ByteArray.mk (r.take i).toArray := by rw [cut_bytes]; simp
    have e2 : (ByteArray.mk r.toArray).extract (i + 1) r.length = ByteArray.mk (r.drop (i + 1)).toArray := by rw [cut_bytes, List.take_of_length_le (by simp)]
    have HS2 : Hid ((ds ++ [r.take i]) ++ Lib.splitK [32] 0 (N - 1 - (ds ++ [r.take i]).length) (r.drop (i + 1)) = Lib.splitK [32] 0 (N - 1) s) := by
     show _ = _
     rw [← HS.out, List.append_assoc]
     congr 1
     conv => rhs; rw [show N - 1 - ds.length = (N - 1 - (ds ++ [r.take i]).length) + 1 by simp; omega]; unfold Lib.splitK
     rw [index_blank, hi, if_neg (by simp)]
     simp
    have dn : ¬ ((i : Int) < 0) := by omega
    have f0 := hrow.frozenAt ds.length
    have c0 : wr.cell? ⟨w.heap.size, ds.length, none⟩ = some (.string ⟨#[]⟩) := by
     rw [hrow.cellAt ds.length (by omega)]; exact pieces_next (by omega)
    have hst := (hrow.stored ds.length (.string ⟨(r.take i).toArray⟩)).1
    rw [pieces_set (by omega)] at hst
    have g6 := grow_set hgr (a := ⟨w.heap.size, ds.length, none⟩) (Nat.le_refl _) (.string ⟨(r.take i).toArray⟩)
    have cs := cell_set
    have HR6 : Hid _ := hst
    have HG6 : Hid _ := g6
    have HIL : Hid _ := hil
    clear hi hbl HS hcut hst g6 hrow hgr
    go_wp2_with fail
    go_roundw
    case rel => exact ⟨ds ++ [r.take i], r.drop (i + 1), rfl, by first | rfl | go_num | (simp; done), by first | omega | (simp; done) | (simp; omega), by first | omega | (simp; done) | (simp; omega), HS2, HR6.out, HG6.out⟩
    case measure => simp [intOf]; omega
  ·have hltz : ¬ ((ds.length : Int) < (N : Int) - 1) := by omega
   have HW : Hid (Lib.splitK [32] 0 (N - 1) s = ds ++ [r]) := by
    show _ = _
    rw [← HS.out, show N - 1 - ds.length = 0 by omega]
    rfl
   clear HS
   have f0 := hrow.frozenAt ds.length
   have c0 : wr.cell? ⟨w.heap.size, ds.length, none⟩ = some (.string ⟨#[]⟩) := by
    rw [hrow.cellAt ds.length (by omega)]; exact pieces_next (by omega)
   have hst := (hrow.stored ds.length (.string ⟨r.toArray⟩)).1
   rw [pieces_set (by omega)] at hst
   have g6 := grow_set hgr (a := ⟨w.heap.size, ds.length, none⟩) (Nat.le_refl _) (.string ⟨r.toArray⟩)
   have HR6 : Hid _ := hst
   have HG6 : Hid _ := g6
   have hdN : (ds.length : Int) + 1 ≤ (N : Int) := by omega
   have cs := cell_set
   clear hst g6 hrow hgr
   go_wp2_with fail
   go_ret
   have h6 : (wr.setCell ⟨w.heap.size, ds.length, none⟩ (.string ⟨r.toArray⟩)).ownsRow w.heap.size 9 1 (.slice (some ⟨w.heap.size, 0, none⟩) N N) N (pieces (ds ++ [r]) N) := HR6.out
   have hln : (ds ++ [r]).length = ds.length + 1 := by simp
   refine ⟨⟨ds ++ [r], w.heap.size, N, by rw [← HW.out]; exact HPA.out, by rw [hln]; rfl, by rw [hln]; omega, fun j hj => ?_⟩, HG6.out⟩
   rw [h6.cellAt j (by omega)]
   exact pieces_at hj
set_option maxHeartbeats 1000000 in
theorem tsplit_any (IX : IndexOneC) (s : List UInt8) (w : World) (hs : s.length ≤ 140737488355328) :
  Calls Tryd.prog 13 #[.string ⟨s.toArray⟩, .string ⟨#[32]⟩, .int .i64 4] w fun r w' => SplitQ s r w' ∧ Grow w w' := by
 go_enter Tryd.func13, Tryd.ntmps13
 go_wp2_with fail
 refine (tgen_any IX s w hs).mono ?_
 rintro r w1 ⟨⟨ws, g, c, hP, rfl, hc, hcell⟩, g1⟩
 go_wp2_with fail
 go_ret
 exact ⟨⟨ws, g, c, hP, rfl, hc, hcell⟩, g1⟩
theorem splitC_of (V : World → Prop) (IX : IndexOneC) : SplitC V := fun s w _ hs => (tsplit_any IX s w hs).mono fun _ _ ⟨⟨ws, g, c, h1, h2, h3, h4⟩, h5⟩ => ⟨ws, g, c, h1, h2, h3, h4, h5⟩
end Go.Proofs.YtgaecpdokgklpabDoor
