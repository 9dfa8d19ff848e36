/-
  What the program's parseWords reads of the words behind the first one.
  Condition: strconv's and strings' functions answer as they should (premises).
-/
import Derived.Test.YtgaecpdokgklpabDoorTNum
import Derived.Test.YtgaecpdokgklpabDoorTSplit
namespace Go.Proofs.YtgaecpdokgklpabDoor
set_option maxRecDepth 100000
open Go.RowKit
open Go.Proofs.YtgaecpdokgklpabDoor.Plain Go.Proofs.YtgaecpdokgklpabDoor.Reg

theorem tbytes_deed {w w2 : World} {g : Nat} {x0 x1 x2 : Int} {a : Option Addr} {n c : Nat} {T : TypeId} {v : Value} {l : List UInt8} (h : Bytes w v l) (hg : w.heap[g]? = some (.cells #[.int .i64 x0, .int .i64 x1, .int .i64 x2, .slice a n c] T (0, 0))) (hb : GrowBut g w w2) : Bytes w2 v l := by
 rcases h with h | ⟨b, off, cap, rfl, h1, hc⟩
 ·exact .inl h
 ·refine .inr ⟨b, off, cap, rfl, h1, fun i hi => ?_⟩
  have h2 := hc i hi
  by_cases e : b = g
  ·exfalso
   subst e
   rw [cell_of_row w b (off + i) _ T (0, 0) hg] at h2
   match hj : off + i, h2 with
   | 0, h2 => simp at h2
   | 1, h2 => simp at h2
   | 2, h2 => simp at h2
   | 3, h2 => simp at h2
   | j + 4, h2 => simp at h2
  ·exact (hb.cell (cell_lt h2) e).trans h2
theorem tbytes_none (w : World) : Bytes w (.slice none 0 0) [] := .inl ⟨none, 0, rfl, rfl, fun _ => rfl⟩

/-- What the words behind the first one say. -/
def readW (K : Int) : List (List UInt8) → Option Dd
 | [a] => if K = 2 then (match numW a with | some k => some ⟨2, k, 0, []⟩ | none => none) else none
 | [a, b] => if K = 1 then (match numW a, dataR b with | some k, some l => some ⟨1, k, 0, l⟩ | _, _ => none) else if K = 3 then (match numW a, numW b with | some k, some n => some ⟨3, k, n, []⟩ | _, _ => none) else none
 | _ => none
/-- A deed, and whether there is one. -/
def WordQ (o : Option Dd) (v : Value) (w : World) : Prop := match o with
 | some d => ∃ a c, v = .tuple #[.agg #[.int .i64 d.kind, .int .i64 d.key, .int .i64 d.num, .slice a d.data.length c], .bool true] ∧ Bytes w (.slice a d.data.length c) d.data
 | none => ∃ x0 x1 x2 : Int, v = .tuple #[.agg #[.int .i64 x0, .int .i64 x1, .int .i64 x2, .slice none 0 0], .bool false]

theorem tw_zero (w : World) (K : Int) : ((w.alloc (.cells #[.int .i64 0, .int .i64 0, .int .i64 0, .slice none 0 0] 24)).alloc (.cells #[.int .i64 K, .int .i64 0, .int .i64 0, .slice none 0 0] 24)).heap[w.heap.size]? = some (.cells #[.int .i64 0, .int .i64 0, .int .i64 0, .slice none 0 0] 24 (0, 0)) := ((grow_alloc _ _).block _ (by simp)).trans (heap_new w _ _)
theorem tw_deed (w : World) (K : Int) : ((w.alloc (.cells #[.int .i64 0, .int .i64 0, .int .i64 0, .slice none 0 0] 24)).alloc (.cells #[.int .i64 K, .int .i64 0, .int .i64 0, .slice none 0 0] 24)).heap[w.heap.size + 1]? = some (.cells #[.int .i64 K, .int .i64 0, .int .i64 0, .slice none 0 0] 24 (0, 0)) := by
 have h := heap_new (w.alloc (.cells #[.int .i64 0, .int .i64 0, .int .i64 0, .slice none 0 0] 24)) #[.int .i64 K, .int .i64 0, .int .i64 0, .slice none 0 0] 24
 simpa using h

theorem tnum_some (V : World → Prop) (hV : ∀ w w', V w → Grow w w' → V w') (IT : ItoaC V) (AT : AtoiC V) (s : List UInt8) (w : World) (hw : V w) (hs : s.length ≤ 140737488355328) (n : Int) (hn : numW s = some n) :
  Calls Tryd.prog 23 #[.string ⟨s.toArray⟩] w fun r w' => r = .returned (.tuple #[.int .i64 n, .bool true]) ∧ Grow w w' := by
 have h := tnum_any V hV IT AT s w hw hs
 rw [hn] at h; exact h
theorem tnum_none (V : World → Prop) (hV : ∀ w w', V w → Grow w w' → V w') (IT : ItoaC V) (AT : AtoiC V) (s : List UInt8) (w : World) (hw : V w) (hs : s.length ≤ 140737488355328) (hn : numW s = none) :
  Calls Tryd.prog 23 #[.string ⟨s.toArray⟩] w fun r w' => r = .returned (.tuple #[.int .i64 0, .bool false]) ∧ Grow w w' := by
 have h := tnum_any V hV IT AT s w hw hs
 rw [hn] at h; exact h

set_option maxHeartbeats 4000000 in
theorem twords_del (V : World → Prop) (hV : ∀ w w', V w → Grow w w' → V w') (IT : ItoaC V) (AT : AtoiC V) (a : List UInt8) (g o c : Nat) (w : World) (hw : V w) (ha : a.length ≤ 140737488355328) (hca : w.cell? ⟨g, o, none⟩ = some (.string ⟨a.toArray⟩)) :
  Calls Tryd.prog 15 #[.int .i64 2, .slice (some ⟨g, o, none⟩) 1 c] w fun r w' => ∃ v, r = .returned v ∧ WordQ (readW 2 [a]) v w' ∧ Grow w w' := by
 obtain ⟨O, hO⟩ : ∃ O, O = readW 2 [a] := ⟨_, rfl⟩
 rw [← hO]
 have HO : Hid _ := hO
 clear hO
 have g0 := grow_alloc2 w (.cells #[.int .i64 0, .int .i64 0, .int .i64 0, .slice none 0 0] 24) (.cells #[.int .i64 2, .int .i64 0, .int .i64 0, .slice none 0 0] 24)
 have hZ0 := tw_zero w 2
 have hD0 := tw_deed w 2
 have hca2 := (Below.cell g0 (cell_lt hca)).trans hca
 clear hca
 go_enter Tryd.func15, Tryd.ntmps15
 go_wp2_with fail
 cases hn : numW a with
 | none =>
  obtain rfl : O = none := by rw [HO.out]; simp [readW, hn]
  refine (tnum_none V hV IT AT a _ (hV _ _ hw g0) ha hn).mono ?_
  clear hn HO
  rintro r w1 ⟨rfl, g1⟩
  have hZ1 := (g1.block _ (heap_lt hZ0)).trans hZ0
  have hD1 := (g1.block _ (heap_lt hD0)).trans hD0
  have q1 := box_cell hD1 1 _ rfl
  have f1 := box_frozen hD1 1
  have k2 := (GrowBut.refl (w.heap.size + 1) w1).set 1 none (.int .i64 0)
  have hZE := (k2.block _ (heap_lt hZ1) (by omega)).trans hZ1
  have gw2 := k2.grow (g0.trans g1) (by omega)
  obtain ⟨hp1, hp2⟩ := box_put hZE (.int .i64 0) (.int .i64 0) (.int .i64 0) (.slice none 0 0)
  have gE := hp2.grow gw2 (Nat.le_refl _)
  obtain ⟨z0, z1, z2, z3⟩ := box4 hZE rfl rfl rfl rfl
  obtain ⟨e0, e1, e2, e3⟩ := boxf4 hZE
  have cs := cell_set
  obtain ⟨x0, x1, x2, x3⟩ := box4 hp1 rfl rfl rfl rfl
  clear hZ0 hD0 hZ1 hD1 k2 hZE gw2 hp1 hp2 g0 g1 hca2
  go_wp2_with fail
  exact bodyPost_ret (v := .tuple #[.agg #[.int .i64 0, .int .i64 0, .int .i64 0, .slice none 0 0], .bool false]) (by simp [results, Tryd.results15, go_sem, x0, x1, x2, x3]) rfl ⟨_, rfl, ⟨_, _, _, rfl⟩, gE⟩
 | some k =>
  obtain rfl : O = some ⟨2, k, 0, []⟩ := by rw [HO.out]; simp [readW, hn]
  refine (tnum_some V hV IT AT a _ (hV _ _ hw g0) ha k hn).mono ?_
  clear hn HO
  rintro r w1 ⟨rfl, g1⟩
  have hZ1 := (g1.block _ (heap_lt hZ0)).trans hZ0
  have hD1 := (g1.block _ (heap_lt hD0)).trans hD0
  have q1 := box_cell hD1 1 _ rfl
  have f1 := box_frozen hD1 1
  have k2 := (GrowBut.refl (w.heap.size + 1) w1).set 1 none (.int .i64 k)
  have hZE := (k2.block _ (heap_lt hZ1) (by omega)).trans hZ1
  have hDE := heap_set hD1 1 (.int .i64 k)
  have gw2 := k2.grow (g0.trans g1) (by omega)
  obtain ⟨hp1, hp2⟩ := box_put hZE (.int .i64 2) (.int .i64 k) (.int .i64 0) (.slice none 0 0)
  have gE := hp2.grow gw2 (Nat.le_refl _)
  obtain ⟨z0, z1, z2, z3⟩ := box4 hZE rfl rfl rfl rfl
  obtain ⟨e0, e1, e2, e3⟩ := boxf4 hZE
  have cs := cell_set
  obtain ⟨x0, x1, x2, x3⟩ := box4 hp1 rfl rfl rfl rfl
  obtain ⟨y0, y1, y2, y3⟩ := box4 hDE rfl rfl rfl rfl
  clear hZ0 hD0 hZ1 hD1 k2 hZE hDE gw2 hp1 hp2 g0 g1 hca2
  go_wp2_with fail
  exact bodyPost_ret (v := .tuple #[.agg #[.int .i64 2, .int .i64 k, .int .i64 0, .slice none 0 0], .bool true]) (by simp [results, Tryd.results15, go_sem, x0, x1, x2, x3]) rfl ⟨_, rfl, ⟨none, 0, rfl, tbytes_none _⟩, gE⟩
set_option maxHeartbeats 4000000 in
theorem twords_purge (V : World → Prop) (hV : ∀ w w', V w → Grow w w' → V w') (IT : ItoaC V) (AT : AtoiC V) (a b : List UInt8) (g o c : Nat) (w : World) (hw : V w) (ha : a.length ≤ 140737488355328) (hb : b.length ≤ 140737488355328) (hca : w.cell? ⟨g, o, none⟩ = some (.string ⟨a.toArray⟩)) (hcb : w.cell? ⟨g, o + 1, none⟩ = some (.string ⟨b.toArray⟩)) :
  Calls Tryd.prog 15 #[.int .i64 3, .slice (some ⟨g, o, none⟩) 2 c] w fun r w' => ∃ v, r = .returned v ∧ WordQ (readW 3 [a, b]) v w' ∧ Grow w w' := by
 obtain ⟨O, hO⟩ : ∃ O, O = readW 3 [a, b] := ⟨_, rfl⟩
 rw [← hO]
 have HO : Hid _ := hO
 clear hO
 have g0 := grow_alloc2 w (.cells #[.int .i64 0, .int .i64 0, .int .i64 0, .slice none 0 0] 24) (.cells #[.int .i64 3, .int .i64 0, .int .i64 0, .slice none 0 0] 24)
 have hZ0 := tw_zero w 3
 have hD0 := tw_deed w 3
 have hca2 := (Below.cell g0 (cell_lt hca)).trans hca
 clear hca
 go_enter Tryd.func15, Tryd.ntmps15
 go_wp2_with fail
 cases hn : numW a with
 | none =>
  obtain rfl : O = none := by rw [HO.out]; simp [readW, hn]
  refine (tnum_none V hV IT AT a _ (hV _ _ hw g0) ha hn).mono ?_
  clear hn HO
  rintro r w1 ⟨rfl, g1⟩
  have hZ1 := (g1.block _ (heap_lt hZ0)).trans hZ0
  have hD1 := (g1.block _ (heap_lt hD0)).trans hD0
  have q1 := box_cell hD1 1 _ rfl
  have f1 := box_frozen hD1 1
  have k2 := (GrowBut.refl (w.heap.size + 1) w1).set 1 none (.int .i64 0)
  have hZE := (k2.block _ (heap_lt hZ1) (by omega)).trans hZ1
  have gw2 := k2.grow (g0.trans g1) (by omega)
  obtain ⟨hp1, hp2⟩ := box_put hZE (.int .i64 0) (.int .i64 0) (.int .i64 0) (.slice none 0 0)
  have gE := hp2.grow gw2 (Nat.le_refl _)
  obtain ⟨z0, z1, z2, z3⟩ := box4 hZE rfl rfl rfl rfl
  obtain ⟨e0, e1, e2, e3⟩ := boxf4 hZE
  have cs := cell_set
  obtain ⟨x0, x1, x2, x3⟩ := box4 hp1 rfl rfl rfl rfl
  clear hZ0 hD0 hZ1 hD1 k2 hZE gw2 hp1 hp2 g0 g1 hca2
  go_wp2_with fail
  exact bodyPost_ret (v := .tuple #[.agg #[.int .i64 0, .int .i64 0, .int .i64 0, .slice none 0 0], .bool false]) (by simp [results, Tryd.results15, go_sem, x0, x1, x2, x3]) rfl ⟨_, rfl, ⟨_, _, _, rfl⟩, gE⟩
 | some k =>
  refine (tnum_some V hV IT AT a _ (hV _ _ hw g0) ha k hn).mono ?_
  have HN : Hid _ := hn
  clear hn
  rintro r w1 ⟨rfl, g1⟩
  have hZ1 := (g1.block _ (heap_lt hZ0)).trans hZ0
  have hD1 := (g1.block _ (heap_lt hD0)).trans hD0
  have q1 := box_cell hD1 1 _ rfl
  have f1 := box_frozen hD1 1
  have k2 := (GrowBut.refl (w.heap.size + 1) w1).set 1 none (.int .i64 k)
  have hZ2 := (k2.block _ (heap_lt hZ1) (by omega)).trans hZ1
  have hD2 := heap_set hD1 1 (.int .i64 k)
  have gw2 := k2.grow (g0.trans g1) (by omega)
  have hcb2 := (Below.cell gw2 (cell_lt hcb)).trans hcb
  clear hZ0 hD0 hZ1 hD1 k2 g0 g1 hca2 hcb
  go_wp2_with fail
  clear q1 f1 hcb2
  generalize World.setCell w1 _ _ = w2 at *
  cases hm : numW b with
  | none =>
   obtain rfl : O = none := by rw [HO.out]; simp [readW, HN.out, hm]
   refine (tnum_none V hV IT AT b _ (hV _ _ hw gw2) hb hm).mono ?_
   clear hm HO
   rintro r w3 ⟨rfl, g3⟩
   have hZ3 := (g3.block _ (heap_lt hZ2)).trans hZ2
   have hD3 := (g3.block _ (heap_lt hD2)).trans hD2
   have gw3 := gw2.trans g3
   have q2 := box_cell hD3 2 _ rfl
   have f2 := box_frozen hD3 2
   have k4 := (GrowBut.refl (w.heap.size + 1) w3).set 2 none (.int .i64 0)
   have hZE := (k4.block _ (heap_lt hZ3) (by omega)).trans hZ3
   have hDE := heap_set hD3 2 (.int .i64 0)
   obtain ⟨hp1, hp2⟩ := box_put hZE (.int .i64 3) (.int .i64 k) (.int .i64 0) (.slice none 0 0)
   have gE := hp2.grow (k4.grow gw3 (by omega)) (Nat.le_refl _)
   obtain ⟨z0, z1, z2, z3⟩ := box4 hZE rfl rfl rfl rfl
   obtain ⟨e0, e1, e2, e3⟩ := boxf4 hZE
   have cs := cell_set
   obtain ⟨x0, x1, x2, x3⟩ := box4 hp1 rfl rfl rfl rfl
   obtain ⟨y0, y1, y2, y3⟩ := box4 hDE rfl rfl rfl rfl
   clear hZ2 hD2 hZ3 hD3 k4 hZE hDE gw2 gw3 hp1 hp2 g3
   go_wp2_with fail
   exact bodyPost_ret (v := .tuple #[.agg #[.int .i64 3, .int .i64 k, .int .i64 0, .slice none 0 0], .bool false]) (by simp [results, Tryd.results15, go_sem, x0, x1, x2, x3]) rfl ⟨_, rfl, ⟨_, _, _, rfl⟩, gE⟩
  | some n =>
   obtain rfl : O = some ⟨3, k, n, []⟩ := by rw [HO.out]; simp [readW, HN.out, hm]
   refine (tnum_some V hV IT AT b _ (hV _ _ hw gw2) hb n hm).mono ?_
   clear hm HO
   rintro r w3 ⟨rfl, g3⟩
   have hZ3 := (g3.block _ (heap_lt hZ2)).trans hZ2
   have hD3 := (g3.block _ (heap_lt hD2)).trans hD2
   have gw3 := gw2.trans g3
   have q2 := box_cell hD3 2 _ rfl
   have f2 := box_frozen hD3 2
   have k4 := (GrowBut.refl (w.heap.size + 1) w3).set 2 none (.int .i64 n)
   have hZE := (k4.block _ (heap_lt hZ3) (by omega)).trans hZ3
   have hDE := heap_set hD3 2 (.int .i64 n)
   obtain ⟨hp1, hp2⟩ := box_put hZE (.int .i64 3) (.int .i64 k) (.int .i64 n) (.slice none 0 0)
   have gE := hp2.grow (k4.grow gw3 (by omega)) (Nat.le_refl _)
   obtain ⟨z0, z1, z2, z3⟩ := box4 hZE rfl rfl rfl rfl
   obtain ⟨e0, e1, e2, e3⟩ := boxf4 hZE
   have cs := cell_set
   obtain ⟨x0, x1, x2, x3⟩ := box4 hp1 rfl rfl rfl rfl
   obtain ⟨y0, y1, y2, y3⟩ := box4 hDE rfl rfl rfl rfl
   clear hZ2 hD2 hZ3 hD3 k4 hZE hDE gw2 gw3 hp1 hp2 g3
   go_wp2_with fail
   exact bodyPost_ret (v := .tuple #[.agg #[.int .i64 3, .int .i64 k, .int .i64 n, .slice none 0 0], .bool true]) (by simp [results, Tryd.results15, go_sem, x0, x1, x2, x3]) rfl ⟨_, rfl, ⟨none, 0, rfl, tbytes_none _⟩, gE⟩
set_option maxHeartbeats 4000000 in
theorem twords_put (V : World → Prop) (hV : ∀ w w', V w → Grow w w' → V w') (IT : ItoaC V) (AT : AtoiC V) (IX : IndexC) (a b : List UInt8) (g o c : Nat) (w : World) (hw : V w) (ha : a.length ≤ 140737488355328) (hb : b.length ≤ 140737488355328) (hca : w.cell? ⟨g, o, none⟩ = some (.string ⟨a.toArray⟩)) (hcb : w.cell? ⟨g, o + 1, none⟩ = some (.string ⟨b.toArray⟩)) :
  Calls Tryd.prog 15 #[.int .i64 1, .slice (some ⟨g, o, none⟩) 2 c] w fun r w' => ∃ v, r = .returned v ∧ WordQ (readW 1 [a, b]) v w' ∧ Grow w w' := by
 obtain ⟨O, hO⟩ : ∃ O, O = readW 1 [a, b] := ⟨_, rfl⟩
 rw [← hO]
 have HO : Hid _ := hO
 clear hO
 have g0 := grow_alloc2 w (.cells #[.int .i64 0, .int .i64 0, .int .i64 0, .slice none 0 0] 24) (.cells #[.int .i64 1, .int .i64 0, .int .i64 0, .slice none 0 0] 24)
 have hZ0 := tw_zero w 1
 have hD0 := tw_deed w 1
 have hca2 := (Below.cell g0 (cell_lt hca)).trans hca
 clear hca
 go_enter Tryd.func15, Tryd.ntmps15
 go_wp2_with fail
 cases hn : numW a with
 | none =>
  obtain rfl : O = none := by rw [HO.out]; simp [readW, hn]
  refine (tnum_none V hV IT AT a _ (hV _ _ hw g0) ha hn).mono ?_
  clear hn HO
  rintro r w1 ⟨rfl, g1⟩
  have hZ1 := (g1.block _ (heap_lt hZ0)).trans hZ0
  have hD1 := (g1.block _ (heap_lt hD0)).trans hD0
  have q1 := box_cell hD1 1 _ rfl
  have f1 := box_frozen hD1 1
  have k2 := (GrowBut.refl (w.heap.size + 1) w1).set 1 none (.int .i64 0)
  have hZE := (k2.block _ (heap_lt hZ1) (by omega)).trans hZ1
  have gw2 := k2.grow (g0.trans g1) (by omega)
  obtain ⟨hp1, hp2⟩ := box_put hZE (.int .i64 0) (.int .i64 0) (.int .i64 0) (.slice none 0 0)
  have gE := hp2.grow gw2 (Nat.le_refl _)
  obtain ⟨z0, z1, z2, z3⟩ := box4 hZE rfl rfl rfl rfl
  obtain ⟨e0, e1, e2, e3⟩ := boxf4 hZE
  have cs := cell_set
  obtain ⟨x0, x1, x2, x3⟩ := box4 hp1 rfl rfl rfl rfl
  clear hZ0 hD0 hZ1 hD1 k2 hZE gw2 hp1 hp2 g0 g1 hca2
  go_wp2_with fail
  exact bodyPost_ret (v := .tuple #[.agg #[.int .i64 0, .int .i64 0, .int .i64 0, .slice none 0 0], .bool false]) (by simp [results, Tryd.results15, go_sem, x0, x1, x2, x3]) rfl ⟨_, rfl, ⟨_, _, _, rfl⟩, gE⟩
 | some k =>
  refine (tnum_some V hV IT AT a _ (hV _ _ hw g0) ha k hn).mono ?_
  have HN : Hid _ := hn
  clear hn
  rintro r w1 ⟨rfl, g1⟩
  have hZ1 := (g1.block _ (heap_lt hZ0)).trans hZ0
  have hD1 := (g1.block _ (heap_lt hD0)).trans hD0
  have q1 := box_cell hD1 1 _ rfl
  have f1 := box_frozen hD1 1
  have k2 := (GrowBut.refl (w.heap.size + 1) w1).set 1 none (.int .i64 k)
  have hZ2 := (k2.block _ (heap_lt hZ1) (by omega)).trans hZ1
  have hD2 := heap_set hD1 1 (.int .i64 k)
  have gw2 := k2.grow (g0.trans g1) (by omega)
  have hcb2 := (Below.cell gw2 (cell_lt hcb)).trans hcb
  clear hZ0 hD0 hZ1 hD1 k2 g0 g1 hca2 hcb
  go_wp2_with fail
  clear q1 f1 hcb2
  generalize World.setCell w1 _ _ = w2 at *
  refine (tpdata_any IX b _ hb).mono ?_
  cases hm : dataR b with
  | none =>
   obtain rfl : O = none := by rw [HO.out]; simp [readW, HN.out, hm]
   clear hm HO
   rintro r w3 ⟨rfl, g3⟩
   have hZ3 := (g3.block _ (heap_lt hZ2)).trans hZ2
   have hD3 := (g3.block _ (heap_lt hD2)).trans hD2
   have gw3 := gw2.trans g3
   have q2 := box_cell hD3 3 _ rfl
   have f2 := box_frozen hD3 3
   have k4 := (GrowBut.refl (w.heap.size + 1) w3).set 3 none (.slice none 0 0)
   have hZE := (k4.block _ (heap_lt hZ3) (by omega)).trans hZ3
   have hDE := heap_set hD3 3 (.slice none 0 0)
   obtain ⟨hp1, hp2⟩ := box_put hZE (.int .i64 1) (.int .i64 k) (.int .i64 0) (.slice none 0 0)
   have gE := hp2.grow (k4.grow gw3 (by omega)) (Nat.le_refl _)
   obtain ⟨z0, z1, z2, z3⟩ := box4 hZE rfl rfl rfl rfl
   obtain ⟨e0, e1, e2, e3⟩ := boxf4 hZE
   have cs := cell_set
   obtain ⟨x0, x1, x2, x3⟩ := box4 hp1 rfl rfl rfl rfl
   obtain ⟨y0, y1, y2, y3⟩ := box4 hDE rfl rfl rfl rfl
   clear hZ2 hD2 hZ3 hD3 k4 hZE hDE gw2 gw3 hp1 hp2 g3
   go_wp2_with fail
   exact bodyPost_ret (v := .tuple #[.agg #[.int .i64 1, .int .i64 k, .int .i64 0, .slice none 0 0], .bool false]) (by simp [results, Tryd.results15, go_sem, x0, x1, x2, x3]) rfl ⟨_, rfl, ⟨_, _, _, rfl⟩, gE⟩
  | some l =>
   obtain rfl : O = some ⟨1, k, 0, l⟩ := by rw [HO.out]; simp [readW, HN.out, hm]
   clear hm HO
   rintro r w3 ⟨⟨u, rfl, hbu⟩, g3⟩
   obtain ⟨ao, cap, rfl, -, -⟩ := bytes_src hbu
   have hZ3 := (g3.block _ (heap_lt hZ2)).trans hZ2
   have hD3 := (g3.block _ (heap_lt hD2)).trans hD2
   have gw3 := gw2.trans g3
   have q2 := box_cell hD3 3 _ rfl
   have f2 := box_frozen hD3 3
   have k4 := (GrowBut.refl (w.heap.size + 1) w3).set 3 none (.slice ao l.length cap)
   have hZE := (k4.block _ (heap_lt hZ3) (by omega)).trans hZ3
   have hDE := heap_set hD3 3 (.slice ao l.length cap)
   have hb4 := tbytes_deed hbu hD3 k4
   obtain ⟨hp1, hp2⟩ := box_put hZE (.int .i64 1) (.int .i64 k) (.int .i64 0) (.slice ao l.length cap)
   have hb5 := tbytes_deed hb4 hZE hp2
   have gE := hp2.grow (k4.grow gw3 (by omega)) (Nat.le_refl _)
   clear hbu hb4
   obtain ⟨z0, z1, z2, z3⟩ := box4 hZE rfl rfl rfl rfl
   obtain ⟨e0, e1, e2, e3⟩ := boxf4 hZE
   have cs := cell_set
   obtain ⟨x0, x1, x2, x3⟩ := box4 hp1 rfl rfl rfl rfl
   obtain ⟨y0, y1, y2, y3⟩ := box4 hDE rfl rfl rfl rfl
   clear hZ2 hD2 hZ3 hD3 k4 hZE hDE gw2 gw3 hp1 hp2 g3
   go_wp2_with fail
   exact bodyPost_ret (v := .tuple #[.agg #[.int .i64 1, .int .i64 k, .int .i64 0, .slice ao l.length cap], .bool true]) (by simp [results, Tryd.results15, go_sem, x0, x1, x2, x3]) rfl ⟨_, rfl, ⟨ao, cap, rfl, hb5⟩, gE⟩
end Go.Proofs.YtgaecpdokgklpabDoor
