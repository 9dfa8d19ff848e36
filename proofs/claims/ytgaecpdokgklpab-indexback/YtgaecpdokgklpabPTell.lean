/-
  What the program's pair.Look tells of a pair.
  Condition: the disk lies in memory, as the document has disks.
-/
import Derived.Test.YtgaecpdokgklpabPRead
import Derived.Test.YtgaecpdokgklpabPHow
import Derived.Test.YtgaecpdokgklpabPEach
namespace Go.Proofs.Ytgaecpdokgklpab
set_option maxRecDepth 100000
open Go.RowKit
open Go.Proofs.Ytgaecpdokgklpab.Plain Go.Proofs.Ytgaecpdokgklpab.Reg

/-- Look's variables but its answer's: the disk, how many blocks are spoilt, what is told. -/
structure LookG (w0 : World) (vd : Array Value) (s : Int) (rs : List Rec) (tv : Value) (us : List Value) (w : World) : Prop where
 grow : Grow w0 w
 disk : w.heap[w0.heap.size]? = some (.cells vd 25 (0, 0))
 told : w.heap[w0.heap.size + 1 + 1]? = some (.cells #[tv] 45 (0, 0))
 bad : w.heap[w0.heap.size + 1 + 1 + 1]? = some (.cells #[.int .i64 s] 3 (0, 0))
 rows : OwnRs (w0.heap.size + 1 + 1 + 1 + 1) tv rs us w
theorem LookG.on {w0 : World} {vd : Array Value} {s : Int} {rs : List Rec} {tv : Value} {us : List Value} {w w' : World} (h : LookG w0 vd s rs tv us w) (hg : Grow w w') : LookG w0 vd s rs tv us w' :=
 ⟨h.grow.trans hg, (hg.block _ (heap_lt h.disk)).trans h.disk, (hg.block _ (heap_lt h.told)).trans h.told, (hg.block _ (heap_lt h.bad)).trans h.bad, h.rows.grow hg⟩
theorem LookG.but {w0 : World} {vd : Array Value} {s : Int} {rs : List Rec} {tv : Value} {us : List Value} {w w' : World} (h : LookG w0 vd s rs tv us w) (hg : GrowBut (w0.heap.size + 1) w w') : LookG w0 vd s rs tv us w' :=
 ⟨hg.grow h.grow (by omega), (hg.block _ (heap_lt h.disk) (by omega)).trans h.disk, (hg.block _ (heap_lt h.told) (by omega)).trans h.told, (hg.block _ (heap_lt h.bad) (by omega)).trans h.bad, h.rows.other hg (by omega)⟩
def zeroRr : Obj := .cells #[.int .i64 0, .int .i64 0, .int .i64 0, .slice none 0 0] 33 (0, 0)
/-- All of them. -/
def LookV (w0 : World) (vd : Array Value) (s : Int) (rs : List Rec) (w : World) : Prop := (∃ tv us, LookG w0 vd s rs tv us w) ∧ w.heap[w0.heap.size + 1]? = some zeroRr
theorem LookV.on {w0 : World} {vd : Array Value} {s : Int} {rs : List Rec} {w w' : World} (h : LookV w0 vd s rs w) (hg : Grow w w') : LookV w0 vd s rs w' := by
 obtain ⟨⟨tv, us, h1⟩, h2⟩ := h
 exact ⟨⟨tv, us, h1.on hg⟩, (hg.block _ (heap_lt h2)).trans h2⟩
/-- One less is spoilt. -/
theorem LookG.less {w0 : World} {vd : Array Value} {s : Int} {rs : List Rec} {tv : Value} {us : List Value} {w : World} (h : LookG w0 vd s rs tv us w) (s' : Int) : LookG w0 vd s' rs tv us (w.setCell ⟨w0.heap.size + 1 + 1 + 1, 0, none⟩ (.int .i64 s')) := by
 have hg : GrowBut (w0.heap.size + 1 + 1 + 1) w (w.setCell ⟨w0.heap.size + 1 + 1 + 1, 0, none⟩ (.int .i64 s')) := (GrowBut.refl _ _).set _ _ _
 refine ⟨hg.grow h.grow (by omega), (hg.block _ (heap_lt h.disk) (by omega)).trans h.disk, (hg.block _ (heap_lt h.told) (by omega)).trans h.told, ?_, h.rows.other hg (by omega)⟩
 have := heap_set h.bad 0 (.int .i64 s')
 simpa using this
/-- One more is told. -/
theorem LookG.more {w0 : World} {vd : Array Value} {s : Int} {rs : List Rec} {tv v' u : Value} {us : List Value} {r : Rec} {w w3 : World} {o : Obj} (h : LookG w0 vd s rs tv us w) (hg : (w.alloc o).grownBy w3 tv.ownBlock)
  (hown : w3.ownsRow (w0.heap.size + 1 + 1 + 1 + 1) 33 4 v' (rs.length + 1) (flatR rs us ++ [.int .i64 r.kind, .int .i64 r.key, .int .i64 r.ver, u])) (hu : w.ownsRow (w0.heap.size + 1 + 1 + 1 + 1) 5 1 u r.data.length (r.data.map bv)) :
  LookG w0 vd s (rs ++ [r]) v' (us ++ [u]) (w3.setCell ⟨w0.heap.size + 1 + 1, 0, none⟩ v') := by
 have hsz := heap_lt h.bad
 have hB := grown_below (by omega) h.rows.row hg
 have hS : OwnRs _ v' (rs ++ [r]) (us ++ [u]) w3 := OwnRs.snoc h.rows.len hown (fun i hi => (h.rows.each i hi).imp fun _ x => ⟨x.1, own_grown h.rows.row hg (by decide) x.2⟩) (own_grown h.rows.row hg (by decide) hu)
 have g3 : Grow w0 w3 := grow_of_grown (h.grow.trans (grow_alloc _ _)) hg (fun k hk => by have := (h.rows.row.lt k hk).1; omega)
 have hb : GrowBut (w0.heap.size + 1 + 1) w3 (w3.setCell ⟨w0.heap.size + 1 + 1, 0, none⟩ v') := (GrowBut.refl _ _).set _ _ _
 have k1 := (hB.block _ (by omega)).trans h.disk
 have k2 := (hB.block _ (by omega)).trans h.told
 have k3 := (hB.block _ (by omega)).trans h.bad
 refine ⟨hb.grow g3 (by omega), (hb.block _ (heap_lt k1) (by omega)).trans k1, ?_, (hb.block _ (heap_lt k3) (by omega)).trans k3, hS.other hb (by omega)⟩
 have := heap_set k2 0 v'
 simpa using this
theorem LookG.keeps {w0 : World} {vd : Array Value} {s : Int} {rs : List Rec} {tv : Value} {us : List Value} {w w3 : World} {o : Obj} {x : Value} {o' : Obj} (h : LookG w0 vd s rs tv us w) (hg : (w.alloc o).grownBy w3 tv.ownBlock) (hz : w.heap[w0.heap.size + 1]? = some o') : (w3.setCell ⟨w0.heap.size + 1 + 1, 0, none⟩ x).heap[w0.heap.size + 1]? = some o' := by
 have hsz := heap_lt h.bad
 have hB := grown_below (by omega) h.rows.row hg
 have hb : GrowBut (w0.heap.size + 1 + 1) w3 (w3.setCell ⟨w0.heap.size + 1 + 1, 0, none⟩ x) := (GrowBut.refl _ _).set _ _ _
 have k1 := (hB.block _ (by omega)).trans hz
 exact (hb.block _ (heap_lt k1) (by omega)).trans k1

/-- What one block tells. -/
def tellL (d : Dk) (a : Int) : List Rec := if (sideR d a).kind = 1 then [] else [sideR d a]


set_option maxHeartbeats 4000000 in
theorem look1_bad (d : Dk) (pa s E : Int) (rs : List Rec) (r : Rec) (vb vl : Value) (w0 w : World) (hF : d.Fine 1000) (hd : DiskP d (.agg #[vb, vl]) w0) (h0 : 0 ≤ pa) (h1 : pa < 12) (HX : Hid (E = sideE d pa)) (HR : Hid (r = readR (sideB d pa) pa)) (hE : E ≠ 0) (hV : LookV w0 #[vb, vl] s rs w) :
  Calls Try.prog 70 #[.int .i64 pa, .pointer (some ⟨w0.heap.size, 0, none⟩), .pointer (some ⟨w0.heap.size + 1 + 1 + 1, 0, none⟩), .pointer (some ⟨w0.heap.size + 1 + 1, 0, none⟩)] w fun e w' => e = .returned (.int .i64 0) ∧ LookV w0 #[vb, vl] s rs w' := by
 obtain ⟨ab, cb, al, cl, hv, hb, hl⟩ := hd.form
 cases hv
 obtain ⟨⟨tv, us, hV⟩, hZ⟩ := hV
 have hdw : DiskP d (.agg #[.slice ab d.blocks.length cb, .slice al d.late.length cl]) w := st_diskp _ _ _ _ hV.grow hd
 have x0 := box_cell hV.disk 0 _ rfl
 have x1 := box_cell hV.disk 1 _ rfl
 have hB : w0.heap.size + 1 + 1 + 1 + 1 ≤ w.heap.size := heap_lt hV.bad
 have HC : Hid _ := hB
 clear hb hl hB
 go_enter Try.func70, Try.ntmps70
 go_wp2_with fail
 refine (pread_any d pa _ _ hF hdw h0 h1).mono ?_
 rw [← HX.out, ← HR.out]
 rintro e w1 ⟨dv, rfl, ho, g1⟩
 obtain ⟨a1, c1, rfl⟩ := own_slice ho
 have hV1 := hV.on g1
 have hZ1 := (g1.block _ (heap_lt hZ)).trans hZ
 have ho1 := own_mono ho (base' := w0.heap.size + 1 + 1 + 1 + 1) HC.out
 have g2 := grow_alloc w1 (.cells #[.int .i64 r.kind, .int .i64 r.key, .int .i64 r.ver, .slice a1 r.data.length c1] 33)
 have hR2 := heap_new w1 #[.int .i64 r.kind, .int .i64 r.key, .int .i64 r.ver, .slice a1 r.data.length c1] 33
 have hV2 := hV1.on g2
 have hZ2 := (g2.block _ (heap_lt hZ1)).trans hZ1
 have ho2 := own_grow ho1 g2
 have HSZ : Hid (w0.heap.size + 1 + 1 + 1 + 1 ≤ w1.heap.size) := Nat.le_trans HC.out g1.size
 have hne : w1.heap.size ≠ w0.heap.size + 1 + 1 + 1 := fun h => by have := heap_lt hV1.bad; omega
 clear x0 x1 hV hZ hdw ho ho1 hd g1 hV1 hZ1 g2
 have d0 : (E == 0) = false := beq_false' hE
 clear hne hR2 ho2 hE
 go_wp2_with fail
 go_ret
 exact ⟨rfl, ⟨_, _, hV2⟩, hZ2⟩

set_option maxHeartbeats 4000000 in
theorem look1_free (d : Dk) (pa s : Int) (rs : List Rec) (r : Rec) (vb vl : Value) (w0 w : World) (hF : d.Fine 1000) (hd : DiskP d (.agg #[vb, vl]) w0) (h0 : 0 ≤ pa) (h1 : pa < 12) (HX : Hid (0 = sideE d pa)) (HR : Hid (r = readR (sideB d pa) pa)) (hk : r.kind = 1) (hs0 : -5 ≤ s) (hs1 : s ≤ 5) (hV : LookV w0 #[vb, vl] s rs w) :
  Calls Try.prog 70 #[.int .i64 pa, .pointer (some ⟨w0.heap.size, 0, none⟩), .pointer (some ⟨w0.heap.size + 1 + 1 + 1, 0, none⟩), .pointer (some ⟨w0.heap.size + 1 + 1, 0, none⟩)] w fun e w' => e = .returned (.int .i64 0) ∧ LookV w0 #[vb, vl] (s - 1) rs w' := by
 obtain ⟨ab, cb, al, cl, hv, hb, hl⟩ := hd.form
 cases hv
 obtain ⟨⟨tv, us, hV⟩, hZ⟩ := hV
 have hdw : DiskP d (.agg #[.slice ab d.blocks.length cb, .slice al d.late.length cl]) w := st_diskp _ _ _ _ hV.grow hd
 have x0 := box_cell hV.disk 0 _ rfl
 have x1 := box_cell hV.disk 1 _ rfl
 have hB : w0.heap.size + 1 + 1 + 1 + 1 ≤ w.heap.size := heap_lt hV.bad
 have HC : Hid _ := hB
 clear hb hl hB
 go_enter Try.func70, Try.ntmps70
 go_wp2_with fail
 refine (pread_any d pa _ _ hF hdw h0 h1).mono ?_
 rw [← HX.out, ← HR.out]
 rintro e w1 ⟨dv, rfl, ho, g1⟩
 obtain ⟨a1, c1, rfl⟩ := own_slice ho
 have hV1 := hV.on g1
 have hZ1 := (g1.block _ (heap_lt hZ)).trans hZ
 have ho1 := own_mono ho (base' := w0.heap.size + 1 + 1 + 1 + 1) HC.out
 have g2 := grow_alloc w1 (.cells #[.int .i64 r.kind, .int .i64 r.key, .int .i64 r.ver, .slice a1 r.data.length c1] 33)
 have hR2 := heap_new w1 #[.int .i64 r.kind, .int .i64 r.key, .int .i64 r.ver, .slice a1 r.data.length c1] 33
 have hV2 := hV1.on g2
 have hZ2 := (g2.block _ (heap_lt hZ1)).trans hZ1
 have ho2 := own_grow ho1 g2
 have HSZ : Hid (w0.heap.size + 1 + 1 + 1 + 1 ≤ w1.heap.size) := Nat.le_trans HC.out g1.size
 have hne : w1.heap.size ≠ w0.heap.size + 1 + 1 + 1 := fun h => by have := heap_lt hV1.bad; omega
 clear x0 x1 hV hZ hdw ho ho1 hd g1 hV1 hZ1 g2
 have hV3 := hV2.less (s - 1)
 have hb3 : GrowBut (w0.heap.size + 1 + 1 + 1) (w1.alloc (.cells #[.int .i64 r.kind, .int .i64 r.key, .int .i64 r.ver, .slice a1 r.data.length c1] 33)) _ := (GrowBut.refl _ _).set 0 none (.int .i64 (s - 1))
 have hZ3 := (hb3.block _ (heap_lt hZ2) (by omega)).trans hZ2
 have hR3 := (hb3.block _ (heap_lt hR2) hne).trans hR2
 have ho3 := own_other hb3 (by omega) ho2
 have y0 := box_cell hV2.bad 0 _ rfl
 have f0 := box_frozen hV2.bad 0
 have z0 := box_cell hR3 0 _ rfl
 have d1 : (r.kind != 1) = false := by simp [hk]
 clear hk hne hb3 hR2 hR3 hV2 hZ2 ho2 ho3
 go_wp2_with fail
 go_ret
 exact ⟨rfl, ⟨_, _, hV3⟩, hZ3⟩

set_option maxHeartbeats 4000000 in
theorem look1_told (d : Dk) (pa s : Int) (rs : List Rec) (r : Rec) (vb vl : Value) (w0 w : World) (hF : d.Fine 1000) (hd : DiskP d (.agg #[vb, vl]) w0) (h0 : 0 ≤ pa) (h1 : pa < 12) (HX : Hid (0 = sideE d pa)) (HR : Hid (r = readR (sideB d pa) pa)) (hk : r.kind ≠ 1) (hs0 : -5 ≤ s) (hs1 : s ≤ 5) (hrs : rs.length ≤ 10) (hV : LookV w0 #[vb, vl] s rs w) :
  Calls Try.prog 70 #[.int .i64 pa, .pointer (some ⟨w0.heap.size, 0, none⟩), .pointer (some ⟨w0.heap.size + 1 + 1 + 1, 0, none⟩), .pointer (some ⟨w0.heap.size + 1 + 1, 0, none⟩)] w fun e w' => e = .returned (.int .i64 0) ∧ LookV w0 #[vb, vl] (s - 1) (rs ++ [r]) w' := by
 obtain ⟨i0, hif, hz0, hz1, hz2⟩ := info_parts info_rec
 obtain ⟨ab, cb, al, cl, hv, hb, hl⟩ := hd.form
 cases hv
 obtain ⟨⟨tv, us, hV⟩, hZ⟩ := hV
 have hdw : DiskP d (.agg #[.slice ab d.blocks.length cb, .slice al d.late.length cl]) w := st_diskp _ _ _ _ hV.grow hd
 have x0 := box_cell hV.disk 0 _ rfl
 have x1 := box_cell hV.disk 1 _ rfl
 have hB : w0.heap.size + 1 + 1 + 1 + 1 ≤ w.heap.size := heap_lt hV.bad
 have HC : Hid _ := hB
 clear hb hl hB
 go_enter Try.func70, Try.ntmps70
 go_wp2_with fail
 refine (pread_any d pa _ _ hF hdw h0 h1).mono ?_
 rw [← HX.out, ← HR.out]
 rintro e w1 ⟨dv, rfl, ho, g1⟩
 obtain ⟨a1, c1, rfl⟩ := own_slice ho
 have hV1 := hV.on g1
 have hZ1 := (g1.block _ (heap_lt hZ)).trans hZ
 have ho1 := own_mono ho (base' := w0.heap.size + 1 + 1 + 1 + 1) HC.out
 have g2 := grow_alloc w1 (.cells #[.int .i64 r.kind, .int .i64 r.key, .int .i64 r.ver, .slice a1 r.data.length c1] 33)
 have hR2 := heap_new w1 #[.int .i64 r.kind, .int .i64 r.key, .int .i64 r.ver, .slice a1 r.data.length c1] 33
 have hV2 := hV1.on g2
 have hZ2 := (g2.block _ (heap_lt hZ1)).trans hZ1
 have ho2 := own_grow ho1 g2
 have HSZ : Hid (w0.heap.size + 1 + 1 + 1 + 1 ≤ w1.heap.size) := Nat.le_trans HC.out g1.size
 have hne : w1.heap.size ≠ w0.heap.size + 1 + 1 + 1 := fun h => by have := heap_lt hV1.bad; omega
 clear x0 x1 hV hZ hdw ho ho1 hd g1 hV1 hZ1 g2
 have hV3 := hV2.less (s - 1)
 have hb3 : GrowBut (w0.heap.size + 1 + 1 + 1) (w1.alloc (.cells #[.int .i64 r.kind, .int .i64 r.key, .int .i64 r.ver, .slice a1 r.data.length c1] 33)) _ := (GrowBut.refl _ _).set 0 none (.int .i64 (s - 1))
 have hZ3 := (hb3.block _ (heap_lt hZ2) (by omega)).trans hZ2
 have hR3 := (hb3.block _ (heap_lt hR2) hne).trans hR2
 have ho3 := own_other hb3 (by omega) ho2
 have y0 := box_cell hV2.bad 0 _ rfl
 have f0 := box_frozen hV2.bad 0
 have z0 := box_cell hR3 0 _ rfl
 have d1 : (r.kind != 1) = true := by simp [hk]
 have z1 := box_cell hR3 1 _ rfl
 have z2 := box_cell hR3 2 _ rfl
 have z3 := box_cell hR3 3 _ rfl
 have t0 := box_cell hV3.told 0 _ rfl
 have HV : Hid _ := hV3
 obtain ⟨at_, ct, htv⟩ := hV3.rows.form
 subst htv
 have hrow := hV3.rows.row
 obtain ⟨W3, hW3⟩ : ∃ W3, W3 = World.setCell (w1.alloc (.cells #[.int .i64 r.kind, .int .i64 r.key, .int .i64 r.ver, .slice a1 r.data.length c1] 33)) ⟨w0.heap.size + 1 + 1 + 1, 0, none⟩ (.int .i64 (s - 1)) := ⟨_, rfl⟩
 have hnew : ∀ (j : Nat) u, [Value.int .i64 r.kind, .int .i64 r.key, .int .i64 r.ver, .slice a1 r.data.length c1][j]? = some u → (W3.alloc (.cells #[.int .i64 r.kind, .int .i64 r.key, .int .i64 r.ver, .slice a1 r.data.length c1] 33)).cell? ((⟨w1.heap.size + 1, 0, none⟩ : Addr).add j) = some u := by
  intro j u hj
  have h := news_four W3 _ _ _ _ 33 j u hj
  rw [show W3.heap.size = w1.heap.size + 1 from by rw [hW3]; simp] at h
  exact h
 rw [← hW3] at HV hrow hZ3 ho3
 have HW3 : Hid _ := hW3
 rw [hW3] at hnew hrow
 clear hW3
 clear hk hne hb3 hR2 hR3 hV2 hZ2 ho2 hV3
 go_wp2_with (first
  | (at_builtin; refine wpList_append_own _ rfl (.tmp 21) (.tmp 23) 45 rfl (w0.heap.size + 1 + 1 + 1 + 1) 33 i0 (.agg #[.int .i64 0, .int .i64 0, .int .i64 0, .slice none 0 0]) 4 48 Try.underlying45 hif hz0 hz1 hz2 rfl (by decide) (.slice at_ rs.length ct) rs.length (flatR rs us) rfl (hrow.alloc _) ⟨w1.heap.size + 1, 0, none⟩ 1 1 [.int .i64 r.kind, .int .i64 r.key, .int .i64 r.ver, .slice a1 r.data.length c1] rfl rfl hnew (by intro u hu; simp at hu; rcases hu with rfl | rfl | rfl | rfl <;> rfl) (by unfold maxLen; omega) (by omega) (by have := HSZ.out; simp; omega) ?_; intro v4 w4 hown4 hgrow4 _; rw [← HW3.out] at hgrow4; have hE := HV.out.more (r := r) hgrow4 hown4 ho3; have hZE := HV.out.keeps (x := v4) hgrow4 hZ3; have hB4 := grown_below (by have := heap_lt HV.out.bad; omega) HV.out.rows.row hgrow4; have ht4 := (hB4.block _ (by omega)).trans HV.out.told; have y4 := box_cell ht4 0 _ rfl; have f4 := box_frozen ht4 0; have hsl := own_slice2 hown4; obtain ⟨a4, c4, hv4⟩ := hsl; subst hv4; clear hgrow4 hown4 hrow hnew hB4 ht4 HV))
 go_ret
 exact ⟨rfl, ⟨_, _, hE⟩, hZE⟩

theorem look1_any (d : Dk) (pa s : Int) (rs : List Rec) (vb vl : Value) (w0 w : World) (hF : d.Fine 1000) (hd : DiskP d (.agg #[vb, vl]) w0) (h0 : 0 ≤ pa) (h1 : pa < 12) (hs0 : -5 ≤ s) (hs1 : s ≤ 5) (hrs : rs.length ≤ 10) (hV : LookV w0 #[vb, vl] s rs w) :
  Calls Try.prog 70 #[.int .i64 pa, .pointer (some ⟨w0.heap.size, 0, none⟩), .pointer (some ⟨w0.heap.size + 1 + 1 + 1, 0, none⟩), .pointer (some ⟨w0.heap.size + 1 + 1, 0, none⟩)] w fun e w' => e = .returned (.int .i64 0) ∧ LookV w0 #[vb, vl] (s - 1 + badN d pa) (rs ++ tellL d pa) w' := by
 by_cases hE : sideE d pa = 0
 ·have hS : sideR d pa = readR (sideB d pa) pa := by unfold sideR; rw [if_pos hE]
  have hB : s - 1 + badN d pa = s - 1 := by unfold badN; rw [if_pos hE]; omega
  rw [hB]
  by_cases hk : (readR (sideB d pa) pa).kind = 1
  ·have hT : rs ++ tellL d pa = rs := by unfold tellL; rw [hS, if_pos hk, List.append_nil]
   rw [hT]
   exact look1_free d pa s rs _ vb vl w0 w hF hd h0 h1 (show 0 = sideE d pa from hE.symm) (show _ = readR (sideB d pa) pa from rfl) hk hs0 hs1 hV
  ·have hT : tellL d pa = [readR (sideB d pa) pa] := by unfold tellL; rw [hS, if_neg hk]
   rw [hT]
   exact look1_told d pa s rs _ vb vl w0 w hF hd h0 h1 (show 0 = sideE d pa from hE.symm) (show _ = readR (sideB d pa) pa from rfl) hk hs0 hs1 hrs hV
 ·have hS : sideR d pa = Rec.free := by unfold sideR; rw [if_neg hE]
  have hB : s - 1 + badN d pa = s := by unfold badN; rw [if_neg hE]; omega
  have hT : rs ++ tellL d pa = rs := by unfold tellL; rw [hS, if_pos (show Rec.free.kind = 1 from rfl), List.append_nil]
  rw [hB, hT]
  exact look1_bad d pa s _ rs _ vb vl w0 w hF hd h0 h1 (show _ = sideE d pa from rfl) (show _ = readR (sideB d pa) pa from rfl) hE hV

/-- How many are spoilt, and what is told, behind so many blocks. -/
def sN (d : Dk) (p : Int) : Nat → Int
 | 0 => 2
 | n + 1 => sN d p n - 1 + badN d (p * 2 + (n : Int))
def rN (d : Dk) (p : Int) : Nat → List Rec
 | 0 => []
 | n + 1 => rN d p n ++ tellL d (p * 2 + (n : Int))
theorem sN_bd (d : Dk) (p : Int) : ∀ n : Nat, 2 - (n : Int) ≤ sN d p n ∧ sN d p n ≤ 2
 | 0 => by simp [sN]
 | n + 1 => by
  have ih := sN_bd d p n
  have := badN_bd d (p * 2 + (n : Int))
  simp only [sN]
  omega
theorem rN_bd (d : Dk) (p : Int) : ∀ n, (rN d p n).length ≤ n
 | 0 => by simp [rN]
 | n + 1 => by
  have ih := rN_bd d p n
  have : (tellL d (p * 2 + (n : Int))).length ≤ 1 := by unfold tellL; split <;> simp
  simp only [rN, List.length_append]
  omega
/-- Both told: how the pair is, and what it tells. -/
theorem look_ok (d : Dk) (p : Int) (hn : d.noPair p = false) : howN (rN d p 2) (sN d p 2) = d.how p ∧ (rN d p 2).headD Rec.free = d.tell p := by
 have e0 : p * 2 + ((0 : Nat) : Int) = 2 * p := by omega
 have e1 : p * 2 + ((1 : Nat) : Int) = 2 * p + 1 := by omega
 have hr : rN d p 2 = tellL d (2 * p) ++ tellL d (2 * p + 1) := by simp only [rN, e0, e1, List.nil_append]
 have hs : sN d p 2 = badN d (2 * p) + badN d (2 * p + 1) := by simp only [sN, e0, e1]; omega
 rw [hr, hs]
 unfold Dk.how Dk.tell firstR tellL
 rw [hn]
 by_cases k0 : (sideR d (2 * p)).kind = 1
 ·have s0 : someN d (2 * p) = 0 := by unfold someN; rw [if_pos k0]
  by_cases k1 : (sideR d (2 * p + 1)).kind = 1
  ·have s1 : someN d (2 * p + 1) = 0 := by unfold someN; rw [if_pos k1]
   rw [s0, s1]
   simp [k0, k1, howN]
  ·have s1 : someN d (2 * p + 1) = 1 := by unfold someN; rw [if_neg k1]
   rw [s0, s1]
   simp [k0, k1, howN]
 ·have s0 : someN d (2 * p) = 1 := by unfold someN; rw [if_neg k0]
  by_cases k1 : (sideR d (2 * p + 1)).kind = 1
  ·have s1 : someN d (2 * p + 1) = 0 := by unfold someN; rw [if_pos k1]
   rw [s0, s1]
   simp [k0, k1, howN]
  ·have s1 : someN d (2 * p + 1) = 1 := by unfold someN; rw [if_neg k1]
   rw [s0, s1]
   simp [k0, k1, howN]
theorem enters_look1 (args : Array Value) (w : World) : (callFunc 70 args).run Try.prog w = .ok (.enter 70 args) w := by
 simp [callFunc, Try.func70, Try.f70, mark]

theorem look_each (d : Dk) (p : Int) (vb vl : Value) (w0 w : World) (hF : d.Fine 1000) (hd : DiskP d (.agg #[vb, vl]) w0) (hV : LookV w0 #[vb, vl] 2 [] w) :
  Calls Try.prog 69 #[.int .i64 p, .func (.func 70) #[] #[.pointer (some ⟨w0.heap.size, 0, none⟩), .pointer (some ⟨w0.heap.size + 1 + 1 + 1, 0, none⟩), .pointer (some ⟨w0.heap.size + 1 + 1, 0, none⟩)]] w fun e w' => ∃ E s rs, e = .returned (.int .i64 E) ∧ LookV w0 #[vb, vl] s rs w' ∧ rs.length ≤ 2 ∧ howN rs s = d.how p ∧ rs.headD Rec.free = d.tell p := by
 have h12 := hF.len
 by_cases hout : p < 0 ∨ 6 ≤ p
 ·refine (each_out _ _ p w hout).mono ?_
  rintro e w' ⟨rfl, rfl⟩
  have hn : d.noPair p = true := by unfold Dk.noPair; exact decide_eq_true (by omega)
  have hh : d.how p = 4 := by unfold Dk.how; rw [if_pos hn]
  have ht : d.tell p = Rec.free := by unfold Dk.tell; rw [if_pos hn]
  exact ⟨3, 2, [], rfl, hV, by simp, by rw [hh]; rfl, by rw [ht]; rfl⟩
 ·have hn : d.noPair p = false := by unfold Dk.noPair; exact decide_eq_false (by omega)
  refine (each_any _ _ p w (by omega) (by omega) enters_look1 (fun n w' => LookV w0 #[vb, vl] (sN d p n) (rN d p n) w') (fun _ _ => False) hV ?_).mono ?_
  ·intro n w' hn2 hI
   have hs := sN_bd d p n
   have hr := rN_bd d p n
   refine (look1_any d (p * 2 + (n : Int)) _ _ vb vl w0 w' hF hd (by omega) (by omega) (by omega) (by omega) (by omega) hI).mono ?_
   rintro e w2 ⟨rfl, hV2⟩
   exact ⟨0, rfl, fun _ => hV2, fun h => absurd rfl h⟩
  ·rintro e w' ⟨E, rfl, hE0, hE1⟩
   by_cases hE : E = 0
   ·obtain ⟨k1, k2⟩ := look_ok d p hn
    exact ⟨E, _, _, rfl, hE0 hE, rN_bd d p 2, k1, k2⟩
   ·exact (hE1 hE).elim

theorem LookV.start (w : World) (vd : Array Value) : LookV w vd 2 [] ((((w.alloc (.cells vd 25)).alloc (.cells #[.int .i64 0, .int .i64 0, .int .i64 0, .slice none 0 0] 33)).alloc (.cells #[.slice none 0 0] 45)).alloc (.cells #[.int .i64 2] 3)) := by
 have g1 := grow_alloc w (.cells vd 25)
 have k1 := heap_new w vd 25
 have s1 := World.size_alloc w (.cells vd 25)
 generalize World.alloc w _ = w1 at *
 have g2 := grow_alloc w1 (.cells #[.int .i64 0, .int .i64 0, .int .i64 0, .slice none 0 0] 33)
 have k2 := heap_new w1 #[.int .i64 0, .int .i64 0, .int .i64 0, .slice none 0 0] 33
 have s2 := World.size_alloc w1 (.cells #[.int .i64 0, .int .i64 0, .int .i64 0, .slice none 0 0] 33)
 generalize World.alloc w1 _ = w2 at *
 have g3 := grow_alloc w2 (.cells #[.slice none 0 0] 45)
 have k3 := heap_new w2 #[.slice none 0 0] 45
 have s3 := World.size_alloc w2 (.cells #[.slice none 0 0] 45)
 generalize World.alloc w2 _ = w3 at *
 have g4 := grow_alloc w3 (.cells #[.int .i64 2] 3)
 have k4 := heap_new w3 #[.int .i64 2] 3
 generalize World.alloc w3 _ = w4 at *
 rw [s3, s2, s1] at k4
 rw [s2, s1] at k3
 rw [s1] at k2
 refine ⟨⟨.slice none 0 0, [], ((g1.trans g2).trans g3).trans g4, (((g2.trans g3).trans g4).block _ (heap_lt k1)).trans k1, (g4.block _ (heap_lt k3)).trans k3, k4, OwnRs.nil _ _⟩, ?_⟩
 exact ((g3.trans g4).block _ (heap_lt k2)).trans k2

set_option maxHeartbeats 4000000 in
theorem plook_any (d : Dk) (p : Int) (v : Value) (w : World) (hF : d.Fine 1000) (hd : DiskP d v w) :
  Calls Try.prog 37 #[v, .int .i64 p] w fun e w' => ∃ dv, e = .returned (.tuple #[.int .i64 (d.how p), .agg #[.int .i64 (d.tell p).kind, .int .i64 (d.tell p).key, .int .i64 (d.tell p).ver, dv]]) ∧ w'.ownsRow w.heap.size 5 1 dv (d.tell p).data.length ((d.tell p).data.map bv) ∧ Grow w w' := by
 obtain ⟨ab, cb, al, cl, rfl, -, -⟩ := hd.form
 have hst := LookV.start w #[.slice ab d.blocks.length cb, .slice al d.late.length cl]
 obtain ⟨H, hH⟩ : ∃ H, H = d.how p := ⟨_, rfl⟩
 obtain ⟨R, hR⟩ : ∃ R, R = d.tell p := ⟨_, rfl⟩
 rw [← hH, ← hR]
 have HH : Hid _ := hH
 have HR : Hid _ := hR
 clear hH hR
 go_enter Try.func37, Try.ntmps37
 go_wp2_with fail
 refine (look_each d p _ _ w _ hF hd hst).mono ?_
 rintro e w1 ⟨E, s, rs, rfl, ⟨⟨tv, us, hG⟩, hZ⟩, hl2, hh, ht⟩
 rw [← HH.out] at hh
 rw [← HR.out] at ht
 obtain ⟨ao, c, hfo, hfc⟩ := pfirst_any rs us _ tv w1 hG.rows
 rw [ht] at hfo hfc
 clear hst ht
 have HN : Hid _ := hh
 clear hh
 go_wp2_with fail
 refine wp_region_v [pl (ex (tv)), pl (ex (.int .i64 s)), pl (ex (.int .i64 H)), pl (ex (tv)), pl (ex (.agg #[.int .i64 R.kind, .int .i64 R.key, .int .i64 R.ver, .slice ao R.data.length c])), pl (ex (.int .i64 H)), pl ((fun _ w' => w'.heap[w.heap.size + 1]? = some (.cells #[.int .i64 R.kind, .int .i64 R.key, .int .i64 R.ver, .slice ao R.data.length c] 33 (0, 0))))] [none, none, none, none, none, none, some ((fun w1 w2 => GrowBut (w.heap.size + 1) w1 w2))] (fun dn w' => LookG w #[.slice ab d.blocks.length cb, .slice al d.late.length cl] s rs tv us w' ∧ (dn 6 = false → w'.heap[w.heap.size + 1]? = some zeroRr)) (by kernel_rfl) (by kernel_rfl) ⟨st_pl (st_ex _), st_pl (st_ex _), st_pl (st_ex _), st_pl (st_ex _), st_pl (st_ex _), st_pl (st_ex _), st_pl (st_heap _ _), trivial⟩ ⟨⟨(fun w1 => GrowBut.refl _ w1), ⟨.inr (fun _ _ _ _ _ h => h), .inr (fun _ _ _ _ _ h => h), .inr (fun _ _ _ _ _ h => h), .inr (fun _ _ _ _ _ h => h), .inr (fun _ _ _ _ _ h => h), .inr (fun _ _ _ _ _ h => h), .inl (by kernel_rfl), trivial⟩⟩, trivial⟩ ⟨(fun h => by cases h), (fun h => by cases h), (fun h => by cases h), (fun h => by cases h), (fun h => by cases h), (fun h => by cases h), fun _ _ _ _ h => h, trivial⟩ ⟨hG.on (Grow.refl _).drew, fun _ => hZ⟩ ?_ ?_
 ·refine ⟨?_, ?_, ?_, ?_, ?_, ?_, ?_, trivial⟩
  ·refine needv_plain rfl (fun a w' dn hr hg hin => ?_)
   have e6 : a.eval (.tmp 6) = .pointer (some ⟨w.heap.size + 1 + 1, 0, none⟩) := insw_ext hin 6 (by kernel_rfl)
   have z0 := box_cell hg.1.told 0 _ rfl
   refine uponw_val ?_ hg rfl
   clear hin hg hr
   obtain ⟨ek, ef⟩ := evs a
   generalize a.eval = ev at *
   go_simp
   all_goals first | omega | (intro _; omega) | go_arith
  ·refine needv_plain rfl (fun a w' dn hr hg hin => ?_)
   have e7 : a.eval (.tmp 7) = .pointer (some ⟨w.heap.size + 1 + 1 + 1, 0, none⟩) := insw_ext hin 7 (by kernel_rfl)
   have z0 := box_cell hg.1.bad 0 _ rfl
   refine uponw_val ?_ hg rfl
   clear hin hg hr
   obtain ⟨ek, ef⟩ := evs a
   generalize a.eval = ev at *
   go_simp
   all_goals first | omega | (intro _; omega) | go_arith
  ·refine needv_plain rfl (fun a w' dn hr hg hin => ?_)
   have e11 : a.eval (.tmp 11) = _ := insw_on hin 0 (by kernel_rfl)
   have e12 : a.eval (.tmp 12) = _ := insw_on hin 1 (by kernel_rfl)
   refine uponw_call (f := 72) (args := #[tv, .int .i64 s]) ?_ ((phow_any rs us s _ tv w' hg.1.rows hl2).mono ?_)
   ·clear hin hg hr
    obtain ⟨ek, ef⟩ := evs a
    generalize a.eval = ev at *
    go_simp
    all_goals first | omega | (intro _; omega) | go_arith
   ·rw [HN.out]
    rintro e w2 ⟨rfl, g2⟩
    exact ⟨_, rfl, g2, ⟨hg.1.on g2, fun h => (g2.block _ (heap_lt (hg.2 h))).trans (hg.2 h)⟩, rfl⟩
  ·refine needv_plain rfl (fun a w' dn hr hg hin => ?_)
   have e6 : a.eval (.tmp 6) = .pointer (some ⟨w.heap.size + 1 + 1, 0, none⟩) := insw_ext hin 6 (by kernel_rfl)
   have z0 := box_cell hg.1.told 0 _ rfl
   refine uponw_val ?_ hg rfl
   clear hin hg hr
   obtain ⟨ek, ef⟩ := evs a
   generalize a.eval = ev at *
   go_simp
   all_goals first | omega | (intro _; omega) | go_arith
  ·refine needv_plain rfl (fun a w' dn hr hg hin => ?_)
   have e14 : a.eval (.tmp 14) = _ := insw_on hin 3 (by kernel_rfl)
   refine uponw_call (f := 73) (args := #[tv]) ?_ ((hfc w' hg.1.rows).mono ?_)
   ·clear hin hg hr
    obtain ⟨ek, ef⟩ := evs a
    generalize a.eval = ev at *
    go_simp
    all_goals first | omega | (intro _; omega) | go_arith
   ·rintro e w2 ⟨rfl, g2⟩
    exact ⟨_, rfl, g2, ⟨hg.1.on g2, fun h => (g2.block _ (heap_lt (hg.2 h))).trans (hg.2 h)⟩, rfl⟩
  ·refine needv_plain rfl (fun a w' dn hr hg hin => ?_)
   have e : a.eval (.tmp 13) = _ := insw_on hin 2 (by kernel_rfl)
   exact uponw_assign rfl hg e
  ·refine needv_plain rfl (fun a w' dn hr hg hin => ?_)
   have e5 : a.eval (.tmp 5) = .pointer (some ⟨w.heap.size + 1, 0, none⟩) := insw_ext hin 5 (by kernel_rfl)
   have e15 : a.eval (.tmp 15) = _ := insw_on hin 4 (by kernel_rfl)
   have hh : w'.heap[w.heap.size + 1]? = some (.cells #[.int .i64 0, .int .i64 0, .int .i64 0, .slice none 0 0] 33 (0, 0)) := hg.2 hr.un
   obtain ⟨hp1, hp2⟩ := box_put hh (.int .i64 R.kind) (.int .i64 R.key) (.int .i64 R.ver) (.slice ao R.data.length c)
   obtain ⟨z0, z1, z2, z3⟩ := box4 hh rfl rfl rfl rfl
   obtain ⟨f0, f1, f2, f3⟩ := boxf4 hh
   have cs := cell_set
   refine uponw_skip (w' := _) ?_ hp2 ⟨hg.1.but hp2, fun h => by simp [upd] at h⟩ hp1
   clear hin hg hr hp1 hp2 hh
   obtain ⟨ek, ef⟩ := evs a
   generalize a.eval = ev at *
   go_simp
   all_goals first | omega | (intro _; omega) | go_arith
 ·intro vs w' dn hdn hg ht
  obtain ⟨q11, q12, q13, q14, q15, q4, qo6, -⟩ := ht
  have r11 : vs 0 = tv := q11
  have r12 : vs 1 = .int .i64 s := q12
  have r13 : vs 2 = .int .i64 H := q13
  have r14 : vs 3 = tv := q14
  have r15 : vs 4 = .agg #[.int .i64 R.kind, .int .i64 R.key, .int .i64 R.ver, .slice ao R.data.length c] := q15
  have r4 : vs 5 = .int .i64 H := q4
  replace qo6 : ((fun _ w' => w'.heap[w.heap.size + 1]? = some (.cells #[.int .i64 R.kind, .int .i64 R.key, .int .i64 R.ver, .slice ao R.data.length c] 33 (0, 0)))) (vs 6) w' := qo6
  clear q11 q12 q13 q14 q15 q4
  simp only [putAll, Act.put, List.setIfInBounds_toArray, List.set_cons_zero, List.set_cons_succ, r11, r12, r13, r14, r15, r4]
  clear r11 r12 r13 r14 r15 r4
  obtain ⟨y0, y1, y2, y3⟩ := box4 qo6 rfl rfl rfl rfl
  have gE := hg.1.grow
  have hoE := own_mono (hfo w' hg.1.rows) (base' := w.heap.size) (by omega)
  clear hg hdn qo6 hG hZ hfo hfc
  go_wp2_with fail
  exact bodyPost_ret (v := .tuple #[.int .i64 H, .agg #[.int .i64 R.kind, .int .i64 R.key, .int .i64 R.ver, .slice ao R.data.length c]]) (by simp [results, Try.results37, go_sem, y0, y1, y2, y3]) rfl ⟨_, rfl, hoE, gE⟩
theorem lookC : LookC := fun d p v w hF hd => plook_any d p v w (hF.mono (by omega)) hd
end Go.Proofs.Ytgaecpdokgklpab
