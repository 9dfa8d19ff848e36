/-
  What the program's pair.read tells of one block of a disk.
  Condition: the disk lies in memory, as the document has disks; there is such a block.
-/
import Derived.Test.YtgaecpdokgklpabPairC
import Derived.Test.YtgaecpdokgklpabJPd
import Derived.Test.YtgaecpdokgklpabBRead
namespace Go.Proofs.Ytgaecpdokgklpab
set_option maxRecDepth 100000
open Go.RowKit
open Go.Proofs.Ytgaecpdokgklpab.Plain Go.Proofs.Ytgaecpdokgklpab.Reg

set_option maxHeartbeats 2000000 in
theorem pread_any (d : Dk) (a : Int) (v : Value) (w : World) (hF : d.Fine 1000) (hd : DiskP d v w) (h0 : 0 ≤ a) (h1 : a < 12) :
  Calls Try.prog 71 #[v, .int .i64 a] w fun e w' => ∃ dv, e = .returned (.tuple #[.agg #[.int .i64 (readR (sideB d a) a).kind, .int .i64 (readR (sideB d a) a).key, .int .i64 (readR (sideB d a) a).ver, dv], .int .i64 (sideE d a)]) ∧ w'.ownsRow w.heap.size 5 1 dv (readR (sideB d a) a).data.length ((readR (sideB d a) a).data.map bv) ∧ Grow w w' := by
 obtain ⟨ab, cb, al, cl, rfl, hb, hl⟩ := hd.form
 rw [show sideE d a = readE (sideB d a) a from rfl]
 obtain ⟨r, hr⟩ : ∃ r, r = readR (sideB d a) a := ⟨_, rfl⟩
 obtain ⟨E, hE⟩ : ∃ E, E = readE (sideB d a) a := ⟨_, rfl⟩
 rw [← hr, ← hE]
 have HR : Hid _ := hr
 have HX : Hid _ := hE
 clear hr hE
 have HE : Hid (d.getE a = 0) := by show d.getE a = 0; unfold Dk.getE; rw [if_neg (by rw [hF.len]; omega)]
 have hb16 := hF.b16
 have hl16 := hF.l16
 have hm2 : d.late.length ≤ 999990 := by have := hF.few; omega
 have gW := grow_alloc2 w (.cells #[.slice ab d.blocks.length cb, .slice al d.late.length cl] 25) (.cells #[.int .i64 0, .int .i64 0, .int .i64 0, .slice none 0 0] 33)
 have hz : ((w.alloc (.cells #[.slice ab d.blocks.length cb, .slice al d.late.length cl] 25)).alloc (.cells #[.int .i64 0, .int .i64 0, .int .i64 0, .slice none 0 0] 33)).heap[w.heap.size + 1]? = some (.cells #[.int .i64 0, .int .i64 0, .int .i64 0, .slice none 0 0] 33 (0, 0)) := by
  have h := heap_new (w.alloc (.cells #[.slice ab d.blocks.length cb, .slice al d.late.length cl] 25)) #[.int .i64 0, .int .i64 0, .int .i64 0, .slice none 0 0] 33
  rw [World.size_alloc] at h
  exact h
 have hbW := hb.grow gW
 have hlW := hl.grow gW
 clear hd hF hb hl h0 h1
 go_enter Try.func71, Try.ntmps71
 go_wp2_with fail
 refine (get_any d a _ _ _ hbW hlW hm2 hb16 hl16).mono ?_
 rw [HE.out]
 rintro e w1 ⟨v1, rfl, ho, g1⟩
 have hv : Bytes w1 v1 (sideB d a) := bytes_own ho
 obtain ⟨a1, c1, rfl⟩ := own_slice ho
 have hz1 := (g1.block _ (heap_lt hz)).trans hz
 have gw1 := gW.trans g1
 have hsz1 : w.heap.size + 1 < w1.heap.size := heap_lt hz1
 clear ho g1 gW hz hbW hlW hb16 hl16 hm2 HE
 go_wp2_with fail
 refine (read_any (sideB d a) a _ _ hv).mono ?_
 rw [← HR.out, ← HX.out]
 rintro e w2 ⟨dv, rfl, ho2, g2⟩
 have hz2 := (g2.block _ (heap_lt hz1)).trans hz1
 have gw2 := gw1.trans g2
 obtain ⟨a2, c2, rfl⟩ := own_slice ho2
 obtain ⟨hp1, hp2⟩ := box_put hz2 (.int .i64 r.kind) (.int .i64 r.key) (.int .i64 r.ver) (.slice a2 r.data.length c2)
 have gE := hp2.grow gw2 (by omega)
 have hoE := own_mono (own_other hp2 (by omega) ho2) (base' := w.heap.size) (by omega)
 obtain ⟨y0, y1, y2, y3⟩ := box4 hz2 rfl rfl rfl rfl
 obtain ⟨f0, f1, f2, f3⟩ := boxf4 hz2
 have cs := cell_set
 clear hp1 hp2 hz1 hz2 gw1 gw2 g2 ho2 hv hsz1
 go_wp2_with fail
 exact bodyPost_ret (v := .tuple #[.agg #[.int .i64 r.kind, .int .i64 r.key, .int .i64 r.ver, .slice a2 r.data.length c2], .int .i64 E]) (by simp [results, Try.results71, go_sem, y0, y1, y2, y3, cs]) rfl ⟨_, rfl, hoE, gE⟩
end Go.Proofs.Ytgaecpdokgklpab
