import Derived.Test.YtlickojpmffmiacGreatInv
import Derived.ProofKit
import Derived.OpenShut
import Derived.SizedLaws
import Derived.Lib.SmallJoins
import Derived.Deep.SlicePairs
set_option maxHeartbeats 8000000
namespace Go.Proofs.YtlickojpmffmiacGreat
set_option maxRecDepth 100000
open Go.RowKit
open Plain Reg
def dA : Dd := ⟨1, 7, 0, []⟩
def sA : St := ⟨((newS.doS dA).st.dk.spoil 0 2 1), (newS.doS dA).st.idx, (newS.doS dA).st.next⟩
theorem sA_next : (newS.doS dA).st.next = 0 := by decide +kernel
theorem sA_how : sA.dk.how sA.next = 2 := by decide +kernel
theorem sA_one : sA.scrub.next = 1 ∧ sA.scrub.idx.length = 1 := by decide +kernel
theorem sA_all : wasN sA 6 2 = 1 ∧ wasN sA 6 0 = 5 := by decide +kernel
theorem sA_six : (scrubN 6 sA).next = 0 ∧ cnt (scrubN 6 sA).dk 6 1 = 1 := by decide +kernel
theorem sA_at : sA.At := by
 have h := do_ok (d := dA) newS_ok
 exact ⟨⟨h.disk.spoil 0 2 1, h.right, h.six⟩, by show (0 : Int) ≤ (newS.doS dA).st.next; rw [sA_next]; omega, by show (newS.doS dA).st.next < 6; rw [sA_next]; omega⟩
theorem field_rep (a b c d e f : Value) (w : World) : (Instr.field 39 (.agg #[a, b, c, d, e, f]) 0).run Tryz.prog w = .ok (.agg #[a, b, c, d, e, f]) w := by
 kernel_rfl
theorem index_rep (a b c d e f : Value) (w : World) : (Instr.index 37 (.agg #[a, b, c, d, e, f]) (.int .i64 1)).run Tryz.prog w = .ok b w := by
 kernel_rfl
theorem scalive_of (SO : ScOneC) (SA : ScAllC) (SL : ScLookC) : ScAliveC := by
 intro w
 go_enter Tryz.func12, Tryz.ntmps12
 go_wp2_with fail
 refine (rnewS_any (fun b => b < w.heap.size) w (fun b h => h)).mono ?_
 rintro r w1 ⟨v1, rfl, h1, g1⟩
 obtain ⟨b1, e1, l1, m1, i1, j1, hv1, -, -, -⟩ := h1.form
 subst hv1
 have h1n := h1.any.now
 have HN0 : Hid (newS.Ok 0) := newS_ok
 clear h1
 go_wp2_with fail
 refine (rdoS_any (fun b => b < w1.heap.size) 0 newS dA _ none 0 w1 (fun b h => h) h1n (.inl ⟨none, 0, rfl, rfl, fun _ => rfl⟩) HN0.out (by omega) (by decide)).mono ?_
 have HB : Hid (sA = ⟨((newS.doS dA).st.dk.spoil 0 2 1), (newS.doS dA).st.idx, (newS.doS dA).st.next⟩) := rfl
 have HBO : Hid ((newS.doS dA).st.Ok 0) := do_ok newS_ok
 generalize newS.doS dA = B at *
 rintro r w2 ⟨v2, rfl, h2, g2⟩
 obtain ⟨b2, e2, l2, m2, i2, j2, hv2, -, -, -⟩ := h2.form
 subst hv2
 have g3 := grow_alloc w2 (.cells #[.slice b2 B.st.dk.blocks.length e2, .slice l2 B.st.dk.late.length m2, .slice i2 B.st.idx.length j2, .int .i64 B.st.next] 29)
 have hY3 := heap_new w2 #[.slice b2 B.st.dk.blocks.length e2, .slice l2 B.st.dk.late.length m2, .slice i2 B.st.idx.length j2, .int .i64 B.st.next] 29
 have hS3 := h2.any.now.grow g3
 have gw3 := g1.trans (g2.trans g3)
 have HG2 : Hid (w.heap.size ≤ w2.heap.size) := (g1.trans g2).size
 clear h1n h2 g1 g2 g3
 obtain ⟨y0, y1⟩ := box2 hY3 rfl rfl
 go_wp2_with fail
 obtain ⟨G, hG⟩ : ∃ G, G = w2.heap.size := ⟨_, rfl⟩
 rw [← hG] at hY3 hS3 y0 y1 HG2 ⊢
 clear hG
 generalize World.alloc w2 _ = W3 at *
 obtain ⟨vb, vl, vi, hv0, hb3, hl3, hi3⟩ := hS3
 cases hv0
 refine (rspoil_c (fun b => b < G) 0 B.st.dk 0 2 1 _ W3 (fun b h => Nat.lt_trans h (heap_lt hY3)) ⟨_, _, rfl, hb3, hl3⟩ HBO.out.disk).mono ?_
 obtain ⟨E, hE⟩ : ∃ E, E = B.st.dk.spoil 0 2 1 := ⟨_, rfl⟩
 rw [← hE] at HB ⊢
 clear hE
 rintro r w4 ⟨v4, rfl, h4, g4⟩
 obtain ⟨b4, e4, l4, m4, rfl, h4b, h4l⟩ := h4.form
 have hY4 := (g4.block _ (heap_lt hY3)).trans hY3
 have HGW : Hid (G < W3.heap.size) := heap_lt hY3
 have hi4 := hi3.grow g4
 have gw4 := gw3.trans g4
 have hnG : ¬ Upon (fun b => b < G) W3.heap.size G := upon_not (fun b h => h) HGW.out
 obtain ⟨ht1, ht2⟩ := box_twoOf hY4 (.slice b4 E.blocks.length e4) (.slice l4 E.late.length m4)
 have hS5 : StoreS (fun _ => True) sA (.agg #[.slice b4 E.blocks.length e4, .slice l4 E.late.length m4, .slice i2 B.st.idx.length j2, .int .i64 B.st.next]) ((w4.setCell ⟨G, 0, none⟩ (.slice b4 E.blocks.length e4)).setCell ⟨G, 1, none⟩ (.slice l4 E.late.length m4)) := by
  rw [HB.out]
  exact ⟨_, _, _, rfl, (h4b.but ht2 hnG).mono (fun _ _ => trivial), (h4l.but ht2 hnG).mono (fun _ _ => trivial), (hi4.but ht2 (fun h => Nat.lt_irrefl _ h)).mono (fun _ _ => trivial)⟩
 have gw5 := ht2.grow gw4 HG2.out
 obtain ⟨x0, x1⟩ := box2 hY4 rfl rfl
 have f0 := box_frozen hY4 0
 have f1 := box_frozen hY4 1
 obtain ⟨y0, y1, y2, y3⟩ := box4 ht1 rfl rfl rfl rfl
 have cs := cell_set
 clear hb3 hl3 hi3 h4 h4b h4l hi4 g4 hY3 hY4 gw3 gw4 ht2 hnG HGW
 go_wp2_with fail
 clear x0 x1 f0 f1 cs
 generalize World.setCell (World.setCell w4 _ _) _ _ = W5 at *
 refine (SO (fun b => b < W5.heap.size) sA _ W5 (fun b h => h) hS5.now sA_at).mono ?_
 rw [sA_how]
 have h11 := sA_one
 generalize sA.scrub = X at *
 rintro r w6 ⟨v6, rfl, h6, g6⟩
 obtain ⟨b6, e6, l6, m6, i6, j6, hv6, -, -, -⟩ := h6.form
 rw [h11.1, h11.2] at hv6
 subst hv6
 have g7 := grow_alloc w6 (.cells #[.slice b6 X.dk.blocks.length e6, .slice l6 X.dk.late.length m6, .slice i6 1 j6, .int .i64 1] 29)
 have hX7 := heap_new w6 #[.slice b6 X.dk.blocks.length e6, .slice l6 X.dk.late.length m6, .slice i6 1 j6, .int .i64 1] 29
 have g67 := g6.trans g7
 have hY7 := (g67.block _ (heap_lt ht1)).trans ht1
 have hS7 := hS5.grow g67
 have gw7 := gw5.trans g67
 clear y0 y1 y2 y3 h6 g6 g7 g67 hS5 gw5 ht1 h11
 obtain ⟨y0, y1, y2, y3⟩ := box4 hY7 rfl rfl rfl rfl
 go_wp2_with fail
 obtain ⟨A, hA⟩ : ∃ A, A = w6.heap.size := ⟨_, rfl⟩
 rw [← hA] at hX7 ⊢
 clear hA
 generalize World.alloc w6 _ = W7 at *
 refine (SA (fun b => b < W7.heap.size) sA _ W7 (fun b h => h) hS7.now sA_at).mono ?_
 have HA6 : Hid ((scrubN 6 sA).At) := scrubN_at sA_at 6
 have h12 := sA_all
 have h13 := sA_six
 generalize scrubN 6 sA = Y at *
 unfold repA
 rw [h12.1, h12.2]
 rintro r w8 ⟨v8, rfl, h8, g8⟩
 obtain ⟨b8, e8, l8, m8, i8, j8, hv8, hb8, hl8, -⟩ := h8.form
 rw [h13.1] at hv8
 subst hv8
 have g9 := grow_alloc2 w8 (.cells #[.slice b8 Y.dk.blocks.length e8, .slice l8 Y.dk.late.length m8, .slice i8 Y.idx.length j8, .int .i64 0] 29) (.cells #[.int .i64 5, .int .i64 (wasN sA 6 1), .int .i64 1, .int .i64 (wasN sA 6 3), .int .i64 (wasN sA 6 4), .int .i64 (wasN sA 6 5)] 39)
 have hZ9 := ((grow_alloc (w8.alloc (.cells #[.slice b8 Y.dk.blocks.length e8, .slice l8 Y.dk.late.length m8, .slice i8 Y.idx.length j8, .int .i64 0] 29)) (.cells #[.int .i64 5, .int .i64 (wasN sA 6 1), .int .i64 1, .int .i64 (wasN sA 6 3), .int .i64 (wasN sA 6 4), .int .i64 (wasN sA 6 5)] 39)).block _ (heap_lt (heap_new w8 #[.slice b8 Y.dk.blocks.length e8, .slice l8 Y.dk.late.length m8, .slice i8 Y.idx.length j8, .int .i64 0] 29))).trans (heap_new w8 #[.slice b8 Y.dk.blocks.length e8, .slice l8 Y.dk.late.length m8, .slice i8 Y.idx.length j8, .int .i64 0] 29)
 have hR9 := heap_new (w8.alloc (.cells #[.slice b8 Y.dk.blocks.length e8, .slice l8 Y.dk.late.length m8, .slice i8 Y.idx.length j8, .int .i64 0] 29)) #[.int .i64 5, .int .i64 (wasN sA 6 1), .int .i64 1, .int .i64 (wasN sA 6 3), .int .i64 (wasN sA 6 4), .int .i64 (wasN sA 6 5)] 39
 rw [World.size_alloc] at hR9
 have g89 := g8.trans g9
 have hX9 := (g89.block _ (heap_lt hX7)).trans hX7
 have hbY := (hb8.grow g9).p
 have hlY := (hl8.grow g9).p
 have gw9 := gw7.trans g89
 clear y0 y1 y2 y3 h8 hb8 hl8 g8 g9 g89 hS7 hY7 hX7 gw7 h12
 have x2 := box_cell hX9 2 _ rfl
 have x3 := box_cell hX9 3 _ rfl
 obtain ⟨z0, z1⟩ := box2 hZ9 rfl rfl
 have z3 := box_cell hZ9 3 _ rfl
 have r0 := box_cell hR9 0 _ rfl
 have r2 := box_cell hR9 2 _ rfl
 go_wp2_with fail
 generalize World.alloc (World.alloc w8 _) _ = W9 at *
 refine (SL Y.dk _ W9 ⟨_, _, rfl, hbY, hlY⟩ HA6.out.ok.disk).mono ?_
 unfold repA
 rw [h13.2]
 rintro r wE ⟨rfl, gE⟩
 have gwE := gw9.trans gE
 clear x2 x3 z0 z1 z3 r0 r2 hX9 hZ9 hR9 hbY hlY gE gw9
 have hfr := field_rep
 have hir := index_rep
 go_wp2_with fail
 go_ret
 exact ⟨rfl, gwE⟩
end Go.Proofs.YtlickojpmffmiacGreat
/-
  A slice of bytes that came in, as the walks want it: it holds the bytes that its numbers are.
  Condition: as the row reads it.
-/
namespace Go.Proofs.YtlickojpmffmiacGreat
set_option maxRecDepth 100000
open Go.RowKit Go.ChangeShapes Go.WideShapes Go.ChangeAt
open Plain Reg
theorem wf_byte {n : Int} (h : (Lit.int .u8 n).wf = true) : 0 ≤ n ∧ n < 256 := by
 have : 0 ≤ n ∧ n ≤ 255 := by simpa [Lit.wf, IntKind.min, IntKind.max, IntKind.signed, IntKind.bits] using h
 omega
def toBytes (zs : List Int) : List UInt8 := zs.map fun n => UInt8.ofNat n.toNat
theorem bytes_row {w : World} {x : Addr} {len cap : Nat} {zs : List Int} (hl : len ≤ cap) (hz : zs.length = cap)
  (hc : ∀ i, i < zs.length → w.cell? (x.add i) = some (.int .u8 (zs.getD i 0))) (hw : ∀ n ∈ zs, (Lit.int .u8 n).wf = true) :
  Bytes w (.slice (some x) len cap) (toBytes (zs.take len)) := by
 have e : (toBytes (zs.take len)).length = len := by simp [toBytes]; omega
 by_cases h0 : len = 0
 ·subst h0
  exact .inl ⟨some x, cap, rfl, by simp [toBytes], fun h => by cases h⟩
 ·obtain ⟨b, off, rfl, hc'⟩ := ints_at hc (by omega)
  refine .inr ⟨b, off, cap, by rw [e], by omega, fun i hi => ?_⟩
  have hi' : i < zs.length := by omega
  rw [hc' i hi']
  have h1 : zs.getD i 0 = zs[i] := by rw [List.getD_eq_getElem?_getD, List.getElem?_eq_getElem hi']; rfl
  have h2 := wf_byte (hw zs[i] (List.getElem_mem hi'))
  have h3 : ((toBytes (zs.take len))[i].toNat : Int) = zs[i] := by
   simp only [toBytes, List.getElem_map, List.getElem_take]
   rw [UInt8.toNat_ofNat']
   omega
  rw [h1, h3]
end Go.Proofs.YtlickojpmffmiacGreat
/-
  Arguments that came in, as the walks want them: bytes, and records.
  Condition: as the row reads them.
-/
namespace Go.Proofs.YtlickojpmffmiacGreat
set_option maxRecDepth 100000
open Go.RowKit Go.ChangeShapes Go.WideShapes Go.ChangeAt Go.Deep
open Plain Reg
section
variable {H : Type} {enc : TypeId × Value → H} {W : World}
theorem wt_each {P : Program} {ts : List TypeId} {ds : List (DataW H)} (h : (DataW.weightsEach P ts ds).all (· ≤ reachBytes) = true) {j : Nat} {t : TypeId} {d : DataW H} (ht : ts[j]? = some t) (hd : ds[j]? = some d) : (d.weights P t).all (· ≤ reachBytes) = true := by
 rw [List.all_eq_true] at h ⊢
 exact fun n hn => h n (DataW.weights_mem_each ht hd n hn)
theorem open_bytes {fuel : Nat} {v : Value} {x : DataW H × List MemPlace} (h : DataW.trod enc Tryz.prog W 0 (fun _ => true) true fuel 46 [v] = some x) (hs : (x.1.weights Tryz.prog 46).all (· ≤ reachBytes) = true) :
  ∃ l, Bytes W v l ∧ l.length ≤ 140737488351232 := by
 rcases open_ints Tryz.underlying46 Tryz.underlying5 (by kernel_rfl) h with ⟨hcs, _⟩ | ⟨a, len, cap, zs, hcs, _, hl, hm, hz, hx, hcell, hwz⟩
 ·simp only [List.cons.injEq, and_true] at hcs
  subst hcs
  exact ⟨[], .inl ⟨none, 0, rfl, rfl, fun _ => rfl⟩, by simp⟩
 ·simp only [List.cons.injEq, and_true] at hcs
  subst hcs
  have hzz : zs.length = cap := by simpa using hz
  subst hx
  have hs2 : (lits (H := H) .u8 (zs.take len)).length + (lits (H := H) .u8 (zs.drop len)).length ≤ reachBytes := by
   have h3 := (List.all_eq_true.1 hs) (((lits (H := H) .u8 (zs.take len)).length + (lits (H := H) .u8 (zs.drop len)).length) * Tryz.prog.bytesOf 5) (by simp [DataW.weights, Tryz.underlying46])
   rw [show Tryz.prog.bytesOf 5 = 1 from by kernel_rfl, Nat.mul_one] at h3
   simpa using h3
  simp only [lits, List.length_map, List.length_take, List.length_drop, reachBytes] at hs2
  refine ⟨toBytes (zs.take len), bytes_row hl hzz hcell hwz, ?_⟩
  simp [toBytes]; omega
end
end Go.Proofs.YtlickojpmffmiacGreat
/-
  Disks that came in, as the walks want them.
  Condition: as the row reads them.
-/
namespace Go.Proofs.YtlickojpmffmiacGreat
set_option maxRecDepth 100000
open Go.RowKit Go.ChangeShapes Go.WideShapes Go.ChangeAt Go.Deep
open Plain Reg
section
variable {H : Type} {enc : TypeId × Value → H} {W : World}
theorem plain_addr {a : Addr} {u : Value} (h : W.cell? (a.add 0) = some u) : ∃ b off, a = ⟨b, off, none⟩ := by
 obtain ⟨b, off, spot⟩ := a
 cases spot with
 | none => exact ⟨b, off, rfl⟩
 | some s =>
  exfalso
  unfold World.cell? Addr.add at h
  simp only [if_true] at h
  split at h <;> simp_all
theorem plain_add (b off i : Nat) : (⟨b, off, none⟩ : Addr).add i = ⟨b, off + i, none⟩ := by
 unfold Addr.add
 split
 ·rename_i h; rw [h]; rfl
 ·rfl
end
section
variable {H : Type} {enc : TypeId × Value → H} {W : World}
end
section
variable {H : Type} {enc : TypeId × Value → H} {W : World}
end
section
variable {H : Type} {enc : TypeId × Value → H} {W : World}
theorem weights_in {P : Program} {e : TypeId} : ∀ {l : List (DataW H)} {d : DataW H}, d ∈ l → ∀ n ∈ d.weights P e, n ∈ DataW.weightsAll P e l
 | c :: r, d, h, n, hn => by
  rw [DataW.weightsAll, List.mem_append]
  rcases List.mem_cons.1 h with rfl | h
  ·exact .inl hn
  ·exact .inr (weights_in h n hn)
/-- A row of whatever is known of each of its things, of which each weighs what can be reached. -/
theorem open_rowsW {α : Type} (i0 : Inhabited α) (sh : Shape α) (Q : α → Prop) {t : TypeId} {fuel : Nat} {v : Value} {x : DataW H × List MemPlace} (ht : Tryz.prog.underlying t = some (.slice sh.T)) (hc : Tryz.prog.cellsOf sh.T = sh.size) (hz : 0 < sh.size) {by_ : Nat} (hby : Tryz.prog.bytesOf sh.T = by_)
  (hopen : ∀ (fuel : Nat) (cs : List Value) (y : DataW H × List MemPlace), DataW.trod enc Tryz.prog W 0 (fun _ => true) true fuel sh.T cs = some y → (y.1.weights Tryz.prog sh.T).all (· ≤ reachBytes) = true → ∃ z : α, sh.enc (fun b => b < W.heap.size) W z cs ∧ Q z)
  (h : DataW.trod enc Tryz.prog W 0 (fun _ => true) true fuel t [v] = some x) (hs : (x.1.weights Tryz.prog t).all (· ≤ reachBytes) = true) :
  ∃ xs, SliceS sh (fun b => b < W.heap.size) W v xs ∧ xs.length * by_ ≤ 140737488351232 ∧ ∀ z ∈ xs, Q z := by
 rcases open_slice ht h with ⟨hcs, _⟩ | ⟨a, len, cap, m, n, D, Pl, hcs, _, hl, hm, hmm, hx, hV⟩
 ·simp only [List.cons.injEq, and_true] at hcs
  subst hcs
  exact ⟨[], .inl ⟨none, 0, rfl, rfl, fun _ => rfl⟩, by simp, by simp⟩
 ·simp only [List.cons.injEq, and_true] at hcs
  subst hcs
  have hmc : m = cap := by simpa using hmm
  subst hmc
  subst hx
  have hex : ∀ i, i < len → ∃ z : α, ∃ cs, (sh.enc (fun b => b < W.heap.size) W z cs ∧ Q z) ∧ ∀ (j : Nat) (u : Value), cs[j]? = some u → W.cell? (a.add (i * sh.size + j)) = some u := by
   intro i hi
   obtain ⟨cs, h1, h2⟩ := hV i (by omega)
   rw [hc] at h1
   obtain ⟨_, hlen, hcell⟩ := World.cells?_some h1
   have hwt : ((D i).weights Tryz.prog sh.T).all (· ≤ reachBytes) = true := by
    rw [List.all_eq_true] at hs ⊢
    intro k hk
    refine hs k ?_
    have := weights_in (P := Tryz.prog) (e := sh.T) (l := (List.range len).map D) (List.mem_map.2 ⟨i, List.mem_range.2 hi, rfl⟩) k hk
    simp only [DataW.weights, ht]
    exact List.mem_cons_of_mem _ (List.mem_append_left _ this)
   obtain ⟨z, hz⟩ := hopen _ _ _ h2 hwt
   refine ⟨z, cs, hz, fun j u hj => ?_⟩
   have hjl := (List.getElem?_eq_some_iff.1 hj).1
   have := hcell j (by omega)
   rw [add_add] at this
   rw [this]; exact hj
  obtain ⟨f, hf⟩ := choose_lt hex
  have hw : len * by_ ≤ reachBytes := by
   have h3 := (List.all_eq_true.1 hs) ((((List.range len).map D).length + ((List.range (m - len)).map fun j => D (len + j)).length) * Tryz.prog.bytesOf sh.T) (by simp [DataW.weights, ht])
   rw [hby] at h3
   simp only [List.length_map, List.length_range, decide_eq_true_eq] at h3
   exact Nat.le_trans (Nat.mul_le_mul_right _ (by omega)) h3
  refine ⟨(List.range len).map f, ?_, by simp [reachBytes] at hw ⊢; omega, fun z hz => by
   obtain ⟨i, hi, rfl⟩ := List.mem_map.1 hz
   obtain ⟨_, k1, _⟩ := hf i (List.mem_range.1 hi)
   exact k1.2⟩
  by_cases h0 : len = 0
  ·subst h0
   exact .inl ⟨some a, m, rfl, by simp, fun h => by cases h⟩
  ·obtain ⟨cs0, e1, e2⟩ := hf 0 (by omega)
   have hl0 := sh.len e1.1
   have e3 := e2 0 cs0[0] (List.getElem?_eq_getElem (by omega))
   rw [Nat.zero_mul, Nat.zero_add] at e3
   obtain ⟨b, off, rfl⟩ := plain_addr e3
   refine .inr ⟨b, off, m, ?_, by simp, by simpa using hl, fun i hi => ?_⟩
   ·rw [plain_add] at e3
    exact cell_lt e3
   ·obtain ⟨cs, k1, k2⟩ := hf i (by simpa using hi)
    refine ⟨cs, by simpa using k1.1, fun j u hj => ?_⟩
    have := k2 j u hj
    rw [plain_add] at this
    rw [Nat.add_assoc]; exact this
theorem deed_cells {fuel : Nat} {cs : List Value} {x : DataW H × List MemPlace} (h : DataW.trod enc Tryz.prog W 0 (fun _ => true) true fuel 48 cs = some x) (hs : (x.1.weights Tryz.prog 48).all (· ≤ reachBytes) = true) :
  ∃ (e : Dd) (u : Value), cs = [.int .i64 e.kind, .int .i64 e.key, .int .i64 e.num, u] ∧ Bytes W u e.data ∧ e.data.length ≤ 140737488351232 := by
 obtain ⟨y0, y1, y2, y3, m, hx, hl, h0, h1, h2, h3⟩ := Go.Joins.trod_struct4 Tryz.underlying48 h
 have hc4 : Tryz.prog.cellsOf 48 = 4 := by kernel_rfl
 have t0 : Tryz.prog.cellsOf 3 = 1 := by kernel_rfl
 have t1 : Tryz.prog.cellsOf 46 = 1 := by kernel_rfl
 rw [hc4] at hl
 subst hx
 have hw3 : (y3.1.weights Tryz.prog 46).all (· ≤ reachBytes) = true := by
  simp only [DataW.weights, Tryz.underlying48] at hs
  exact wt_each (j := 3) hs rfl rfl
 match cs, hl with
 | [c0, c1, c2, c3], _ =>
  simp only [t0, t1, List.drop_zero, List.drop_succ_cons, List.take_succ_cons, List.take_zero] at h0 h1 h2 h3
  obtain ⟨a0, e0, f0, -⟩ := DataW.trod_int Tryz.underlying3 h0
  obtain ⟨a1, e1, f1, -⟩ := DataW.trod_int Tryz.underlying3 h1
  obtain ⟨a2, e2, f2, -⟩ := DataW.trod_int Tryz.underlying3 h2
  simp only [List.cons.injEq, and_true] at e0 e1 e2
  subst e0; subst e1; subst e2
  obtain ⟨l, hb, hlb⟩ := open_bytes h3 hw3
  exact ⟨⟨a0, a1, a2, l⟩, c3, rfl, hb, hlb⟩
theorem step_cells {fuel : Nat} {cs : List Value} {x : DataW H × List MemPlace} (h : DataW.trod enc Tryz.prog W 0 (fun _ => true) true fuel 50 cs = some x) (hs : (x.1.weights Tryz.prog 50).all (· ≤ reachBytes) = true) :
  ∃ (e : Sp) (u : Value), cs = [.int .i64 e.kind, .int .i64 e.n, .int .i64 e.m, .int .i64 e.deed.kind, .int .i64 e.deed.key, .int .i64 e.deed.num, u] ∧ Bytes W u e.deed.data ∧ e.deed.data.length ≤ 140737488351232 := by
 obtain ⟨y0, y1, y2, y3, m, hx, hl, h0, h1, h2, h3⟩ := Go.Joins.trod_struct4 Tryz.underlying50 h
 have hc7 : Tryz.prog.cellsOf 50 = 7 := by kernel_rfl
 have hc4 : Tryz.prog.cellsOf 48 = 4 := by kernel_rfl
 have t0 : Tryz.prog.cellsOf 3 = 1 := by kernel_rfl
 rw [hc7] at hl
 subst hx
 have hw3 : (y3.1.weights Tryz.prog 48).all (· ≤ reachBytes) = true := by
  simp only [DataW.weights, Tryz.underlying50] at hs
  exact wt_each (j := 3) hs rfl rfl
 match cs, hl with
 | [c0, c1, c2, c3, c4, c5, c6], _ =>
  simp only [t0, hc4, List.drop_zero, List.drop_succ_cons, List.take_succ_cons, List.take_zero] at h0 h1 h2 h3
  obtain ⟨a0, e0, f0, -⟩ := DataW.trod_int Tryz.underlying3 h0
  obtain ⟨a1, e1, f1, -⟩ := DataW.trod_int Tryz.underlying3 h1
  obtain ⟨a2, e2, f2, -⟩ := DataW.trod_int Tryz.underlying3 h2
  simp only [List.cons.injEq, and_true] at e0 e1 e2
  subst e0; subst e1; subst e2
  obtain ⟨d, u, e3, hb, hlb⟩ := deed_cells h3 hw3
  simp only [List.cons.injEq, and_true] at e3
  obtain ⟨rfl, rfl, rfl, rfl⟩ := e3
  exact ⟨⟨a0, a1, a2, d⟩, c6, rfl, hb, hlb⟩
theorem open_steps {fuel : Nat} {v : Value} {x : DataW H × List MemPlace} (h : DataW.trod enc Tryz.prog W 0 (fun _ => true) true fuel 22 [v] = some x) (hs : (x.1.weights Tryz.prog 22).all (· ≤ reachBytes) = true) : ∃ l, StepsS (fun b => b < W.heap.size) W v l ∧ l.length ≤ 140737488351232 ∧ ∀ z ∈ l, z.deed.data.length ≤ 140737488351232 := by
 obtain ⟨l, h1, h2, h3⟩ := open_rowsW ⟨⟨0, 0, 0, ⟨0, 0, 0, []⟩⟩⟩ spShape (fun z => z.deed.data.length ≤ 140737488351232) Tryz.underlying22 (by kernel_rfl) (by decide) (by_ := 72) (by kernel_rfl) (fun _ cs _ h hw => by
  obtain ⟨e, u, rfl, hb, hl⟩ := step_cells h hw
  exact ⟨e, ⟨u, rfl, bytes_s hb⟩, hl⟩) h hs
 exact ⟨l, h1, by omega, h3⟩
end
end Go.Proofs.YtlickojpmffmiacGreat
