import Derived.Test.YtlickojpmffmiacGreatRBegin
set_option maxHeartbeats 8000000
namespace Go.Proofs.YtlickojpmffmiacGreat
set_option maxRecDepth 100000
open Go.RowKit
open Plain Reg
def St.doS (s : St) (d : Dd) : Begun := if (s.begin d).e = 0 then ⟨⟨(s.begin d).st.dk.flush, (s.begin d).st.idx, (s.begin d).st.next⟩, (s.begin d).n, 0⟩ else s.begin d
/-! ### What is made is as it should be -/
theorem sub_len : ∀ (l m : List Nat), l.Nodup → (∀ x ∈ l, x ∈ m) → l.length ≤ m.length
 | [], _, _, _ => Nat.zero_le _
 | x :: l, m, hn, h => by
  obtain ⟨h1, h2⟩ := List.nodup_cons.1 hn
  have hx := h x (by simp)
  have := sub_len l (m.erase x) h2 fun y hy => (List.mem_erase_of_ne (by rintro rfl; exact h1 hy)).2 (h y (by simp [hy]))
  have := List.length_erase_of_mem hx
  have := List.length_pos_of_mem hx
  simp; omega
theorem least_len {l : List Ent} {f : Nat} (h : Least l f) : f ≤ l.length := by
 have := sub_len (List.range f) (l.map fun x => x.pair.toNat) List.nodup_range fun x hx => by
  obtain ⟨e, he, hp⟩ := h.1 x (by simpa using hx)
  exact List.mem_map.2 ⟨e, he, by rw [hp]; simp⟩
 simpa using this
theorem leastUp_get {l : List Ent} : ∀ (k p : Nat), (∀ m : Nat, m < p → usedB l (m : Int) = true) → l.length < p + k → Least l (leastUp l k p) ∧ leastUp l k p ≤ l.length
 | 0, p, h, hk => by
  exfalso
  have := sub_len (List.range p) (l.map fun x => x.pair.toNat) List.nodup_range fun x hx => by
   obtain ⟨e, he, hp⟩ := (used_iff l _).1 (h x (by simpa using hx))
   exact List.mem_map.2 ⟨e, he, by rw [hp]; simp⟩
  simp at this
  omega
 | k + 1, p, h, hk => by
  unfold leastUp
  by_cases hu : usedB l (p : Int) = true
  ·rw [if_pos hu]
   refine leastUp_get k (p + 1) (fun m hm => ?_) (by omega)
   by_cases e : m = p
   ·rw [e]; exact hu
   ·exact h m (by omega)
  ·rw [if_neg hu]
   have hL : Least l p := ⟨fun m hm => (used_iff l _).1 (h m hm), fun x hx hp => hu ((used_iff l _).2 ⟨x, hx, hp⟩)⟩
   exact ⟨hL, least_len hL⟩
theorem leastF_get {l : List Ent} (h : l.length ≤ 6) : Least l (leastF l) ∧ leastF l ≤ l.length := leastUp_get 7 0 (fun m hm => by omega) (by omega)
theorem drop_right {l : List Ent} (h : rightI l = true) (p : Int) : rightI (dropE l p) = true := by
 obtain ⟨h1, h2⟩ := (rightI_iff l).1 h
 exact (rightI_iff _).2 ⟨h1.filter _, fun x hx => h2 x ((List.mem_filter.1 hx).1)⟩
theorem doR_made {l : List Rec} {d : Dd} (hk : d.kind ≠ 3) (he : (doR l d).e = 0) : l.length ≤ 5 ∧ (doR l d).n = nextV l ∧ nextV l ≤ 60000 := by
 unfold doR at he ⊢
 rw [if_neg hk] at he ⊢
 by_cases h5 : 5 < l.length
 ·rw [if_pos h5] at he; cases he
 ·rw [if_neg h5] at he ⊢
  by_cases h6 : 60000 < nextV l
  ·rw [if_pos h6] at he; cases he
  ·rw [if_neg h6]; exact ⟨by omega, rfl, by omega⟩
theorem St.Ok.mono {n m : Nat} {s : St} (h : s.Ok n) (hm : n ≤ m) : s.Ok m := ⟨h.disk.mono hm, h.right, h.six⟩
theorem begin_ok {n : Nat} {s : St} {d : Dd} (h : s.Ok n) : (s.begin d).st.Ok (n + 2) := by
 unfold St.begin
 by_cases hw : wrongD d = 0
 ·rw [if_neg (by simpa using hw)]
  by_cases he : (doR s.recs d).e = 0
  ·rw [if_neg (by simpa using he)]
   by_cases hk : d.kind = 3
   ·rw [if_pos hk]
    exact ⟨h.disk.pair _ _, drop_right h.right _, fun x hx => h.six x ((List.mem_filter.1 hx).1)⟩
   ·rw [if_neg hk]
    obtain ⟨h5, hn, h6⟩ := doR_made hk he
    have hl5 : s.idx.length ≤ 5 := by simpa [St.recs] using h5
    obtain ⟨hL, hL5⟩ := leastF_get (l := s.idx) (by omega)
    have hm := made_right (n := (doR s.recs d).n) hw hk (by rw [hn]; exact next_gt.1) (by rw [hn]; exact h6)
    refine ⟨h.disk.pair _ _, insertE_right h.right ⟨hm.1, hm.2, ?_, ?_⟩ hL.2, fun x hx => ?_⟩
    ·show (0 : Int) ≤ ((leastF s.idx : Nat) : Int); omega
    ·show ((leastF s.idx : Nat) : Int) ≤ 1000; omega
    ·rcases (insertE_mem _ _ _).1 hx with rfl | h1
     ·show ((leastF s.idx : Nat) : Int) < 6; omega
     ·exact h.six x h1
  ·rw [if_pos (by simpa using he)]; exact h.mono (by omega)
 ·rw [if_pos (by simpa using hw)]; exact h.mono (by omega)
theorem do_ok {s : St} {d : Dd} (h : s.Ok 0) : (s.doS d).st.Ok 0 := by
 have hb := begin_ok (d := d) h
 unfold St.doS
 by_cases he : (s.begin d).e = 0
 ·rw [if_pos he]; exact ⟨hb.disk.flush, hb.right, hb.six⟩
 ·rw [if_neg he]
  unfold St.begin at he ⊢
  by_cases hw : wrongD d = 0
  ·rw [if_neg (by simpa using hw)] at he ⊢
   by_cases hr : (doR s.recs d).e = 0
   ·rw [if_neg (by simpa using hr)] at he
    exfalso
    revert he
    by_cases hk : d.kind = 3
    ·rw [if_pos hk]; exact fun h => h rfl
    ·rw [if_neg hk]; exact fun h => h rfl
   ·rw [if_pos (by simpa using hr)]; exact h
  ·rw [if_pos (by simpa using hw)]; exact h
theorem mount_ok {n : Nat} {d : Dk} (h : d.Fine n) : (mountS d).Ok 0 :=
 ⟨h.kept 0, scan_right _ 6 (by omega), fun x hx => by
  obtain ⟨p, hp, _, rfl⟩ := (scan_mem _ _ 6).1 hx
  show ((p : Nat) : Int) < 6; omega⟩
theorem newS_ok : newS.Ok 0 := mount_ok new_fine
/-! ### Do -/
theorem rdoS_any (S : Nat → Prop) (n : Nat) (s : St) (d : Dd) (v : Value) (ad : Option Addr) (c : Nat) (w : World) (hS : ∀ b, S b → b < w.heap.size) (hs : StoreS S s v w) (hd : BytesS S w (.slice ad d.data.length c) d.data) (hO : s.Ok n) (hn : n ≤ 900) (hdl : d.data.length ≤ 140737488355328) :
  Calls Tryz.prog 26 #[v, .agg #[.int .i64 d.kind, .int .i64 d.key, .int .i64 d.num, .slice ad d.data.length c]] w fun r w' => ∃ v', r = .returned (.tuple #[v', .int .i64 (s.doS d).n, .int .i64 (s.doS d).e]) ∧ StoreS (Upon S w.heap.size) (s.doS d).st v' w' ∧ Grow w w' := by
 obtain ⟨ab, cb, al, cl, ai, ci, rfl, -, -, -⟩ := hs.form
 have g0 := (grow_alloc2 w (.cells #[.slice ab s.dk.blocks.length cb, .slice al s.dk.late.length cl, .slice ai s.idx.length ci, .int .i64 s.next] 29) (.cells #[.int .i64 d.kind, .int .i64 d.key, .int .i64 d.num, .slice ad d.data.length c] 48)).trans (grow_alloc _ zeroS)
 have hs0 := heap_new w #[.slice ab s.dk.blocks.length cb, .slice al s.dk.late.length cl, .slice ai s.idx.length ci, .int .i64 s.next] 29
 have hd0 := heap_new (w.alloc (.cells #[.slice ab s.dk.blocks.length cb, .slice al s.dk.late.length cl, .slice ai s.idx.length ci, .int .i64 s.next] 29)) #[.int .i64 d.kind, .int .i64 d.key, .int .i64 d.num, .slice ad d.data.length c] 48
 have hz0 := heap_new ((w.alloc (.cells #[.slice ab s.dk.blocks.length cb, .slice al s.dk.late.length cl, .slice ai s.idx.length ci, .int .i64 s.next] 29)).alloc (.cells #[.int .i64 d.kind, .int .i64 d.key, .int .i64 d.num, .slice ad d.data.length c] 48)) #[.slice none 0 0, .slice none 0 0, .slice none 0 0, .int .i64 0] 29
 have hs1 := ((grow_alloc2 (w.alloc (.cells #[.slice ab s.dk.blocks.length cb, .slice al s.dk.late.length cl, .slice ai s.idx.length ci, .int .i64 s.next] 29)) (.cells #[.int .i64 d.kind, .int .i64 d.key, .int .i64 d.num, .slice ad d.data.length c] 48) zeroS).block _ (heap_lt hs0)).trans hs0
 have hd1 := ((grow_alloc ((w.alloc (.cells #[.slice ab s.dk.blocks.length cb, .slice al s.dk.late.length cl, .slice ai s.idx.length ci, .int .i64 s.next] 29)).alloc (.cells #[.int .i64 d.kind, .int .i64 d.key, .int .i64 d.num, .slice ad d.data.length c] 48)) zeroS).block _ (heap_lt hd0)).trans hd0
 rw [World.size_alloc] at hd1
 rw [World.size_alloc, World.size_alloc] at hz0
 clear hs0 hd0
 obtain ⟨B, hB⟩ : ∃ B, B = s.begin d := ⟨_, rfl⟩
 obtain ⟨R, hR⟩ : ∃ R, R = s.doS d := ⟨_, rfl⟩
 rw [← hR]
 have HR : Hid (R = if B.e = 0 then ⟨⟨B.st.dk.flush, B.st.idx, B.st.next⟩, B.n, 0⟩ else B) := by show R = _; rw [hR, hB]; rfl
 have HOB : Hid (B.st.Ok (n + 2)) := by rw [hB]; exact begin_ok hO
 have HB : Hid _ := hB
 clear hR hB
 go_enter Tryz.func26, Tryz.ntmps26
 obtain ⟨d0, d1, d2, d3⟩ := box4 hd1 rfl rfl rfl rfl
 obtain ⟨s0, s1, s2, s3⟩ := box4 hs1 rfl rfl rfl rfl
 go_wp2_with fail
 obtain ⟨W, hW⟩ : ∃ W, W = ((w.alloc (.cells #[.slice ab s.dk.blocks.length cb, .slice al s.dk.late.length cl, .slice ai s.idx.length ci, .int .i64 s.next] 29)).alloc (.cells #[.int .i64 d.kind, .int .i64 d.key, .int .i64 d.num, .slice ad d.data.length c] 48)).alloc zeroS := ⟨_, rfl⟩
 rw [← hW] at g0 hs1 hd1 hz0 d0 d1 d2 d3 s0 s1 s2 s3 ⊢
 clear hW
 have HWZ : Hid (w.heap.size + 2 < W.heap.size) := heap_lt hz0
 refine (rbegin_any S n s d _ ad c W (fun b h => Nat.lt_of_lt_of_le (hS b h) g0.size) (hs.grow g0) (hd.grow g0) hO hn hdl).mono ?_
 rw [← HB.out]
 rintro r w1 ⟨v1, rfl, h1, g1⟩
 have hs2 := (g1.block _ (heap_lt hs1)).trans hs1
 have hz2 := (g1.block _ (heap_lt hz0)).trans hz0
 have gw := g0.trans g1
 obtain ⟨b1, e1, l1, m1, i1, j1, hv, k1, k2, k3⟩ := h1.form
 subst hv
 clear hs1 hd1 hz0 g0 g1 d0 d1 d2 d3 s0 s1 s2 s3 h1 hs
 have hns : ¬ Upon S W.heap.size w.heap.size := upon_not hS (by have := HWZ.out; omega)
 obtain ⟨hp1, hp2⟩ := box_put hs2 (.slice b1 B.st.dk.blocks.length e1) (.slice l1 B.st.dk.late.length m1) (.slice i1 B.st.idx.length j1) (.int .i64 B.st.next)
 obtain ⟨y0, y1, y2, y3⟩ := box4 hs2 rfl rfl rfl rfl
 obtain ⟨f0, f1, f2, f3⟩ := boxf4 hs2
 have cs := cell_set
 have hz3 := (hp2.block _ (heap_lt hz2) (by omega)).trans hz2
 have gw3 := hp2.grow gw (Nat.le_refl _)
 have u1 := k1.but hp2 hns
 have u2 := k2.but hp2 hns
 have u3 := k3.but hp2 hns
 obtain ⟨x0, x1, x2, x3⟩ := box4 hp1 rfl rfl rfl rfl
 clear hp2 hz2 gw k1 k2 k3 hs2
 by_cases he : B.e = 0
 ·have dE : (B.e == 0) = true := by simp [he]
  obtain ⟨FD, hFD⟩ : ∃ FD, FD = B.st.dk.flush := ⟨_, rfl⟩
  obtain rfl : R = ⟨⟨FD, B.st.idx, B.st.next⟩, B.n, 0⟩ := by rw [HR.out, if_pos he, hFD]
  have HFD : Hid _ := hFD
  have HE0 : Hid (B.e = 0) := he
  clear HR he hFD
  go_wp2_with fail
  clear y0 y1 y2 y3 f0 f1 f2 f3 dE
  generalize (((w1.setCell ⟨w.heap.size, 0, none⟩ (.slice b1 B.st.dk.blocks.length e1)).setCell ⟨w.heap.size, 1, none⟩ (.slice l1 B.st.dk.late.length m1)).setCell ⟨w.heap.size, 2, none⟩ (.slice i1 B.st.idx.length j1)).setCell ⟨w.heap.size, 3, none⟩ (.int .i64 B.st.next) = W3 at *
  have HW3 : Hid (w.heap.size + 2 < W3.heap.size) := heap_lt hz3
  refine (rflush_c (fun b => Upon S W.heap.size b ∧ b < W3.heap.size) (n + 2) B.st.dk _ W3 (fun b h => h.2) ⟨_, _, rfl, u1.capd, u2.capd⟩ HOB.out.disk (by omega)).mono ?_
  rw [← HFD.out]
  rintro r w4 ⟨v4, rfl, h4, g4⟩
  obtain ⟨b4, e4, l4, m4, rfl, h4b, h4l⟩ := h4.form
  have hs4 := (g4.block _ (heap_lt hp1)).trans hp1
  have hz4 := (g4.block _ (heap_lt hz3)).trans hz3
  have gw4 := gw3.trans g4
  have u34 := u3.grow g4
  clear x0 x1 x2 x3 hp1 hz3 gw3 g4 u1 u2 u3 h4
  have hmx : ∀ b, Upon (fun b => Upon S W.heap.size b ∧ b < W3.heap.size) W3.heap.size b → Upon S (w.heap.size + 3) b := fun b h => h.elim (fun x => upon_le HWZ.out _ x.1) (fun x => .inr (Nat.le_trans HW3.out x))
  have hns3 : ¬ Upon S (w.heap.size + 3) w.heap.size := upon_not hS (by omega)
  have hnz3 : ¬ Upon S (w.heap.size + 3) (w.heap.size + 2) := upon_not (fun b h => by have := hS b h; omega) (by omega)
  obtain ⟨ht1, ht2⟩ := box_twoOf hs4 (.slice b4 FD.blocks.length e4) (.slice l4 FD.late.length m4)
  have hz5 := (ht2.block _ (heap_lt hz4) (by omega)).trans hz4
  have gw5 := ht2.grow gw4 (Nat.le_refl _)
  have p1 := (h4b.mono hmx).but ht2 hns3
  have p2 := (h4l.mono hmx).but ht2 hns3
  have p3 := (u34.mono (upon_le HWZ.out)).but ht2 hns3
  obtain ⟨y0, y1, y2, y3⟩ := box4 hs4 rfl rfl rfl rfl
  have f0 := box_frozen hs4 0
  have f1 := box_frozen hs4 1
  obtain ⟨t0, t1, t2, t3⟩ := box4 ht1 rfl rfl rfl rfl
  obtain ⟨hq1, hq2⟩ := box_put hz5 (.slice b4 FD.blocks.length e4) (.slice l4 FD.late.length m4) (.slice i1 B.st.idx.length j1) (.int .i64 B.st.next)
  obtain ⟨z0, z1, z2, z3⟩ := box4 hz5 rfl rfl rfl rfl
  obtain ⟨o0, o1, o2, o3⟩ := boxf4 hz5
  obtain ⟨x0, x1, x2, x3⟩ := box4 hq1 rfl rfl rfl rfl
  have gE := hq2.grow gw5 (by omega)
  have hE : StoreS (Upon S w.heap.size) ⟨FD, B.st.idx, B.st.next⟩ (.agg #[.slice b4 FD.blocks.length e4, .slice l4 FD.late.length m4, .slice i1 B.st.idx.length j1, .int .i64 B.st.next]) _ := ⟨_, _, _, rfl, (p1.but hq2 hnz3).mono (upon_le (by omega)), (p2.but hq2 hnz3).mono (upon_le (by omega)), (p3.but hq2 hnz3).mono (upon_le (by omega))⟩
  clear hq1 hq2 hz5 gw5 p1 p2 p3 ht1 ht2 hs4 hz4 gw4 h4b h4l u34
  go_wp2_with fail
  exact bodyPost_ret (v := .tuple #[.agg #[.slice b4 FD.blocks.length e4, .slice l4 FD.late.length m4, .slice i1 B.st.idx.length j1, .int .i64 B.st.next], .int .i64 B.n, .int .i64 B.e]) (by simp [results, Tryz.results26, go_sem, x0, x1, x2, x3]) rfl ⟨_, by rw [HE0.out], hE, gE⟩
 ·have dE : (B.e == 0) = false := by simp [he]
  obtain rfl : R = B := by rw [HR.out, if_neg he]
  clear HR he HB
  have hnz : ¬ Upon S W.heap.size (w.heap.size + 2) := upon_not (fun b h => by have := hS b h; omega) HWZ.out
  obtain ⟨hq1, hq2⟩ := box_put hz3 (.slice b1 R.st.dk.blocks.length e1) (.slice l1 R.st.dk.late.length m1) (.slice i1 R.st.idx.length j1) (.int .i64 R.st.next)
  obtain ⟨z0, z1, z2, z3⟩ := box4 hz3 rfl rfl rfl rfl
  obtain ⟨o0, o1, o2, o3⟩ := boxf4 hz3
  obtain ⟨t0, t1, t2, t3⟩ := box4 hq1 rfl rfl rfl rfl
  have gE := hq2.grow gw3 (by omega)
  have hE : StoreS (Upon S w.heap.size) R.st (.agg #[.slice b1 R.st.dk.blocks.length e1, .slice l1 R.st.dk.late.length m1, .slice i1 R.st.idx.length j1, .int .i64 R.st.next]) _ := ⟨_, _, _, rfl, (u1.but hq2 hnz).mono (upon_le (by have := HWZ.out; omega)), (u2.but hq2 hnz).mono (upon_le (by have := HWZ.out; omega)), (u3.but hq2 hnz).mono (upon_le (by have := HWZ.out; omega))⟩
  clear hq1 hq2 hz3 gw3 u1 u2 u3 hp1
  go_wp2_with fail
  exact bodyPost_ret (v := .tuple #[.agg #[.slice b1 R.st.dk.blocks.length e1, .slice l1 R.st.dk.late.length m1, .slice i1 R.st.idx.length j1, .int .i64 R.st.next], .int .i64 R.n, .int .i64 R.e]) (by simp [results, Tryz.results26, go_sem, t0, t1, t2, t3]) rfl ⟨_, rfl, hE, gE⟩
/-! ### List -/
def intShape : Shape Int where
 T := 3
 size := 1
 enc _ _ x cs := cs = [.int .i64 x]
 len := by rintro S w x cs rfl; rfl
 keep := by rintro S w w' x cs rfl _; rfl
 mono := by rintro S S' w x cs rfl _; rfl
 cap := by rintro S w x cs rfl; rfl
 one := by
  rintro S w x cs rfl c hc
  rw [List.mem_singleton.1 hc]; rfl
theorem info_intw : (Tryz.prog.info? 3).map (fun i => (i.zero, i.size, i.bytes)) = some (some (.int .i64 0), 1, 8) := by kernel_rfl
end Go.Proofs.YtlickojpmffmiacGreat
