import Derived.Test.YtlickojpmffmiacRTwice
import Derived.Test.YtlickojpmffmiacRFsck
set_option maxHeartbeats 8000000
namespace Go.Proofs.Ytlickojpmffmiac
set_option maxRecDepth 100000
open Go.RowKit
open Plain Reg
def tidyTo (D : Dk) (tw : List Int) : Nat → Dk
 | 0 => D
 | p + 1 => ((tidyTo D tw p).pairD (p : Int) (if tw.contains (p : Int) = true then Rec.free else (tidyTo D tw p).tell (p : Int))).flush
def Dk.clean (d : Dk) : Dk := tidyTo (d.keep 0) (twiceTo (d.keep 0) 6) 6
theorem tidyTo_fine {D : Dk} (h : D.Fine 0) (tw : List Int) : ∀ p, (tidyTo D tw p).Fine 0
 | 0 => h
 | p + 1 => ((tidyTo_fine h tw p).pair _ _).flush
theorem OutR.boxI {B : Nat} {v : Value} {xs : List Int} {css : List (List Value)} {w w' : World} {T : TypeId} (h : OutR intShape (fun _ => False) B v xs css w) (hT : 3 ≠ T) (hs : BoxStep T w w') : OutR intShape (fun _ => False) B v xs css w' :=
 ⟨h.len, fun i hi => (h.each i hi).imp fun _ x => ⟨x.1, x.2⟩, own_box hT hs h.row⟩
theorem contains_next (l : List Int) (k : Nat) (h : k < l.length) (x : Int) : (l.take (k + 1)).contains x = ((l.take k).contains x || x == l[k]) := by
 rw [Bool.eq_iff_iff]
 simp only [Bool.or_eq_true, List.contains_iff_mem, beq_iff_eq]
 rw [List.take_succ_eq_append_getElem h, List.mem_append, List.mem_singleton]
/-- a: a report's variable is made; s: it is written. -/
def RepJ (W : World) (R : Array Value) (a s : Nat) (dn : Nat → Bool) (f : Nat → Value) (w : World) : Prop :=
 Grow W w ∧ (dn a = true → dn s = false → ∃ g, f a = .pointer (some ⟨g, 0, none⟩) ∧ W.heap.size ≤ g ∧ w.heap[g]? = some zeroR) ∧ (dn s = true → ∃ g, f a = .pointer (some ⟨g, 0, none⟩) ∧ W.heap.size ≤ g ∧ w.heap[g]? = some (.cells R 37 (0, 0)))
theorem RepJ.start (W : World) (R : Array Value) (a s : Nat) (f : Nat → Value) : RepJ W R a s (fun _ => false) f W.drew := ⟨(Grow.refl _).drew, (fun h => by cases h), (fun h => by cases h)⟩
theorem RepJ.on {W : World} {R : Array Value} {a s : Nat} {dn : Nat → Bool} {f : Nat → Value} {w w' : World} (h : RepJ W R a s dn f w) (hg : Grow w w') : RepJ W R a s dn f w' := by
 refine ⟨h.1.trans hg, fun h1 h2 => ?_, fun h1 => ?_⟩
 ·obtain ⟨g, k1, k2, k3⟩ := h.2.1 h1 h2
  exact ⟨g, k1, k2, (hg.block _ (heap_lt k3)).trans k3⟩
 ·obtain ⟨g, k1, k2, k3⟩ := h.2.2 h1
  exact ⟨g, k1, k2, (hg.block _ (heap_lt k3)).trans k3⟩
theorem RepJ.made {W : World} {R : Array Value} {a s : Nat} {dn : Nat → Bool} {f : Nat → Value} {w : World} (h : RepJ W R a s dn f w) (n : s ≠ a) (hs : dn s = false) : RepJ W R a s (upd dn a) (setv f a (.pointer (some ⟨w.heap.size, 0, none⟩))) (w.alloc zeroR) :=
 ⟨h.1.trans (grow_alloc _ _), fun _ _ => ⟨_, setv_yes, h.1.size, heap_new _ _ _⟩, fun h1 => by rw [upd_no n, hs] at h1; cases h1⟩
theorem RepJ.put {W : World} {R : Array Value} {a s g : Nat} {dn : Nat → Bool} {f : Nat → Value} {w w' : World} {u : Value} (h : RepJ W R a s dn f w) (n : a ≠ s) (hf : f a = .pointer (some ⟨g, 0, none⟩)) (hg : W.heap.size ≤ g) (hb : GrowBut g w w') (hh : w'.heap[g]? = some (.cells R 37 (0, 0))) : RepJ W R a s (upd dn s) (setv f s u) w' :=
 ⟨hb.grow h.1 hg, (fun _ h2 => by rw [upd_yes] at h2; cases h2), fun _ => ⟨g, by rw [setv_no n]; exact hf, hg, hh⟩⟩
theorem rclean_any (S : Nat → Prop) (n : Nat) (d : Dk) (v : Value) (w : World) (hS : ∀ b, S b → b < w.heap.size) (hd : DiskS S d v w) (hF : d.Fine n) (hn : n ≤ 900) :
  Calls Try.prog 13 #[v] w fun r w' => ∃ v' vt, r = .returned (.tuple #[v', .agg (repA (cnt (d.keep 0) 6)), vt]) ∧ DiskS (Upon S w.heap.size) d.clean v' w' ∧ SliceS intShape (Upon (fun _ => False) w.heap.size) w' vt (twiceTo (d.keep 0) 6) ∧ Grow w w' := by
 obtain ⟨ab, cb, al, cl, rfl, hb, hl⟩ := hd.form
 have g0 := (grow_alloc2 w (.cells #[.slice ab d.blocks.length cb, .slice al d.late.length cl] 27) (.cells #[.slice none 0 0, .slice none 0 0] 27)).trans (grow_alloc _ zeroR)
 have hD0 := heap_new w #[.slice ab d.blocks.length cb, .slice al d.late.length cl] 27
 have hZ0 := heap_new (w.alloc (.cells #[.slice ab d.blocks.length cb, .slice al d.late.length cl] 27)) #[.slice none 0 0, .slice none 0 0] 27
 have hQ1 := heap_new ((w.alloc (.cells #[.slice ab d.blocks.length cb, .slice al d.late.length cl] 27)).alloc (.cells #[.slice none 0 0, .slice none 0 0] 27)) #[.int .i64 0, .int .i64 0, .int .i64 0, .int .i64 0, .int .i64 0, .int .i64 0] 37
 have hD1 := ((grow_alloc2 (w.alloc (.cells #[.slice ab d.blocks.length cb, .slice al d.late.length cl] 27)) (.cells #[.slice none 0 0, .slice none 0 0] 27) zeroR).block _ (heap_lt hD0)).trans hD0
 have hZ1 := ((grow_alloc ((w.alloc (.cells #[.slice ab d.blocks.length cb, .slice al d.late.length cl] 27)).alloc (.cells #[.slice none 0 0, .slice none 0 0] 27)) zeroR).block _ (heap_lt hZ0)).trans hZ0
 rw [World.size_alloc] at hZ1
 rw [World.size_alloc, World.size_alloc] at hQ1
 clear hD0 hZ0 hb hl
 have HF : Hid (d.Fine n) := hF
 obtain ⟨K, hK⟩ : ∃ K, K = d.keep 0 := ⟨_, rfl⟩
 have HFK : Hid (K.Fine 0) := by rw [hK]; exact hF.kept 0
 have HCL : Hid (d.clean = tidyTo K (twiceTo K 6) 6) := by rw [hK]; rfl
 rw [HCL.out, ← hK]
 obtain ⟨tw, htw⟩ : ∃ tw, tw = twiceTo K 6 := ⟨_, rfl⟩
 rw [← htw]
 have HTW : Hid _ := htw
 have HTL : Hid (tw.length ≤ 6) := by rw [htw]; exact twiceTo_len K 6
 have HK : Hid _ := hK
 clear hK hF HCL htw
 go_enter Try.func13, Try.ntmps13
 obtain ⟨y0, y1⟩ := box2 hD1 rfl rfl
 go_wp2_with fail
 obtain ⟨W, hW⟩ : ∃ W, W = ((w.alloc (.cells #[.slice ab d.blocks.length cb, .slice al d.late.length cl] 27)).alloc (.cells #[.slice none 0 0, .slice none 0 0] 27)).alloc zeroR := ⟨_, rfl⟩
 have hWs : W.heap.size = w.heap.size + 3 := by rw [hW]; simp
 rw [← hW] at g0 hD1 hZ1 hQ1 y0 y1 ⊢
 clear hW
 refine (rkeep_c S n d 0 _ W (fun b h => by have := hS b h; omega) (hd.grow g0) HF.out (by omega)).mono ?_
 rw [← HK.out, hWs]
 rintro r w1 ⟨v1, rfl, h1, g1⟩
 obtain ⟨b1, e1, l1, m1, rfl, h1b, h1l⟩ := h1.form
 have hD2 := (g1.block _ (heap_lt hD1)).trans hD1
 have hZ2 := (g1.block _ (heap_lt hZ1)).trans hZ1
 have hQ2 := (g1.block _ (heap_lt hQ1)).trans hQ1
 have gw1 := g0.trans g1
 clear y0 y1
 obtain ⟨y0, y1⟩ := box2 hD2 rfl rfl
 have f0 := box_frozen hD2 0
 have f1 := box_frozen hD2 1
 obtain ⟨hp1, hp2⟩ := box_two hD2 (.slice b1 K.blocks.length e1) (.slice l1 K.late.length m1)
 have hZ3 := (hp2.block _ (heap_lt hZ2) (by omega)).trans hZ2
 have hQ3 := (hp2.block _ (heap_lt hQ2) (by omega)).trans hQ2
 have hns : ¬ Upon S (w.heap.size + 3) w.heap.size := upon_not hS (by omega)
 have hbb := h1b.but hp2 hns
 have hll := h1l.but hp2 hns
 have gw2 := hp2.grow gw1 (Nat.le_refl _)
 have cs := cell_set
 clear h1 h1b h1l hD2 hZ2 hQ2 hp2 gw1 g1 g0 hD1 hZ1 hQ1 hd HF
 go_wp2_with fail
 clear y0 y1 f0 f1 cs
 generalize (w1.setCell ⟨w.heap.size, 0, none⟩ (.slice b1 K.blocks.length e1)).setCell ⟨w.heap.size, 1, none⟩ (.slice l1 K.late.length m1) = W2 at *
 have HSZ2 : Hid (w.heap.size + 3 ≤ W2.heap.size) := heap_lt hQ3
 refine wp_region_x [pl (ex (.agg #[.slice b1 K.blocks.length e1, .slice l1 K.late.length m1])), pl (ex (.agg (repA (cnt K 6)))), pl (ex (.agg #[.slice b1 K.blocks.length e1, .slice l1 K.late.length m1])), pl ((fun v w' => ∃ css, OutR intShape (fun _ => False) W2.heap.size v tw css w')), pl ((fun _ _ => True)), pl ((fun _ _ => True)), pl1 3 ((fun v u _ => v = u))] [none, none, none, none, none, some ((BoxStep 37))] (RepJ W2 (repA (cnt K 6)) 4 5) (by kernel_rfl) (by kernel_rfl) ⟨st_pl (st_ex _), st_pl (st_ex _), st_pl (st_ex _), st_pl ((fun _ _ _ hg h => h.imp fun _ x => x.grow hg)), st_pl ((fun _ _ _ _ _ => trivial)), st_pl ((fun _ _ _ _ _ => trivial)), (fun _ _ _ _ _ h => h), trivial⟩ ⟨⟨(fun w => .inl rfl), ⟨.inr (fun _ _ _ _ _ h => h), .inr (fun _ _ _ _ _ h => h), .inr (fun _ _ _ _ _ h => h), .inr ((fun v _ w1 w' hs hq => hq.imp fun _ x => OutR.boxI x (by decide) hs)), .inr ((fun _ _ _ _ _ _ => trivial)), .inl (by kernel_rfl), .inl (by kernel_rfl), trivial⟩⟩, trivial⟩ ⟨(fun h => by cases h), (fun h => by cases h), (fun h => by cases h), (fun h => by cases h), (fun h => by cases h), fun _ _ _ _ h => h, (fun h => by cases h), trivial⟩ (RepJ.start _ _ _ _) ?_ ?_
 ·refine ⟨?_, ?_, ?_, ?_, ?_, ?_, ?_, trivial⟩
  ·refine needx_plain rfl (fun a w' dn hr hg hin => ?_)
   have e1 : a.eval (.tmp 1) = .pointer (some ⟨w.heap.size, 0, none⟩) := insw_ext hin 1 (by kernel_rfl)
   have hh := (hg.1.block _ (heap_lt hp1)).trans hp1
   obtain ⟨z0, z1⟩ := box2 hh rfl rfl
   refine uponx_val ?_ hg rfl
   clear hin hg hr hh
   obtain ⟨ek, ef⟩ := evs a
   generalize a.eval = ev at *
   go_simp
   all_goals first | omega | (intro _; omega) | go_arith
  ·refine needx_plain rfl (fun a w' dn hr hg hin => ?_)
   have e16 : a.eval (.tmp 16) = _ := insw_on hin 0 (by kernel_rfl)
   refine uponw_call (f := 30) (args := #[.agg #[.slice b1 K.blocks.length e1, .slice l1 K.late.length m1]]) ?_ ((rreport_any 0 K _ w' ⟨_, _, rfl, hbb.p.grow hg.1, hll.p.grow hg.1⟩ HFK.out (by omega)).mono ?_)
   ·clear hin hg hr
    obtain ⟨ek, ef⟩ := evs a
    generalize a.eval = ev at *
    go_simp
    all_goals first | omega | (intro _; omega) | go_arith
   ·rintro e w2 ⟨rfl, g2⟩
    exact ⟨_, rfl, g2, trivial, RepJ.on hg g2, rfl⟩
  ·refine needx_plain rfl (fun a w' dn hr hg hin => ?_)
   have e1 : a.eval (.tmp 1) = .pointer (some ⟨w.heap.size, 0, none⟩) := insw_ext hin 1 (by kernel_rfl)
   have hh := (hg.1.block _ (heap_lt hp1)).trans hp1
   obtain ⟨z0, z1⟩ := box2 hh rfl rfl
   refine uponx_val ?_ hg rfl
   clear hin hg hr hh
   obtain ⟨ek, ef⟩ := evs a
   generalize a.eval = ev at *
   go_simp
   all_goals first | omega | (intro _; omega) | go_arith
  ·refine needx_plain rfl (fun a w' dn hr hg hin => ?_)
   have e18 : a.eval (.tmp 18) = _ := insw_on hin 2 (by kernel_rfl)
   refine uponw_call (f := 15) (args := #[.agg #[.slice b1 K.blocks.length e1, .slice l1 K.late.length m1]]) ?_ ((rtwice_any 0 K _ w' ⟨_, _, rfl, hbb.p.grow hg.1, hll.p.grow hg.1⟩ HFK.out (by omega)).mono ?_)
   ·clear hin hg hr
    obtain ⟨ek, ef⟩ := evs a
    generalize a.eval = ev at *
    go_simp
    all_goals first | omega | (intro _; omega) | go_arith
   ·rw [← HTW.out]
    rintro e w2 ⟨v2, css, rfl, hO, g2⟩
    exact ⟨_, rfl, g2, trivial, RepJ.on hg g2, css, hO.len, fun i hi => hO.each i hi, own_mono hO.row hg.1.size⟩
  ·refine needx_plain rfl (fun a w' dn hr hg hin => ?_)
   refine uponx_step (v := .pointer (some ⟨w'.heap.size, 0, none⟩)) (w' := w'.alloc zeroR) ?_ (grow_alloc _ _) (RepJ.made hg (by decide) (hr.not1 5 (by kernel_rfl))) trivial
   clear hin hg hr
   obtain ⟨ek, ef⟩ := evs a
   generalize a.eval = ev at *
   go_simp
   all_goals first | omega | (intro _; omega) | go_arith
  ·refine needx_plain rfl (fun a w' dn hr hg hin => ?_)
   have e5 : ((fun _ _ => True)) (a.eval (.tmp 5)) w' := insw_on hin 4 (by kernel_rfl)
   have e17 : a.eval (.tmp 17) = _ := insw_on hin 1 (by kernel_rfl)
   obtain ⟨g, hf, hgg, hh⟩ := hg.2.1 (hr.rd 4 (by kernel_rfl)) hr.un
   replace hf : a.eval (.tmp 5) = .pointer (some ⟨g, 0, none⟩) := hf
   obtain ⟨hq1, hq2⟩ := box_put6 hh (.int .i64 (cnt K 6 0)) (.int .i64 (cnt K 6 1)) (.int .i64 (cnt K 6 2)) (.int .i64 (cnt K 6 3)) (.int .i64 (cnt K 6 4)) (.int .i64 (cnt K 6 5))
   obtain ⟨y0, y1, y2, y3, y4⟩ := box5 hh rfl rfl rfl rfl rfl
   have y5 := box_cell hh 5 _ rfl
   obtain ⟨f0, f1, f2, f3⟩ := boxf4 hh
   have f4 := box_frozen hh 4
   have f5 := box_frozen hh 5
   have cs := cell_set
   refine uponx_skip (w' := _) ?_ (.inr ⟨g, _, _, hq2, hh, hq1, rfl⟩) (RepJ.put hg (by decide) hf hgg hq2 hq1) trivial
   clear hin hg hr hq1 hq2 hh
   obtain ⟨ek, ef⟩ := evs a
   generalize a.eval = ev at *
   go_simp
   all_goals first | omega | (intro _; omega) | go_arith
  ·refine needx_plain rfl (fun a w' dn hr hg hin => ?_)
   have e19 : ((fun v w' => ∃ css, OutR intShape (fun _ => False) W2.heap.size v tw css w')) (a.eval (.tmp 19)) w' := insw_on hin 3 (by kernel_rfl)
   exact uponx_assign rfl hg rfl
 ·intro vs w' dn hdn hg ht
  obtain ⟨q16, q17, q18, q19, q5, qo5, q6, -⟩ := ht
  have r16 : vs 0 = .agg #[.slice b1 K.blocks.length e1, .slice l1 K.late.length m1] := q16
  have r17 : vs 1 = .agg (repA (cnt K 6)) := q17
  have r18 : vs 2 = .agg #[.slice b1 K.blocks.length e1, .slice l1 K.late.length m1] := q18
  replace q19 : ((fun v w' => ∃ css, OutR intShape (fun _ => False) W2.heap.size v tw css w')) (vs 3) w' := q19
  replace q5 : ((fun _ _ => True)) (vs 4) w' := q5
  replace qo5 : ((fun _ _ => True)) (vs 5) w' := qo5
  replace q6 : ((fun v u _ => v = u)) (vs 6) (vs 3) w' := q6
  clear q16 q17 q18
  simp only [putAll, Act.put, List.setIfInBounds_toArray, List.set_cons_zero, List.set_cons_succ, Nat.reduceAdd, r16, r17, r18]
  clear r16 r17 r18
  obtain ⟨g5, hf5, hg5, hr5⟩ := hg.2.2 (hdn 5 (by decide))
  obtain ⟨css, hT⟩ := q19
  have e6 : vs 6 = vs 3 := q6
  rw [e6, hf5]
  have hTS := hT.slice
  obtain ⟨at3, ct3, h3⟩ := hTS.form
  rw [h3] at hTS ⊢
  have gw3 := gw2.trans hg.1
  have hD3 := (hg.1.block _ (heap_lt hp1)).trans hp1
  have hZ4 := (hg.1.block _ (heap_lt hZ3)).trans hZ3
  have hQ4 := (hg.1.block _ (heap_lt hQ3)).trans hQ3
  have hbb3 := hbb.grow hg.1
  have hll3 := hll.grow hg.1
  have hTT : SliceS intShape (Upon (fun _ => False) (w.heap.size + 3)) w' (.slice at3 tw.length ct3) tw := hTS.mono (upon_le HSZ2.out)
  have HG5 : Hid (w.heap.size + 3 ≤ g5) := Nat.le_trans HSZ2.out hg5
  clear hg hdn q5 qo5 q6 e6 hT hTS hf5 h3 hg5 hp1 hZ3 hQ3 hbb hll gw2
  go_wp2_with fail
  go_loopw [20] (fun i wr => ∃ (p : Nat) (D : Dk) (bo : Option Addr) (eo : Nat) (lo : Option Addr) (mo : Nat), p ≤ 6 ∧ i = .int .i64 (p : Int) ∧ Hid (D = tidyTo K tw p) ∧ Grow w wr ∧ wr.heap[w.heap.size]? = some (.cells #[.slice bo D.blocks.length eo, .slice lo D.late.length mo] 27 (0, 0)) ∧ BlocksS (Upon S (w.heap.size + 3)) wr (.slice bo D.blocks.length eo) D.blocks ∧ LateS (Upon S (w.heap.size + 3)) wr (.slice lo D.late.length mo) D.late ∧ wr.heap[w.heap.size + 1]? = some (.cells #[.slice none 0 0, .slice none 0 0] 27 (0, 0)) ∧ wr.heap[w.heap.size + 2]? = some zeroR ∧ wr.heap[g5]? = some (.cells (repA (cnt K 6)) 37 (0, 0)) ∧ SliceS intShape (Upon (fun _ => False) (w.heap.size + 3)) wr (.slice at3 tw.length ct3) tw) (fun i _ => 6 - (intOf i).toNat)
  case atStart => exact ⟨0, K, b1, e1, l1, m1, by omega, rfl, (by show _ = _; rfl), gw3, hD3, hbb3, hll3, hZ4, hQ4, hr5, hTT⟩
  case round =>
   clear gw3 hD3 hbb3 hll3 hZ4 hQ4 hr5 hTT
   obtain ⟨p, D, bo, eo, lo, mo, hp, rfl, HD, gw, hD, hb, hl, hZ, hQ, hr5, hTT⟩ := hrel
   have HFD : Hid (D.Fine 0) := by rw [HD.out]; exact tidyTo_fine HFK.out tw p
   have hsm := HFD.out.small (by omega)
   by_cases hlt : p < 6
   ·have HDN : Hid (tidyTo K tw (p + 1) = (D.pairD (p : Int) (if tw.contains (p : Int) = true then Rec.free else D.tell (p : Int))).flush) := by show _ = _; rw [HD.out]; rfl
    obtain ⟨y0, y1⟩ := box2 hD rfl rfl
    go_wp2_with fail
    refine (rlook_c D (p : Int) _ wr ⟨_, _, rfl, hb.p, hl.p⟩ hsm.1 hsm.2).mono ?_
    rintro r w4 ⟨dv, rfl, ho, g4⟩
    obtain ⟨a9, c9, rfl⟩ := own_slice ho
    generalize D.tell (p : Int) = tl at *
    obtain ⟨g9, hg9⟩ : ∃ g9, g9 = w4.heap.size := ⟨_, rfl⟩
    have hBt : BytesS (fun b => b < g9) w4 (.slice a9 tl.data.length c9) tl.data := by rw [hg9]; exact (own_s (fun _ => False) ho).caps.mono fun _ h => h.2
    have HLE : Hid (wr.heap.size ≤ g9) := by rw [hg9]; exact g4.size
    have g5' := grow_alloc w4 (.cells #[.int .i64 tl.kind, .int .i64 tl.key, .int .i64 tl.ver, .slice a9 tl.data.length c9] 66)
    have hX := heap_new w4 #[.int .i64 tl.kind, .int .i64 tl.key, .int .i64 tl.ver, .slice a9 tl.data.length c9] 66
    rw [← hg9] at hX
    have gg := g4.trans g5'
    have hD5 := (gg.block _ (heap_lt hD)).trans hD
    have hZ5 := (gg.block _ (heap_lt hZ)).trans hZ
    have hQ5 := (gg.block _ (heap_lt hQ)).trans hQ
    have hr6 := (gg.block _ (heap_lt hr5)).trans hr5
    have hbC := hb.capd.grow gg
    have hlC := hl.capd.grow gg
    have hTC := (hTT.caps (by decide)).grow gg
    have gw5 := gw.trans gg
    have hB5 := hBt.grow g5'
    have HDL : Hid (w.heap.size + 2 < wr.heap.size ∧ g5 < wr.heap.size) := ⟨heap_lt hQ, heap_lt hr5⟩
    obtain ⟨N0, hN0⟩ : ∃ N0, N0 = wr.heap.size := ⟨_, rfl⟩
    rw [← hN0] at hbC hlC hTC HDL HLE
    clear y0 y1 hD hZ hQ hr5 hb hl hTT gw ho g4 g5' gg hBt hN0
    go_wp2_with fail
    rw [← hg9]
    obtain ⟨W5, hW5⟩ : ∃ W5, W5 = w4.alloc (.cells #[.int .i64 tl.kind, .int .i64 tl.key, .int .i64 tl.ver, .slice a9 tl.data.length c9] 66) := ⟨_, rfl⟩
    rw [← hW5] at hX hD5 hZ5 hQ5 hr6 hbC hlC hTC gw5 hB5 ⊢
    clear hW5 hg9
    go_loopw [31] (fun i wq => ∃ (q : Nat) (rr : Rec) (ar : Option Addr) (cr : Nat), q ≤ tw.length ∧ i = .int .i64 (q : Int) ∧ Hid (rr = if (tw.take q).contains (p : Int) = true then Rec.free else tl) ∧ GrowBut g9 W5 wq ∧ wq.heap[g9]? = some (.cells #[.int .i64 rr.kind, .int .i64 rr.key, .int .i64 rr.ver, .slice ar rr.data.length cr] 66 (0, 0)) ∧ BytesS (fun b => b < g9) wq (.slice ar rr.data.length cr) rr.data) (fun i _ => tw.length - (intOf i).toNat)
    case atStart => exact ⟨0, tl, a9, c9, Nat.zero_le _, rfl, (by show _ = _; simp), GrowBut.refl _ _, hX, hB5⟩
    case round =>
     clear hX hB5
     obtain ⟨q, rr, ar, cr, hq, rfl, HRR, gb, hX, hB⟩ := hrel
     have htl := HTL.out
     by_cases hql : q < tw.length
     ·obtain ⟨b, off, hv1, hSb, cs1, hcs1, hc1⟩ := (hTC.but gb (fun h => by have := HLE.out; omega)).at q hql
      cases hv1
      have hcs2 : cs1 = [.int .i64 tw[q]] := hcs1
      subst hcs2
      have t0 : wr.cell? ⟨b, off + q, none⟩ = some (.int .i64 tw[q]) := by
       have := hc1 0 _ rfl
       simpa [intShape] using this
      have HTK : Hid ((tw.take (q + 1)).contains (p : Int) = ((tw.take q).contains (p : Int) || (p : Int) == tw[q])) := contains_next tw q hql _
      generalize tw[q] = x at *
      clear hc1 hcs1
      by_cases hx : x = (p : Int)
      ·have dx : (x == (p : Int)) = true := by simp [hx]
       have HR2 : Hid (Rec.free = if (tw.take (q + 1)).contains (p : Int) = true then Rec.free else tl) := by show _ = _; rw [HTK.out, hx]; simp
       obtain ⟨hq1, hq2⟩ := box_put hX (.int .i64 1) (.int .i64 0) (.int .i64 0) (.slice none 0 0)
       obtain ⟨y0, y1, y2, y3⟩ := box4 hX rfl rfl rfl rfl
       obtain ⟨f0, f1, f2, f3⟩ := boxf4 hX
       have cs := cell_set
       have gb2 := gb.trans hq2
       clear hq2 HRR HTK hx hX hB
       go_wp2_with fail
       go_roundw
       case rel => exact ⟨q + 1, Rec.free, none, 0, by omega, by go_num, HR2, gb2, hq1, .inl ⟨none, 0, rfl, rfl, fun _ => rfl⟩⟩
       case measure => simp [intOf]; omega
      ·have dx : (x == (p : Int)) = false := by simp [hx]
       have HR2 : Hid (rr = if (tw.take (q + 1)).contains (p : Int) = true then Rec.free else tl) := by
        show _ = _
        rw [HTK.out, HRR.out]
        have : ((p : Int) == x) = false := by simp; omega
        rw [this, Bool.or_false]
       clear HRR HTK hx
       go_wp2_with fail
       go_roundw
       case rel => exact ⟨q + 1, rr, ar, cr, by omega, by go_num, HR2, gb, hX, hB⟩
       case measure => simp [intOf]; omega
     ·have HRE : Hid (rr = if tw.contains (p : Int) = true then Rec.free else tl) := by
       show _ = _
       have h := HRR.out
       rw [List.take_of_length_le (by omega)] at h
       exact h
      have HGS : Hid (w.heap.size + 2 < g9 ∧ g5 < g9 ∧ N0 ≤ g9) := ⟨by have := HLE.out; have := HDL.out; omega, by have := HLE.out; have := HDL.out; omega, HLE.out⟩
      have hD6 := (gb.block _ (heap_lt hD5) (by have := HGS.out; omega)).trans hD5
      have hZ6 := (gb.block _ (heap_lt hZ5) (by have := HGS.out; omega)).trans hZ5
      have hQ6 := (gb.block _ (heap_lt hQ5) (by have := HGS.out; omega)).trans hQ5
      have hr7 := (gb.block _ (heap_lt hr6) (by have := HGS.out; omega)).trans hr6
      have hb6 := hbC.but gb (fun h => by have := HGS.out; have := h.2; omega)
      have hl6 := hlC.but gb (fun h => by have := HGS.out; have := h.2; omega)
      have hT6 := hTC.but gb (fun h => by have := HGS.out; have := h.2; omega)
      have gw6 := gb.grow gw5 (by have := HGS.out; omega)
      have HXL : Hid (g9 < wr.heap.size) := heap_lt hX
      clear hD5 hZ5 hQ5 hr6 hbC hlC hTC gw5 gb HRR
      obtain ⟨y0, y1⟩ := box2 hD6 rfl rfl
      obtain ⟨x0, x1, x2, x3⟩ := box4 hX rfl rfl rfl rfl
      obtain ⟨PD, hPD⟩ : ∃ PD, PD = D.pairD (p : Int) ⟨rr.kind, rr.key, rr.ver, rr.data⟩ := ⟨_, rfl⟩
      have HPD : Hid _ := hPD
      have HFP : Hid (PD.Fine 2) := by rw [hPD]; exact HFD.out.pair _ _
      clear hPD
      go_wp2_with fail
      refine (rputPair_c (fun b => Upon S (w.heap.size + 3) b ∧ b < N0) D (p : Int) rr.kind rr.key rr.ver rr.data _ _ wr (fun b h => by have := HGS.out; have := HXL.out; have := h.2; omega) ⟨_, _, rfl, hb6, hl6⟩ hB.p hsm.1 hsm.2).mono ?_
      rw [← HPD.out]
      rintro r w7 ⟨v7, rfl, h7, g7⟩
      obtain ⟨b7, e7, l7, m7, rfl, h7b, h7l⟩ := h7.form
      have k7b := h7b.capd
      have k7l := h7l.capd
      have g8 := grow_alloc w7 (.cells #[.slice b7 PD.blocks.length e7, .slice l7 PD.late.length m7] 27)
      have hV := heap_new w7 #[.slice b7 PD.blocks.length e7, .slice l7 PD.late.length m7] 27
      have s8 := World.size_alloc w7 (.cells #[.slice b7 PD.blocks.length e7, .slice l7 PD.late.length m7] 27)
      have gg := g7.trans g8
      have hD8 := (gg.block _ (heap_lt hD6)).trans hD6
      have hZ8 := (gg.block _ (heap_lt hZ6)).trans hZ6
      have hQ8 := (gg.block _ (heap_lt hQ6)).trans hQ6
      have hr8 := (gg.block _ (heap_lt hr7)).trans hr7
      have hT8 := hT6.grow gg
      have gw8 := gw6.trans gg
      have u8b := k7b.grow g8
      have u8l := k7l.grow g8
      have HW7 : Hid (wr.heap.size ≤ w7.heap.size) := g7.size
      clear y0 y1 x0 x1 x2 x3 hD6 hZ6 hQ6 hr7 hb6 hl6 hT6 gw6 hX hB g7 g8 gg h7 h7b h7l k7b k7l
      obtain ⟨v0, v1⟩ := box2 hV rfl rfl
      go_wp2_with fail
      obtain ⟨N7, hN7⟩ : ∃ N7, N7 = w7.heap.size := ⟨_, rfl⟩
      rw [← hN7] at u8b u8l s8 hV v0 v1 HW7 ⊢
      clear hN7
      obtain ⟨W8, hW8⟩ : ∃ W8, W8 = w7.alloc (.cells #[.slice b7 PD.blocks.length e7, .slice l7 PD.late.length m7] 27) := ⟨_, rfl⟩
      rw [← hW8] at hV s8 hD8 hZ8 hQ8 hr8 hT8 gw8 u8b u8l v0 v1 ⊢
      clear hW8
      obtain ⟨N6, hN6⟩ : ∃ N6, N6 = wr.heap.size := ⟨_, rfl⟩
      rw [← hN6] at u8b u8l HXL HW7
      clear hN6
      obtain ⟨FD, hFD⟩ : ∃ FD, FD = PD.flush := ⟨_, rfl⟩
      have HFF : Hid _ := hFD
      have HDE : Hid (FD = tidyTo K tw (p + 1)) := by show _ = _; rw [HDN.out, hFD, HPD.out, ← HRE.out]
      clear hFD
      refine (rflush_c (fun b => Upon (fun b => Upon S (w.heap.size + 3) b ∧ b < N0) N6 b ∧ b < N7) 2 PD _ W8 (fun b h => by have := h.2; omega) ⟨_, _, rfl, u8b, u8l⟩ HFP.out (by omega)).mono ?_
      rw [← HFF.out]
      rintro r wA ⟨vA, rfl, hA, gA⟩
      obtain ⟨bA, eA, lA, mA, rfl, hAb, hAl⟩ := hA.form
      have hD9 := (gA.block _ (heap_lt hD8)).trans hD8
      have hZ9 := (gA.block _ (heap_lt hZ8)).trans hZ8
      have hQ9 := (gA.block _ (heap_lt hQ8)).trans hQ8
      have hr9 := (gA.block _ (heap_lt hr8)).trans hr8
      have hT9 := hT8.grow gA
      have gw9 := gw8.trans gA
      clear v0 v1 hV hD8 hZ8 hQ8 hr8 hT8 gw8 gA u8b u8l hA
      have hmx : ∀ b, Upon (fun b => Upon (fun b => Upon S (w.heap.size + 3) b ∧ b < N0) N6 b ∧ b < N7) W8.heap.size b → Upon S (w.heap.size + 3) b := fun b h => h.elim (fun x => x.1.elim (fun y => y.1) (fun y => .inr (by have := HGS.out; have := HXL.out; omega))) (fun x => .inr (by have := HGS.out; have := HXL.out; have := HW7.out; omega))
      have hns3 : ¬ Upon S (w.heap.size + 3) w.heap.size := upon_not hS (by omega)
      obtain ⟨ht1, ht2⟩ := box_two hD9 (.slice bA FD.blocks.length eA) (.slice lA FD.late.length mA)
      have hZ10 := (ht2.block _ (heap_lt hZ9) (by omega)).trans hZ9
      have hQ10 := (ht2.block _ (heap_lt hQ9) (by omega)).trans hQ9
      have hr10 := (ht2.block _ (heap_lt hr9) (by have := HG5.out; omega)).trans hr9
      have hT10 := (hT9.mono (fun b (h : Upon (fun _ => False) (w.heap.size + 3) b ∧ b < N0) => h.1)).but ht2 (fun h => h.elim (fun x => x) (fun x => by omega))
      have hb10 := (hAb.mono hmx).but ht2 hns3
      have hl10 := (hAl.mono hmx).but ht2 hns3
      have gw10 := ht2.grow gw9 (Nat.le_refl _)
      obtain ⟨y0, y1⟩ := box2 hD9 rfl rfl
      have f0 := box_frozen hD9 0
      have f1 := box_frozen hD9 1
      have cs := cell_set
      clear hD9 hZ9 hQ9 hr9 hT9 gw9 ht2 hAb hAl hmx hns3 s8 HPD HDN HRE
      go_wp2_with fail
      go_roundw
      case rel => exact ⟨p + 1, FD, bA, eA, lA, mA, by omega, by go_num, HDE, gw10, ht1, hb10, hl10, hZ10, hQ10, hr10, hT10⟩
      case measure => simp [intOf]; omega
   ·have HDE : Hid (tidyTo K tw 6 = D) := by show _ = _; rw [HD.out, show p = 6 by omega]
    clear HD HFD hsm
    go_wp2_with fail
    obtain ⟨W6, rfl⟩ : ∃ W6 : World, W6 = wr := ⟨_, rfl⟩
    refine wp_region_v [pl (ex (.agg #[.slice bo D.blocks.length eo, .slice lo D.late.length mo])), pl (ex (.agg (repA (cnt K 6)))), pl (ex (.slice at3 tw.length ct3)), pl ((fun _ _ => True)), pl ((fun _ _ => True)), pl (ex (.slice at3 tw.length ct3))] [none, none, none, some ((ButStep (w.heap.size + 1))), some ((ButStep (w.heap.size + 2)))] (fun dn w' => Grow w w' ∧ w'.heap[w.heap.size]? = some (.cells #[.slice bo D.blocks.length eo, .slice lo D.late.length mo] 27 (0, 0)) ∧ w'.heap[g5]? = some (.cells (repA (cnt K 6)) 37 (0, 0)) ∧ BlocksS (Upon S (w.heap.size + 3)) w' (.slice bo D.blocks.length eo) D.blocks ∧ LateS (Upon S (w.heap.size + 3)) w' (.slice lo D.late.length mo) D.late ∧ SliceS intShape (Upon (fun _ => False) (w.heap.size + 3)) w' (.slice at3 tw.length ct3) tw ∧ (dn 3 = false → w'.heap[w.heap.size + 1]? = some (.cells #[.slice none 0 0, .slice none 0 0] 27 (0, 0))) ∧ (dn 3 = true → w'.heap[w.heap.size + 1]? = some (.cells #[.slice bo D.blocks.length eo, .slice lo D.late.length mo] 27 (0, 0))) ∧ (dn 4 = false → w'.heap[w.heap.size + 2]? = some zeroR) ∧ (dn 4 = true → w'.heap[w.heap.size + 2]? = some (.cells (repA (cnt K 6)) 37 (0, 0)))) (by kernel_rfl) (by kernel_rfl) ⟨st_pl (st_ex _), st_pl (st_ex _), st_pl (st_ex _), st_pl ((fun _ _ _ _ _ => trivial)), st_pl ((fun _ _ _ _ _ => trivial)), st_pl (st_ex _), trivial⟩ ⟨⟨(fun w => GrowBut.refl _ w), ⟨.inr (fun _ _ _ _ _ h => h), .inr (fun _ _ _ _ _ h => h), .inr (fun _ _ _ _ _ h => h), .inl (by kernel_rfl), .inl (by kernel_rfl), .inl (by kernel_rfl), trivial⟩⟩, ⟨(fun w => GrowBut.refl _ w), ⟨.inr (fun _ _ _ _ _ h => h), .inr (fun _ _ _ _ _ h => h), .inr (fun _ _ _ _ _ h => h), .inr ((fun _ _ _ _ _ _ => trivial)), .inl (by kernel_rfl), .inl (by kernel_rfl), trivial⟩⟩, trivial⟩ ⟨(fun h => by cases h), (fun h => by cases h), (fun h => by cases h), fun _ _ _ _ h => h, fun _ _ _ _ h => h, (fun h => by cases h), trivial⟩ ⟨gw.drew, hD, hr5, hb, hl, hTT, fun _ => hZ, (fun h => by cases h), fun _ => hQ, (fun h => by cases h)⟩ ?_ ?_
    ·refine ⟨?_, ?_, ?_, ?_, ?_, ?_, trivial⟩
     ·refine needv_plain rfl (fun a w' dn hr hg hin => ?_)
      have e1 : a.eval (.tmp 1) = .pointer (some ⟨w.heap.size, 0, none⟩) := insw_ext hin 1 (by kernel_rfl)
      have z0 := box_cell hg.2.1 0 _ rfl
      have z1 := box_cell hg.2.1 1 _ rfl
      refine uponw_val ?_ hg rfl
      clear hin hg hr
      obtain ⟨ek, ef⟩ := evs a
      generalize a.eval = ev at *
      go_simp
      all_goals first | omega | (intro _; omega) | go_arith
     ·refine needv_plain rfl (fun a w' dn hr hg hin => ?_)
      have e5 : a.eval (.tmp 5) = .pointer (some ⟨g5, 0, none⟩) := insw_ext hin 5 (by kernel_rfl)
      have z0 := box_cell hg.2.2.1 0 _ rfl
      have z1 := box_cell hg.2.2.1 1 _ rfl
      have z2 := box_cell hg.2.2.1 2 _ rfl
      have z3 := box_cell hg.2.2.1 3 _ rfl
      have z4 := box_cell hg.2.2.1 4 _ rfl
      have z5 := box_cell hg.2.2.1 5 _ rfl
      refine uponw_val ?_ hg rfl
      clear hin hg hr
      obtain ⟨ek, ef⟩ := evs a
      generalize a.eval = ev at *
      go_simp
      all_goals first | omega | (intro _; omega) | go_arith
     ·refine needv_plain rfl (fun a w' dn hr hg hin => ?_)
      have e : a.eval (.tmp 6) = .slice at3 tw.length ct3 := insw_ext hin 6 (by kernel_rfl)
      exact uponw_move rfl hg e
     ·refine needv_plain rfl (fun a w' dn hr hg hin => ?_)
      have e2 : a.eval (.tmp 2) = .pointer (some ⟨w.heap.size + 1, 0, none⟩) := insw_ext hin 2 (by kernel_rfl)
      have e50 : a.eval (.tmp 50) = _ := insw_on hin 0 (by kernel_rfl)
      have hh := hg.2.2.2.2.2.2.1 hr.un
      obtain ⟨hq1, hq2⟩ := box_two hh (.slice bo D.blocks.length eo) (.slice lo D.late.length mo)
      obtain ⟨y0, y1⟩ := box2 hh rfl rfl
      have f0 := box_frozen hh 0
      have f1 := box_frozen hh 1
      have cs := cell_set
      have hnu : ¬ Upon S (w.heap.size + 3) (w.heap.size + 1) := upon_not (fun b h => Nat.lt_succ_of_lt (hS b h)) (by omega)
      refine uponw_skip (w' := _) ?_ hq2 ⟨hq2.grow hg.1 (by omega), (hq2.block _ (heap_lt hg.2.1) (by omega)).trans hg.2.1, (hq2.block _ (heap_lt hg.2.2.1) (by have := HG5.out; omega)).trans hg.2.2.1, hg.2.2.2.1.but hq2 hnu, hg.2.2.2.2.1.but hq2 hnu, hg.2.2.2.2.2.1.but hq2 (fun h => h.elim (fun x => x) (fun x => by omega)), (fun h => by simp [upd] at h), fun _ => hq1, fun h => (hq2.block _ (heap_lt (hg.2.2.2.2.2.2.2.2.1 h)) (by omega)).trans (hg.2.2.2.2.2.2.2.2.1 h), fun h => (hq2.block _ (heap_lt (hg.2.2.2.2.2.2.2.2.2 h)) (by omega)).trans (hg.2.2.2.2.2.2.2.2.2 h)⟩ trivial
      clear hin hg hr hq1 hq2 hh hnu
      obtain ⟨ek, ef⟩ := evs a
      generalize a.eval = ev at *
      go_simp
      all_goals first | omega | (intro _; omega) | go_arith
     ·refine needv_plain rfl (fun a w' dn hr hg hin => ?_)
      have e3 : a.eval (.tmp 3) = .pointer (some ⟨w.heap.size + 1 + 1, 0, none⟩) := insw_ext hin 3 (by kernel_rfl)
      have e51 : a.eval (.tmp 51) = _ := insw_on hin 1 (by kernel_rfl)
      have hh := hg.2.2.2.2.2.2.2.2.1 hr.un
      obtain ⟨hq1, hq2⟩ := box_put6 hh (.int .i64 (cnt K 6 0)) (.int .i64 (cnt K 6 1)) (.int .i64 (cnt K 6 2)) (.int .i64 (cnt K 6 3)) (.int .i64 (cnt K 6 4)) (.int .i64 (cnt K 6 5))
      obtain ⟨y0, y1, y2, y3, y4⟩ := box5 hh rfl rfl rfl rfl rfl
      have y5 := box_cell hh 5 _ rfl
      obtain ⟨f0, f1, f2, f3⟩ := boxf4 hh
      have f4 := box_frozen hh 4
      have f5 := box_frozen hh 5
      have cs := cell_set
      have hnu : ¬ Upon S (w.heap.size + 3) (w.heap.size + 2) := upon_not (fun b h => by have := hS b h; omega) (by omega)
      refine uponw_skip (w' := _) ?_ hq2 ⟨hq2.grow hg.1 (by omega), (hq2.block _ (heap_lt hg.2.1) (by omega)).trans hg.2.1, (hq2.block _ (heap_lt hg.2.2.1) (by have := HG5.out; omega)).trans hg.2.2.1, hg.2.2.2.1.but hq2 hnu, hg.2.2.2.2.1.but hq2 hnu, hg.2.2.2.2.2.1.but hq2 (fun h => h.elim (fun x => x) (fun x => by omega)), fun h => (hq2.block _ (heap_lt (hg.2.2.2.2.2.2.1 h)) (by omega)).trans (hg.2.2.2.2.2.2.1 h), fun h => (hq2.block _ (heap_lt (hg.2.2.2.2.2.2.2.1 h)) (by omega)).trans (hg.2.2.2.2.2.2.2.1 h), (fun h => by simp [upd] at h), fun _ => hq1⟩ trivial
      clear hin hg hr hq1 hq2 hh hnu
      obtain ⟨ek, ef⟩ := evs a
      generalize a.eval = ev at *
      go_simp
      all_goals first | omega | (intro _; omega) | go_arith
     ·refine needv_plain rfl (fun a w' dn hr hg hin => ?_)
      have e : a.eval (.tmp 52) = _ := insw_on hin 2 (by kernel_rfl)
      exact uponw_assign rfl hg e
    ·intro vs w' dn hdn hg ht
     obtain ⟨q50, q51, q52, qo3, qo4, q4, -⟩ := ht
     have r50 : vs 0 = .agg #[.slice bo D.blocks.length eo, .slice lo D.late.length mo] := q50
     have r51 : vs 1 = .agg (repA (cnt K 6)) := q51
     have r52 : vs 2 = .slice at3 tw.length ct3 := q52
     replace qo3 : ((fun _ _ => True)) (vs 3) w' := qo3
     replace qo4 : ((fun _ _ => True)) (vs 4) w' := qo4
     have r4 : vs 5 = .slice at3 tw.length ct3 := q4
     clear q50 q51 q52 q4
     simp only [putAll, Act.put, List.setIfInBounds_toArray, List.set_cons_zero, List.set_cons_succ, r50, r51, r52, r4]
     clear r50 r51 r52 r4
     have hz := hg.2.2.2.2.2.2.2.1 (hdn 3 (by decide))
     have hq := hg.2.2.2.2.2.2.2.2.2 (hdn 4 (by decide))
     obtain ⟨y0, y1⟩ := box2 hz rfl rfl
     obtain ⟨x0, x1, x2, x3, x4⟩ := box5 hq rfl rfl rfl rfl rfl
     have x5 := box_cell hq 5 _ rfl
     have gE := hg.1
     have hE : DiskS (Upon S w.heap.size) (tidyTo K tw 6) (.agg #[.slice bo D.blocks.length eo, .slice lo D.late.length mo]) w' := by rw [HDE.out]; exact ⟨_, _, rfl, hg.2.2.2.1.mono (upon_le (by omega)), hg.2.2.2.2.1.mono (upon_le (by omega))⟩
     have hTE := hg.2.2.2.2.2.1.mono (upon_le (B := w.heap.size) (by omega))
     clear qo3 qo4 hdn hg hz hq hD hr5 hb hl hTT hZ hQ gw
     go_wp2_with fail
     exact bodyPost_ret (v := .tuple #[.agg #[.slice bo D.blocks.length eo, .slice lo D.late.length mo], .agg (repA (cnt K 6)), .slice at3 tw.length ct3]) (by simp [results, Try.results13, go_sem, x0, x1, x2, x3, x4, x5, y0, y1]) rfl ⟨_, _, rfl, hE, hTE, gE⟩
end Go.Proofs.Ytlickojpmffmiac
