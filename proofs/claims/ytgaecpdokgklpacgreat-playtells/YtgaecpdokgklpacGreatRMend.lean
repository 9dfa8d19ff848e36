import Derived.Test.YtgaecpdokgklpacGreatRLook
set_option maxHeartbeats 8000000
namespace Go.Proofs.YtgaecpdokgklpacGreat
set_option maxRecDepth 100000
open Go.RowKit
open Plain Reg
theorem Zsh (d : Dk) (p : Int) (ab al : Option Addr) (cb cl : Nat) (w : World) (hout : p < 0 ∨ ((d.blocks.length / 2 : Nat) : Int) ≤ p) (hlen : d.blocks.length ≤ 256) :
  Calls Tryz.prog 35 #[.agg #[.slice ab d.blocks.length cb, .slice al d.late.length cl], .int .i64 p] w fun e w' => e = .returned (.tuple #[.int .i64 4, .agg #[.int .i64 1, .int .i64 0, .int .i64 0, .slice none 0 0]]) ∧ Zo w w' := by
 have hq : (d.blocks.length : Int).tdiv 2 = ((d.blocks.length / 2 : Nat) : Int) := by rw [Int.tdiv_eq_ediv_of_nonneg (by omega)]; omega
 by_cases h0 : p < 0
 all_goals
  first | (have h1 : ((d.blocks.length / 2 : Nat) : Int) ≤ p := by omega) | skip
  clear hout;go_enter Tryz.func35, Tryz.ntmps35;go_wp2_with fail;refine (Za9 _).mono ?_;rintro e w1 ⟨rfl, g1⟩;have gw : Zo w w1 := ((Zs _ _ _).trans (Zc _ _)).trans g1;have hbZ : w1.heap[w.heap.size + 1]? = some (.cells #[.int .i64 0, .int .i64 0, .int .i64 0, .slice none 0 0] 61 (0, 0)) := by
   have h := Zj (w.alloc (.cells #[.slice ab d.blocks.length cb, .slice al d.late.length cl] 26)) #[.int .i64 0, .int .i64 0, .int .i64 0, .slice none 0 0] 61;rw [World.size_alloc] at h;exact (((Zc _ _).trans g1).block _ (by simp)).trans h
  clear g1;obtain ⟨y0, y1, y2, y3⟩ := Z8 hbZ rfl rfl rfl rfl;obtain ⟨f0, f1, f2, f3⟩ := Yq hbZ;have cs := Zv;have hp := (Yh hbZ (.int .i64 1) (.int .i64 0) (.int .i64 0) (.slice none 0 0)).2;go_wp2_with fail;refine bodyPost_ret (v := .tuple #[.int .i64 4, .agg #[.int .i64 1, .int .i64 0, .int .i64 0, .slice none 0 0]]) (by simp [results, Tryz.results35, go_sem, y0, y1, y2, y3, cs]) rfl ⟨rfl, ?_⟩;exact hp.grow gw (by omega)
theorem Zfq (S : Nat → Prop) (d : Dk) (p : Int) (vb vl : Value) (w : World) (hb : Y2 S w vb d.blocks) (hl : Xk S w vl d.late) (hlen : d.blocks.length ≤ 256) (hm : d.late.length ≤ 999990) :
  Calls Tryz.prog 35 #[.agg #[vb, vl], .int .i64 p] w fun e w' => ∃ dv, e = .returned (.tuple #[.int .i64 (d.how p), .agg #[.int .i64 (d.tell p).kind, .int .i64 (d.tell p).key, .int .i64 (d.tell p).ver, dv]]) ∧ w'.ownsRow w.heap.size 5 1 dv (d.tell p).data.length ((d.tell p).data.map bv) ∧ Zo w w' := by
 obtain ⟨ab, cb, rfl⟩ := hb.p.form;obtain ⟨al, cl, rfl⟩ := hl.p.form;by_cases hout : p < 0 ∨ ((d.blocks.length / 2 : Nat) : Int) ≤ p
 ·have hn : d.noPair p = true := by unfold Dk.noPair; exact decide_eq_true hout
  have hh : d.how p = 4 := by unfold Dk.how; rw [if_pos hn]
  have ht : d.tell p = Rec.free := by unfold Dk.tell; rw [if_pos hn]
  rw [hh, ht];exact (Zsh d p ab al cb cl w hout hlen).mono fun e w' ⟨h1, h2⟩ => ⟨_, h1, ⟨rfl, .inl ⟨rfl, rfl⟩⟩, h2⟩
 ·exact Zuo S d p ab al cb cl w hb hl (by omega) (by omega) hlen hm
def Dk.mendD (d : Dk) (p : Int) : Dk := if 2 ≤ d.how p then d.pairD p (d.tell p) else d
theorem Zsc (S : Nat → Prop) (d : Dk) (p : Int) (vb vl : Value) (w : World) (hS : ∀ b, S b → b < w.heap.size) (hb : Y2 S w vb d.blocks) (hl : Xk S w vl d.late) (hlen : d.blocks.length ≤ 256) (hm : d.late.length ≤ 999990) :
  Calls Tryz.prog 31 #[.agg #[vb, vl], .int .i64 p] w fun e w' => ∃ vl', e = .returned (.tuple #[.agg #[vb, vl'], .int .i64 (d.how p)]) ∧ Xk (Zw S w.heap.size) w' vl' (d.mendD p).late ∧ Zo w w' := by
 obtain ⟨ab, cb, rfl⟩ := hb.p.form;obtain ⟨al, cl, rfl⟩ := hl.p.form;have HD : Hid (d.mendD p = if 2 ≤ d.how p then d.pairD p (d.tell p) else d) := rfl;go_enter Tryz.func31, Tryz.ntmps31;go_wp2_with fail;refine (Zfq S d p _ _ _ (by exact hb.grow (Zs _ _ _)) (by exact hl.grow (Zs _ _ _)) hlen hm).mono ?_;rintro e w1 ⟨dv, rfl, ho, g1⟩;have gw : Zo w w1 := (Zs _ _ _).trans g1;have hbD : w1.heap[w.heap.size]? = some (.cells #[.slice ab d.blocks.length cb, .slice al d.late.length cl] 26 (0, 0)) :=
  (((Zc _ _).trans g1).block _ (by simp)).trans (Zj _ _ _)
 have hbZ : w1.heap[w.heap.size + 1]? = some (.cells #[.slice none 0 0, .slice none 0 0] 26 (0, 0)) := by
  have h := Zj (w.alloc (.cells #[.slice ab d.blocks.length cb, .slice al d.late.length cl] 26)) #[.slice none 0 0, .slice none 0 0] 26;rw [World.size_alloc] at h;exact (g1.block _ (by simp)).trans h
 obtain ⟨a1, c1, rfl⟩ := Z6 ho;have hv := Qc ho;clear g1 ho;generalize d.tell p = r at *;have HW : Hid (d.how p = d.how p) := rfl;generalize hhow : d.how p = how at *;replace HW : Hid (d.how p = how) := hhow;clear hhow;obtain ⟨k, y, n, l⟩ := r;have g2 := Zc w1 (.cells #[.int .i64 k, .int .i64 y, .int .i64 n, .slice a1 l.length c1] 61);have hR2 := Zj w1 #[.int .i64 k, .int .i64 y, .int .i64 n, .slice a1 l.length c1] 61;have hD2 := (g2.block _ (Za hbD)).trans hbD;have hZ2 := (g2.block _ (Za hbZ)).trans hbZ;obtain ⟨x0, x1⟩ := Xb hD2 rfl rfl;obtain ⟨r0, r1, r2, r3⟩ := Z8 hR2 rfl rfl rfl rfl;have cs := Zv;have gw2 := gw.trans g2;have hv2 := Z1 hv g2;have hb2 := hb.grow gw2;have hl2 := hl.grow gw2;have hnZ : ¬ S (w.heap.size + 1) := fun h => by have := hS _ h; omega
 have hnD : ¬ S w.heap.size := fun h => by have := hS _ h; omega
 have hsz : w.heap.size + 1 < w1.heap.size := Za hbZ;clear hbD hbZ g2 hb hl gw hv hR2;by_cases h2 : 2 ≤ how
 ·have hD : d.mendD p = d.pairD p ⟨k, y, n, l⟩ := by rw [HD.out, if_pos h2]
  go_wp2_with fail;refine (Zd6 S d p k y n l _ _ _ _ (fun b h => by have := hS b h; simp; omega) hb2.p hl2 hv2 hlen hm).mono ?_;rintro e w3 ⟨vl', rfl, hl3, g3⟩;obtain ⟨al3, cl3, rfl⟩ := hl3.p.form;have hD3 := (g3.block _ (Za hD2)).trans hD2;have hZ3 := (g3.block _ (Za hZ2)).trans hZ2;have gw3 := gw2.trans g3;rw [World.size_alloc] at hl3;clear g3 x0 x1 r0 r1 r2 r3 hD2 hZ2 gw2 hb2 hl2 hv2;obtain ⟨x0, x1⟩ := Xb hD3 rfl rfl;have f0 := Zl hD3 0;have f1 := Zl hD3 1;obtain ⟨y0, y1⟩ := Xb hZ3 rfl rfl;have e0 := Zl hZ3 0;have e1 := Zl hZ3 1;obtain ⟨hp1, hp2⟩ := Xq hD3 (.slice ab d.blocks.length cb) (.slice al3 (d.pairD p ⟨k, y, n, l⟩).late.length cl3);have hZ4 := (hp2.block _ (Za hZ3) (by omega)).trans hZ3;obtain ⟨hq1, hq2⟩ := Xq hZ4 (.slice ab d.blocks.length cb) (.slice al3 (d.pairD p ⟨k, y, n, l⟩).late.length cl3);have gE := hq2.grow (hp2.grow gw3 (by omega)) (by omega);have hnD' : ¬ Zw S (w1.heap.size + 1) w.heap.size := fun h => h.elim hnD (fun h => by omega)
  have hnZ' : ¬ Zw S (w1.heap.size + 1) (w.heap.size + 1) := fun h => h.elim hnZ (fun h => by omega)
  have hlE := (hl3.but hp2 hnD').but hq2 hnZ';replace hlE := hlE.mono (Z0 (B := w.heap.size) (by omega));clear hp1 hp2 hq1 hq2 hZ4 hZ3 hD3 hl3 gw3 HD h2;go_wp2_with fail;exact bodyPost_ret (v := .tuple #[.agg #[.slice ab d.blocks.length cb, .slice al3 (d.pairD p ⟨k, y, n, l⟩).late.length cl3], .int .i64 how]) (by simp [results, Tryz.results31, go_sem, cs, y0, y1]) rfl ⟨_, by rw [HW.out], by rw [hD]; exact hlE, gE⟩
 ·have hD : d.mendD p = d := by rw [HD.out, if_neg h2]
  obtain ⟨y0, y1⟩ := Xb hZ2 rfl rfl;have e0 := Zl hZ2 0;have e1 := Zl hZ2 1;obtain ⟨hq1, hq2⟩ := Xq hZ2 (.slice ab d.blocks.length cb) (.slice al d.late.length cl);have gE := hq2.grow gw2 (by omega);have hlE := (hl2.but hq2 hnZ).mono (Vr (B := w.heap.size));have h2' : how < 2 := by omega
  clear hq1 hq2 hZ2 hD2 hl2 gw2 hv2 hb2 h2 hsz;go_wp2_with fail;exact bodyPost_ret (v := .tuple #[.agg #[.slice ab d.blocks.length cb, .slice al d.late.length cl], .int .i64 how]) (by simp [results, Tryz.results31, go_sem, cs, y0, y1]) rfl ⟨_, by rw [HW.out], by rw [hD]; exact hlE, gE⟩
end Go.Proofs.YtgaecpdokgklpacGreat
