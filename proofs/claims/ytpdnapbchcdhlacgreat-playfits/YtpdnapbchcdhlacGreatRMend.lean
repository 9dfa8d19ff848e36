import Derived.Test.YtpdnapbchcdhlacGreatRLook
import Derived.Test.YtpdnapbchcdhlacGreatDkLaw
set_option maxHeartbeats 8000000
namespace Go.Proofs.YtpdnapbchcdhlacGreat
set_option maxRecDepth 100000
open Go.RowKit
open Plain Reg
theorem Zuk (d : Dk) (p : Int) (ab al : Option Addr) (cb cl : Nat) (w : World) (hout : p < 0 ∨ ((d.blocks.length / 2 : Nat) : Int) ≤ p) (hlen : d.blocks.length ≤ 256) :
  Calls Tryz.prog 45 #[.agg #[.slice ab d.blocks.length cb, .slice al d.late.length cl], .int .i64 p] w fun e w' => e = .returned (.tuple #[.int .i64 4, .agg #[.int .i64 1, .int .i64 0, .int .i64 0, .slice none 0 0]]) ∧ Zp w w' := by
 have hq : (d.blocks.length : Int).tdiv 2 = ((d.blocks.length / 2 : Nat) : Int) := by rw [Int.tdiv_eq_ediv_of_nonneg (by omega)]; omega
 by_cases h0 : p < 0
 all_goals
  first | (have h1 : ((d.blocks.length / 2 : Nat) : Int) ≤ p := by omega) | skip
  clear hout;go_enter Tryz.func45, Tryz.ntmps45;go_wp2_with fail;refine (Zb4 _).mono ?_;rintro e w1 ⟨rfl, g1⟩;have gw : Zp w w1 := ((Zr _ _ _).trans (Zc _ _)).trans g1;have hbZ : w1.heap[w.heap.size + 1]? = some (.cells #[.int .i64 0, .int .i64 0, .int .i64 0, .slice none 0 0] 61 (0, 0)) := by
   have h := Zj (w.alloc (.cells #[.slice ab d.blocks.length cb, .slice al d.late.length cl] 26)) #[.int .i64 0, .int .i64 0, .int .i64 0, .slice none 0 0] 61;rw [World.size_alloc] at h;exact (((Zc _ _).trans g1).block _ (by simp)).trans h
  clear g1;obtain ⟨y0, y1, y2, y3⟩ := Z4 hbZ rfl rfl rfl rfl;obtain ⟨f0, f1, f2, f3⟩ := Yq hbZ;have cs := Zt;have hp := (Ye hbZ (.int .i64 1) (.int .i64 0) (.int .i64 0) (.slice none 0 0)).2;go_wp2_with fail;refine bodyPost_ret (v := .tuple #[.int .i64 4, .agg #[.int .i64 1, .int .i64 0, .int .i64 0, .slice none 0 0]]) (by simp [results, Tryz.results45, go_sem, y0, y1, y2, y3, cs]) rfl ⟨rfl, ?_⟩;exact hp.grow gw (by omega)
theorem Zg1 (S : Nat → Prop) (d : Dk) (p : Int) (vb vl : Value) (w : World) (hb : Y2 S w vb d.blocks) (hl : Xo S w vl d.late) (hlen : d.blocks.length ≤ 256) (hm : d.late.length ≤ 999990) :
  Calls Tryz.prog 45 #[.agg #[vb, vl], .int .i64 p] w fun e w' => ∃ dv, e = .returned (.tuple #[.int .i64 (d.how p), .agg #[.int .i64 (d.tell p).kind, .int .i64 (d.tell p).key, .int .i64 (d.tell p).ver, dv]]) ∧ w'.ownsRow w.heap.size 5 1 dv (d.tell p).data.length ((d.tell p).data.map bv) ∧ Zp w w' := by
 obtain ⟨ab, cb, rfl⟩ := hb.p.form;obtain ⟨al, cl, rfl⟩ := hl.p.form;by_cases hout : p < 0 ∨ ((d.blocks.length / 2 : Nat) : Int) ≤ p
 ·have hn : d.noPair p = true := by unfold Dk.noPair; exact decide_eq_true hout
  have hh : d.how p = 4 := by unfold Dk.how; rw [if_pos hn]
  have ht : d.tell p = Rec.free := by unfold Dk.tell; rw [if_pos hn]
  rw [hh, ht];exact (Zuk d p ab al cb cl w hout hlen).mono fun e w' ⟨h1, h2⟩ => ⟨_, h1, ⟨rfl, .inl ⟨rfl, rfl⟩⟩, h2⟩
 ·exact Zwx S d p ab al cb cl w hb hl (by omega) (by omega) hlen hm
def Dk.mendD (d : Dk) (p : Int) : Dk := if 2 ≤ d.how p then d.pairD p (d.tell p) else d
theorem Zud (S : Nat → Prop) (d : Dk) (p : Int) (vb vl : Value) (w : World) (hS : ∀ b, S b → b < w.heap.size) (hb : Y2 S w vb d.blocks) (hl : Xo S w vl d.late) (hlen : d.blocks.length ≤ 256) (hm : d.late.length ≤ 999990) :
  Calls Tryz.prog 41 #[.agg #[vb, vl], .int .i64 p] w fun e w' => ∃ vl', e = .returned (.tuple #[.agg #[vb, vl'], .int .i64 (d.how p)]) ∧ Xo (Zw S w.heap.size) w' vl' (d.mendD p).late ∧ Zp w w' := by
 obtain ⟨ab, cb, rfl⟩ := hb.p.form;obtain ⟨al, cl, rfl⟩ := hl.p.form;have HD : Hid (d.mendD p = if 2 ≤ d.how p then d.pairD p (d.tell p) else d) := rfl;go_enter Tryz.func41, Tryz.ntmps41;go_wp2_with fail;refine (Zg1 S d p _ _ _ (by exact hb.grow (Zr _ _ _)) (by exact hl.grow (Zr _ _ _)) hlen hm).mono ?_;rintro e w1 ⟨dv, rfl, ho, g1⟩;have gw : Zp w w1 := (Zr _ _ _).trans g1;have hbD : w1.heap[w.heap.size]? = some (.cells #[.slice ab d.blocks.length cb, .slice al d.late.length cl] 26 (0, 0)) :=
  (((Zc _ _).trans g1).block _ (by simp)).trans (Zj _ _ _)
 have hbZ : w1.heap[w.heap.size + 1]? = some (.cells #[.slice none 0 0, .slice none 0 0] 26 (0, 0)) := by
  have h := Zj (w.alloc (.cells #[.slice ab d.blocks.length cb, .slice al d.late.length cl] 26)) #[.slice none 0 0, .slice none 0 0] 26;rw [World.size_alloc] at h;exact (g1.block _ (by simp)).trans h
 obtain ⟨a1, c1, rfl⟩ := Z6 ho;have hv := Qm ho;clear g1 ho;generalize d.tell p = r at *;have HW : Hid (d.how p = d.how p) := rfl;generalize hhow : d.how p = how at *;replace HW : Hid (d.how p = how) := hhow;clear hhow;obtain ⟨k, y, n, l⟩ := r;have g2 := Zc w1 (.cells #[.int .i64 k, .int .i64 y, .int .i64 n, .slice a1 l.length c1] 61);have hR2 := Zj w1 #[.int .i64 k, .int .i64 y, .int .i64 n, .slice a1 l.length c1] 61;have hD2 := (g2.block _ (Za hbD)).trans hbD;have hZ2 := (g2.block _ (Za hbZ)).trans hbZ;obtain ⟨x0, x1⟩ := Xa hD2 rfl rfl;obtain ⟨r0, r1, r2, r3⟩ := Z4 hR2 rfl rfl rfl rfl;have cs := Zt;have gw2 := gw.trans g2;have hv2 := Z0 hv g2;have hb2 := hb.grow gw2;have hl2 := hl.grow gw2;have hnZ : ¬ S (w.heap.size + 1) := fun h => by have := hS _ h; omega
 have hnD : ¬ S w.heap.size := fun h => by have := hS _ h; omega
 have hsz : w.heap.size + 1 < w1.heap.size := Za hbZ;clear hbD hbZ g2 hb hl gw hv hR2;by_cases h2 : 2 ≤ how
 ·have hD : d.mendD p = d.pairD p ⟨k, y, n, l⟩ := by rw [HD.out, if_pos h2]
  go_wp2_with fail;refine (Zfb S d p k y n l _ _ _ _ (fun b h => by have := hS b h; simp; omega) hb2.p hl2 hv2 hlen hm).mono ?_;rintro e w3 ⟨vl', rfl, hl3, g3⟩;obtain ⟨al3, cl3, rfl⟩ := hl3.p.form;have hD3 := (g3.block _ (Za hD2)).trans hD2;have hZ3 := (g3.block _ (Za hZ2)).trans hZ2;have gw3 := gw2.trans g3;rw [World.size_alloc] at hl3;clear g3 x0 x1 r0 r1 r2 r3 hD2 hZ2 gw2 hb2 hl2 hv2;obtain ⟨x0, x1⟩ := Xa hD3 rfl rfl;have f0 := Zl hD3 0;have f1 := Zl hD3 1;obtain ⟨y0, y1⟩ := Xa hZ3 rfl rfl;have e0 := Zl hZ3 0;have e1 := Zl hZ3 1;obtain ⟨hp1, hp2⟩ := Xv hD3 (.slice ab d.blocks.length cb) (.slice al3 (d.pairD p ⟨k, y, n, l⟩).late.length cl3);have hZ4 := (hp2.block _ (Za hZ3) (by omega)).trans hZ3;obtain ⟨hq1, hq2⟩ := Xv hZ4 (.slice ab d.blocks.length cb) (.slice al3 (d.pairD p ⟨k, y, n, l⟩).late.length cl3);have gE := hq2.grow (hp2.grow gw3 (by omega)) (by omega);have hnD' : ¬ Zw S (w1.heap.size + 1) w.heap.size := fun h => h.elim hnD (fun h => by omega)
  have hnZ' : ¬ Zw S (w1.heap.size + 1) (w.heap.size + 1) := fun h => h.elim hnZ (fun h => by omega)
  have hlE := (hl3.but hp2 hnD').but hq2 hnZ';replace hlE := hlE.mono (Zz (B := w.heap.size) (by omega));clear hp1 hp2 hq1 hq2 hZ4 hZ3 hD3 hl3 gw3 HD h2;go_wp2_with fail;exact bodyPost_ret (v := .tuple #[.agg #[.slice ab d.blocks.length cb, .slice al3 (d.pairD p ⟨k, y, n, l⟩).late.length cl3], .int .i64 how]) (by simp [results, Tryz.results41, go_sem, cs, y0, y1]) rfl ⟨_, by rw [HW.out], by rw [hD]; exact hlE, gE⟩
 ·have hD : d.mendD p = d := by rw [HD.out, if_neg h2]
  obtain ⟨y0, y1⟩ := Xa hZ2 rfl rfl;have e0 := Zl hZ2 0;have e1 := Zl hZ2 1;obtain ⟨hq1, hq2⟩ := Xv hZ2 (.slice ab d.blocks.length cb) (.slice al d.late.length cl);have gE := hq2.grow gw2 (by omega);have hlE := (hl2.but hq2 hnZ).mono (V3 (B := w.heap.size));have h2' : how < 2 := by omega
  clear hq1 hq2 hZ2 hD2 hl2 gw2 hv2 hb2 h2 hsz;go_wp2_with fail;exact bodyPost_ret (v := .tuple #[.agg #[.slice ab d.blocks.length cb, .slice al d.late.length cl], .int .i64 how]) (by simp [results, Tryz.results41, go_sem, cs, y0, y1]) rfl ⟨_, by rw [HW.out], by rw [hD]; exact hlE, gE⟩
def K1 : List Ent → List Ent → Bool
 | [], [] => true
 | x :: a, y :: b => (decide (x.pair = y.pair) && Qx x.rc y.rc) && K1 a b
 | _, _ => false
theorem Ji : ∀ (a b : List Ent), K1 a b = true ↔ a = b
 | [], [] => by simp [K1]
 | [], _ :: _ => by simp [K1]
 | _ :: _, [] => by simp [K1]
 | ⟨r, p⟩ :: a, ⟨q, o⟩ :: b => by
  have ih := Ji a b;simp only [K1, Bool.and_eq_true, decide_eq_true_eq, V7, ih, List.cons.injEq, Ent.mk.injEq];constructor
  ·rintro ⟨⟨h1, h2⟩, h3⟩; exact ⟨⟨h2, h1⟩, h3⟩
  ·rintro ⟨⟨h1, h2⟩, h3⟩; exact ⟨⟨h2, h1⟩, h3⟩
theorem Zku {a b : List Ent} (h : a ≠ b) : K1 a b = false := by
 cases hs : K1 a b with
 | false => rfl
 | true => exact absurd ((Ji a b).1 hs) h
theorem Zqb {α : Type} {a b : List α} {k : Nat} (h : a.take k = b.take k) (h1 : k < a.length) (h2 : k < b.length) (he : a[k] = b[k]) : a.take (k + 1) = b.take (k + 1) := by
 rw [List.take_succ_eq_append_getElem h1, List.take_succ_eq_append_getElem h2, h, he]
theorem Zc6 (s t : List Ent) (v u : Value) (S S' : Nat → Prop) (w : World) (hs : Ys S w v s) (ht : Ys S' w u t) (hm : s.length ≤ 140737488355328) :
  Calls Tryz.prog 26 #[v, u] w fun e w' => e = .returned (.bool (K1 s t)) ∧ Zp w w' := by
 obtain ⟨ao, ca, rfl⟩ := hs.form;obtain ⟨bo, cb, rfl⟩ := ht.form;by_cases hl : s.length = t.length
 ·obtain ⟨R, hR⟩ : ∃ R, R = K1 s t := ⟨_, rfl⟩;rw [← hR];have HR : Hid _ := hR;have HL : Hid (s.length = t.length) := hl;have d0 : ((s.length : Int) != (t.length : Int)) = false := by simp [hl]
  have hm2 : t.length ≤ 140737488355328 := by omega
  clear hR hl;go_enter Tryz.func26, Tryz.ntmps26;go_wp2_with fail;clear d0;go_loopw [13] (fun i wr => ∃ k : Nat, k ≤ s.length ∧ i = .int .i64 k ∧ s.take k = t.take k ∧ Zp w wr) (fun i _ => s.length - (intOf i).toNat)
  case atStart => exact ⟨0, Nat.zero_le _, rfl, rfl, Zp.refl _⟩
  case round =>
   obtain ⟨k, hk, rfl, htk, hgr⟩ := hrel;have HK : Hid (s.take k = t.take k) := htk;clear htk;by_cases hlt : k < s.length
   ·have hlt2 : k < t.length := by rw [← HL.out]; exact hlt
    have hsr := hs.grow hgr;have htr := ht.grow hgr;obtain ⟨b1, o1, a1, c1, e1, p0, p1, p2, p3, p4, hu⟩ := Kk hsr k hlt;obtain ⟨b2, o2, a2, c2, e2, q0, q1, q2, q3, q4, hz⟩ := Kk htr k hlt2;cases e1;cases e2;have HX : Hid (s[k] = t[k] → s.take (k + 1) = t.take (k + 1)) := fun h => Zqb HK.out hlt hlt2 h
    have HY : Hid (s[k] ≠ t[k] → R = false) := fun h => by
     rw [HR.out]; exact Zku fun h2 => h (by simp [h2])
    generalize s[k] = x at *;generalize t[k] = z at *;clear hsr htr;by_cases hp : x.pair = z.pair
    ·cases hsb : Qx x.rc z.rc with
     | true =>
      have HB : Hid (Qx x.rc z.rc = true) := hsb;have HZ : Hid (s.take (k + 1) = t.take (k + 1)) := HX.out (by
       obtain ⟨xr, xp⟩ := x;obtain ⟨zr, zp⟩ := z;have h1 := (V7 xr zr).1 hsb;simp only at hp;rw [h1, hp])
      clear hsb HX HY;go_wp2_with fail;refine Yb [ex (.slice (some ⟨b1, o1, none⟩) s.length ca), ex (.int .i64 k), ex (.pointer (some ⟨b1, o1 + k * 5, none⟩)), ex (.pointer (some ⟨b1, o1 + k * 5 + 4, none⟩)), ex (.int .i64 x.pair), ex (.slice (some ⟨b2, o2, none⟩) t.length cb), ex (.int .i64 k), ex (.pointer (some ⟨b2, o2 + k * 5, none⟩)), ex (.pointer (some ⟨b2, o2 + k * 5 + 4, none⟩)), ex (.int .i64 z.pair), ex (.bool false), ex (.bool false), ex (.slice (some ⟨b1, o1, none⟩) s.length ca), ex (.int .i64 k), ex (.pointer (some ⟨b1, o1 + k * 5, none⟩)), ex (.pointer (some ⟨b1, o1 + k * 5, none⟩)), ex (.agg #[.int .i64 x.rc.kind, .int .i64 x.rc.key, .int .i64 x.rc.ver, .slice a1 x.rc.data.length c1]), ex (.slice (some ⟨b2, o2, none⟩) t.length cb), ex (.int .i64 k), ex (.pointer (some ⟨b2, o2 + k * 5, none⟩)), ex (.pointer (some ⟨b2, o2 + k * 5, none⟩)), ex (.agg #[.int .i64 z.rc.kind, .int .i64 z.rc.key, .int .i64 z.rc.ver, .slice a2 z.rc.data.length c2]), ex (.bool true), ex (.bool false), ex (.bool false)] (by kernel_rfl) (by kernel_rfl) ⟨Zh _, Zh _, Zh _, Zh _, Zh _, Zh _, Zh _, Zh _, Zh _, Zh _, Zh _, Zh _, Zh _, Zh _, Zh _, Zh _, Zh _, Zh _, Zh _, Zh _, Zh _, Zh _, Zh _, Zh _, Zh _, trivial⟩ ?_ ?_
      ·refine ⟨?_, ?_, ?_, ?_, ?_, ?_, ?_, ?_, ?_, ?_, ?_, ?_, ?_, ?_, ?_, ?_, ?_, ?_, ?_, ?_, ?_, ?_, ?_, ?_, ?_, trivial⟩
       ·exact Zb rfl fun a _ _ _ _ A => Zs rfl (Zv A 0 rfl)
       ·exact Zb rfl fun a _ _ _ _ A => Zs rfl (Zv A 5 rfl)
       ·refine Zb rfl fun a _ _ _ B A => ?_;have e16 : a (.tmp 16) = _ := Zf A 0 rfl;have e17 : a (.tmp 17) = _ := Zf A 1 rfl;refine Zi ?_ rfl;clear A B;go_simp;all_goals go_arith
       ·refine Zb rfl fun a _ _ _ B A => ?_;have e18 : a (.tmp 18) = _ := Zf A 2 rfl;refine Zi ?_ rfl;clear A B;go_simp;all_goals go_arith
       ·refine Zb rfl fun a _ _ _ B A => ?_;have e19 : a (.tmp 19) = _ := Zf A 3 rfl;have h1 := (Below.cell B (Zu p4)).trans p4;refine Zi ?_ rfl;clear A B;go_simp;all_goals go_arith
       ·exact Zb rfl fun a _ _ _ _ A => Zs rfl (Zv A 1 rfl)
       ·exact Zb rfl fun a _ _ _ _ A => Zs rfl (Zv A 5 rfl)
       ·refine Zb rfl fun a _ _ _ B A => ?_;have e21 : a (.tmp 21) = _ := Zf A 5 rfl;have e22 : a (.tmp 22) = _ := Zf A 6 rfl;refine Zi ?_ rfl;clear A B;go_simp;all_goals go_arith
       ·refine Zb rfl fun a _ _ _ B A => ?_;have e23 : a (.tmp 23) = _ := Zf A 7 rfl;refine Zi ?_ rfl;clear A B;go_simp;all_goals go_arith
       ·refine Zb rfl fun a _ _ _ B A => ?_;have e24 : a (.tmp 24) = _ := Zf A 8 rfl;have h1 := (Below.cell B (Zu q4)).trans q4;refine Zi ?_ rfl;clear A B;go_simp;all_goals go_arith
       ·refine Zb rfl fun a _ _ _ B A => ?_;have e20 : a (.tmp 20) = _ := Zf A 4 rfl;have e25 : a (.tmp 25) = _ := Zf A 9 rfl;refine Zi ?_ rfl;clear A B;go_simp;all_goals go_arith
       ·exact Zb rfl fun a _ _ _ _ A => Zs rfl (Zf A 10 rfl)
       ·exact Zo 11 false rfl rfl rfl fun a _ _ _ _ A => Zs rfl (Zv A 0 rfl)
       ·exact Zo 11 false rfl rfl rfl fun a _ _ _ _ A => Zs rfl (Zv A 5 rfl)
       ·refine Zo 11 false rfl rfl rfl fun a _ _ _ B A => ?_;have e28 : a (.tmp 28) = _ := Zf A 12 rfl;have e29 : a (.tmp 29) = _ := Zf A 13 rfl;refine Zi ?_ rfl;clear A B;go_simp;all_goals go_arith
       ·refine Zo 11 false rfl rfl rfl fun a _ _ _ B A => ?_;have e30 : a (.tmp 30) = _ := Zf A 14 rfl;refine Zi ?_ rfl;clear A B;go_simp;all_goals go_arith
       ·refine Zo 11 false rfl rfl rfl fun a _ _ _ B A => ?_;have e31 : a (.tmp 31) = _ := Zf A 15 rfl;have h1 := (Below.cell B (Zu p0)).trans p0;have h2 := (Below.cell B (Zu p1)).trans p1;have h3 := (Below.cell B (Zu p2)).trans p2;have h4 := (Below.cell B (Zu p3)).trans p3;refine Zi ?_ rfl;clear A B;go_simp;all_goals go_arith
       ·exact Zo 11 false rfl rfl rfl fun a _ _ _ _ A => Zs rfl (Zv A 1 rfl)
       ·exact Zo 11 false rfl rfl rfl fun a _ _ _ _ A => Zs rfl (Zv A 5 rfl)
       ·refine Zo 11 false rfl rfl rfl fun a _ _ _ B A => ?_;have e33 : a (.tmp 33) = _ := Zf A 17 rfl;have e34 : a (.tmp 34) = _ := Zf A 18 rfl;refine Zi ?_ rfl;clear A B;go_simp;all_goals go_arith
       ·refine Zo 11 false rfl rfl rfl fun a _ _ _ B A => ?_;have e35 : a (.tmp 35) = _ := Zf A 19 rfl;refine Zi ?_ rfl;clear A B;go_simp;all_goals go_arith
       ·refine Zo 11 false rfl rfl rfl fun a _ _ _ B A => ?_;have e36 : a (.tmp 36) = _ := Zf A 20 rfl;have h1 := (Below.cell B (Zu q0)).trans q0;have h2 := (Below.cell B (Zu q1)).trans q1;have h3 := (Below.cell B (Zu q2)).trans q2;have h4 := (Below.cell B (Zu q3)).trans q3;refine Zi ?_ rfl;clear A B;go_simp;all_goals go_arith
       ·refine Zo 11 false rfl rfl rfl fun a B _ _ C A => ?_;have e32 : a (.tmp 32) = _ := Zf A 16 rfl;have e37 : a (.tmp 37) = _ := Zf A 21 rfl;refine Yy (f := 59) (args := #[.agg #[.int .i64 x.rc.kind, .int .i64 x.rc.key, .int .i64 x.rc.ver, .slice a1 x.rc.data.length c1], .agg #[.int .i64 z.rc.kind, .int .i64 z.rc.key, .int .i64 z.rc.ver, .slice a2 z.rc.data.length c2]]) ?_ ((Zej _ _ _ _ _ _ x.rc.data z.rc.data _ _ B (Z0 hu.p C) (Z0 hz.p C)).mono ?_)
        ·clear A C;go_simp;all_goals go_arith
        ·rintro e w2 ⟨rfl, g2⟩;exact ⟨_, rfl, g2, by rw [← HB.out]; rfl⟩
       ·refine Zo 11 false rfl rfl rfl fun a _ _ _ B A => ?_;have e38 : a (.tmp 38) = _ := Zf A 22 rfl;refine Zi ?_ rfl;clear A B;go_simp;all_goals go_arith
       ·refine Zb rfl fun a _ _ _ _ A => ?_;have ec : a (.tmp 27) = _ := Zf A 11 rfl;have e : a (.tmp 39) = _ := Zf A 23 rfl;exact Y4 rfl ec e
      ·intro vs w' hg ht;obtain ⟨(r16 : vs 0 = _), (r17 : vs 1 = _), (r18 : vs 2 = _), (r19 : vs 3 = _), (r20 : vs 4 = _), (r21 : vs 5 = _), (r22 : vs 6 = _), (r23 : vs 7 = _), (r24 : vs 8 = _), (r25 : vs 9 = _), (r26 : vs 10 = _), (r27 : vs 11 = _), (r28 : vs 12 = _), (r29 : vs 13 = _), (r30 : vs 14 = _), (r31 : vs 15 = _), (r32 : vs 16 = _), (r33 : vs 17 = _), (r34 : vs 18 = _), (r35 : vs 19 = _), (r36 : vs 20 = _), (r37 : vs 21 = _), (r38 : vs 22 = _), (r39 : vs 23 = _), (r40 : vs 24 = _), -⟩ := ht;simp only [Yf, Act.put, List.setIfInBounds_toArray, List.set_cons_zero, List.set_cons_succ, r16, r17, r18, r19, r20, r21, r22, r23, r24, r25, r26, r27, r28, r29, r30, r31, r32, r33, r34, r35, r36, r37, r38, r39, r40];clear r16 r17 r18 r19 r20 r21 r22 r23 r24 r25 r26 r27 r28 r29 r30 r31 r32 r33 r34 r35 r36 r37 r38 r39 r40;have gr2 := hgr.trans hg;clear hg p0 p1 p2 p3 p4 q0 q1 q2 q3 q4 hu hz;go_wp2_with fail;go_roundw
       case rel => exact ⟨k + 1, by omega, by go_num, HZ.out, gr2⟩
       case measure => simp [intOf]; omega
     | false =>
      have HB : Hid (Qx x.rc z.rc = false) := hsb;have hRf : R = false := HY.out (by
       intro h;rw [h] at hsb;rw [(V7 z.rc z.rc).2 rfl] at hsb;cases hsb)
      subst hRf;clear hsb HX HY;go_wp2_with fail;refine Yb [ex (.slice (some ⟨b1, o1, none⟩) s.length ca), ex (.int .i64 k), ex (.pointer (some ⟨b1, o1 + k * 5, none⟩)), ex (.pointer (some ⟨b1, o1 + k * 5 + 4, none⟩)), ex (.int .i64 x.pair), ex (.slice (some ⟨b2, o2, none⟩) t.length cb), ex (.int .i64 k), ex (.pointer (some ⟨b2, o2 + k * 5, none⟩)), ex (.pointer (some ⟨b2, o2 + k * 5 + 4, none⟩)), ex (.int .i64 z.pair), ex (.bool false), ex (.bool false), ex (.slice (some ⟨b1, o1, none⟩) s.length ca), ex (.int .i64 k), ex (.pointer (some ⟨b1, o1 + k * 5, none⟩)), ex (.pointer (some ⟨b1, o1 + k * 5, none⟩)), ex (.agg #[.int .i64 x.rc.kind, .int .i64 x.rc.key, .int .i64 x.rc.ver, .slice a1 x.rc.data.length c1]), ex (.slice (some ⟨b2, o2, none⟩) t.length cb), ex (.int .i64 k), ex (.pointer (some ⟨b2, o2 + k * 5, none⟩)), ex (.pointer (some ⟨b2, o2 + k * 5, none⟩)), ex (.agg #[.int .i64 z.rc.kind, .int .i64 z.rc.key, .int .i64 z.rc.ver, .slice a2 z.rc.data.length c2]), ex (.bool false), ex (.bool true), ex (.bool true)] (by kernel_rfl) (by kernel_rfl) ⟨Zh _, Zh _, Zh _, Zh _, Zh _, Zh _, Zh _, Zh _, Zh _, Zh _, Zh _, Zh _, Zh _, Zh _, Zh _, Zh _, Zh _, Zh _, Zh _, Zh _, Zh _, Zh _, Zh _, Zh _, Zh _, trivial⟩ ?_ ?_
      ·refine ⟨?_, ?_, ?_, ?_, ?_, ?_, ?_, ?_, ?_, ?_, ?_, ?_, ?_, ?_, ?_, ?_, ?_, ?_, ?_, ?_, ?_, ?_, ?_, ?_, ?_, trivial⟩
       ·exact Zb rfl fun a _ _ _ _ A => Zs rfl (Zv A 0 rfl)
       ·exact Zb rfl fun a _ _ _ _ A => Zs rfl (Zv A 5 rfl)
       ·refine Zb rfl fun a _ _ _ B A => ?_;have e16 : a (.tmp 16) = _ := Zf A 0 rfl;have e17 : a (.tmp 17) = _ := Zf A 1 rfl;refine Zi ?_ rfl;clear A B;go_simp;all_goals go_arith
       ·refine Zb rfl fun a _ _ _ B A => ?_;have e18 : a (.tmp 18) = _ := Zf A 2 rfl;refine Zi ?_ rfl;clear A B;go_simp;all_goals go_arith
       ·refine Zb rfl fun a _ _ _ B A => ?_;have e19 : a (.tmp 19) = _ := Zf A 3 rfl;have h1 := (Below.cell B (Zu p4)).trans p4;refine Zi ?_ rfl;clear A B;go_simp;all_goals go_arith
       ·exact Zb rfl fun a _ _ _ _ A => Zs rfl (Zv A 1 rfl)
       ·exact Zb rfl fun a _ _ _ _ A => Zs rfl (Zv A 5 rfl)
       ·refine Zb rfl fun a _ _ _ B A => ?_;have e21 : a (.tmp 21) = _ := Zf A 5 rfl;have e22 : a (.tmp 22) = _ := Zf A 6 rfl;refine Zi ?_ rfl;clear A B;go_simp;all_goals go_arith
       ·refine Zb rfl fun a _ _ _ B A => ?_;have e23 : a (.tmp 23) = _ := Zf A 7 rfl;refine Zi ?_ rfl;clear A B;go_simp;all_goals go_arith
       ·refine Zb rfl fun a _ _ _ B A => ?_;have e24 : a (.tmp 24) = _ := Zf A 8 rfl;have h1 := (Below.cell B (Zu q4)).trans q4;refine Zi ?_ rfl;clear A B;go_simp;all_goals go_arith
       ·refine Zb rfl fun a _ _ _ B A => ?_;have e20 : a (.tmp 20) = _ := Zf A 4 rfl;have e25 : a (.tmp 25) = _ := Zf A 9 rfl;refine Zi ?_ rfl;clear A B;go_simp;all_goals go_arith
       ·exact Zb rfl fun a _ _ _ _ A => Zs rfl (Zf A 10 rfl)
       ·exact Zo 11 false rfl rfl rfl fun a _ _ _ _ A => Zs rfl (Zv A 0 rfl)
       ·exact Zo 11 false rfl rfl rfl fun a _ _ _ _ A => Zs rfl (Zv A 5 rfl)
       ·refine Zo 11 false rfl rfl rfl fun a _ _ _ B A => ?_;have e28 : a (.tmp 28) = _ := Zf A 12 rfl;have e29 : a (.tmp 29) = _ := Zf A 13 rfl;refine Zi ?_ rfl;clear A B;go_simp;all_goals go_arith
       ·refine Zo 11 false rfl rfl rfl fun a _ _ _ B A => ?_;have e30 : a (.tmp 30) = _ := Zf A 14 rfl;refine Zi ?_ rfl;clear A B;go_simp;all_goals go_arith
       ·refine Zo 11 false rfl rfl rfl fun a _ _ _ B A => ?_;have e31 : a (.tmp 31) = _ := Zf A 15 rfl;have h1 := (Below.cell B (Zu p0)).trans p0;have h2 := (Below.cell B (Zu p1)).trans p1;have h3 := (Below.cell B (Zu p2)).trans p2;have h4 := (Below.cell B (Zu p3)).trans p3;refine Zi ?_ rfl;clear A B;go_simp;all_goals go_arith
       ·exact Zo 11 false rfl rfl rfl fun a _ _ _ _ A => Zs rfl (Zv A 1 rfl)
       ·exact Zo 11 false rfl rfl rfl fun a _ _ _ _ A => Zs rfl (Zv A 5 rfl)
       ·refine Zo 11 false rfl rfl rfl fun a _ _ _ B A => ?_;have e33 : a (.tmp 33) = _ := Zf A 17 rfl;have e34 : a (.tmp 34) = _ := Zf A 18 rfl;refine Zi ?_ rfl;clear A B;go_simp;all_goals go_arith
       ·refine Zo 11 false rfl rfl rfl fun a _ _ _ B A => ?_;have e35 : a (.tmp 35) = _ := Zf A 19 rfl;refine Zi ?_ rfl;clear A B;go_simp;all_goals go_arith
       ·refine Zo 11 false rfl rfl rfl fun a _ _ _ B A => ?_;have e36 : a (.tmp 36) = _ := Zf A 20 rfl;have h1 := (Below.cell B (Zu q0)).trans q0;have h2 := (Below.cell B (Zu q1)).trans q1;have h3 := (Below.cell B (Zu q2)).trans q2;have h4 := (Below.cell B (Zu q3)).trans q3;refine Zi ?_ rfl;clear A B;go_simp;all_goals go_arith
       ·refine Zo 11 false rfl rfl rfl fun a B _ _ C A => ?_;have e32 : a (.tmp 32) = _ := Zf A 16 rfl;have e37 : a (.tmp 37) = _ := Zf A 21 rfl;refine Yy (f := 59) (args := #[.agg #[.int .i64 x.rc.kind, .int .i64 x.rc.key, .int .i64 x.rc.ver, .slice a1 x.rc.data.length c1], .agg #[.int .i64 z.rc.kind, .int .i64 z.rc.key, .int .i64 z.rc.ver, .slice a2 z.rc.data.length c2]]) ?_ ((Zej _ _ _ _ _ _ x.rc.data z.rc.data _ _ B (Z0 hu.p C) (Z0 hz.p C)).mono ?_)
        ·clear A C;go_simp;all_goals go_arith
        ·rintro e w2 ⟨rfl, g2⟩;exact ⟨_, rfl, g2, by rw [← HB.out]; rfl⟩
       ·refine Zo 11 false rfl rfl rfl fun a _ _ _ B A => ?_;have e38 : a (.tmp 38) = _ := Zf A 22 rfl;refine Zi ?_ rfl;clear A B;go_simp;all_goals go_arith
       ·refine Zb rfl fun a _ _ _ _ A => ?_;have ec : a (.tmp 27) = _ := Zf A 11 rfl;have e : a (.tmp 39) = _ := Zf A 23 rfl;exact Y4 rfl ec e
      ·intro vs w' hg ht;obtain ⟨(r16 : vs 0 = _), (r17 : vs 1 = _), (r18 : vs 2 = _), (r19 : vs 3 = _), (r20 : vs 4 = _), (r21 : vs 5 = _), (r22 : vs 6 = _), (r23 : vs 7 = _), (r24 : vs 8 = _), (r25 : vs 9 = _), (r26 : vs 10 = _), (r27 : vs 11 = _), (r28 : vs 12 = _), (r29 : vs 13 = _), (r30 : vs 14 = _), (r31 : vs 15 = _), (r32 : vs 16 = _), (r33 : vs 17 = _), (r34 : vs 18 = _), (r35 : vs 19 = _), (r36 : vs 20 = _), (r37 : vs 21 = _), (r38 : vs 22 = _), (r39 : vs 23 = _), (r40 : vs 24 = _), -⟩ := ht;simp only [Yf, Act.put, List.setIfInBounds_toArray, List.set_cons_zero, List.set_cons_succ, r16, r17, r18, r19, r20, r21, r22, r23, r24, r25, r26, r27, r28, r29, r30, r31, r32, r33, r34, r35, r36, r37, r38, r39, r40];clear r16 r17 r18 r19 r20 r21 r22 r23 r24 r25 r26 r27 r28 r29 r30 r31 r32 r33 r34 r35 r36 r37 r38 r39 r40;have gr2 := hgr.trans hg;clear hg p0 p1 p2 p3 p4 q0 q1 q2 q3 q4 hu hz;go_wp2_with fail;go_ret;exact ⟨rfl, gr2⟩
    ·have hRf : R = false := HY.out (fun h => hp (by rw [h]));subst hRf;have d2 : (x.pair != z.pair) = true := by simp [hp]
     clear HX HY hp;go_wp2_with fail;refine Yb [ex (.slice (some ⟨b1, o1, none⟩) s.length ca), ex (.int .i64 k), ex (.pointer (some ⟨b1, o1 + k * 5, none⟩)), ex (.pointer (some ⟨b1, o1 + k * 5 + 4, none⟩)), ex (.int .i64 x.pair), ex (.slice (some ⟨b2, o2, none⟩) t.length cb), ex (.int .i64 k), ex (.pointer (some ⟨b2, o2 + k * 5, none⟩)), ex (.pointer (some ⟨b2, o2 + k * 5 + 4, none⟩)), ex (.int .i64 z.pair), ex (.bool true), ex (.bool true), ex (undef), ex (undef), ex (undef), ex (undef), ex (undef), ex (undef), ex (undef), ex (undef), ex (undef), ex (undef), ex (undef), ex (undef), ex (.bool true)] (by kernel_rfl) (by kernel_rfl) ⟨Zh _, Zh _, Zh _, Zh _, Zh _, Zh _, Zh _, Zh _, Zh _, Zh _, Zh _, Zh _, Zh _, Zh _, Zh _, Zh _, Zh _, Zh _, Zh _, Zh _, Zh _, Zh _, Zh _, Zh _, Zh _, trivial⟩ ?_ ?_
     ·refine ⟨?_, ?_, ?_, ?_, ?_, ?_, ?_, ?_, ?_, ?_, ?_, ?_, ?_, ?_, ?_, ?_, ?_, ?_, ?_, ?_, ?_, ?_, ?_, ?_, ?_, trivial⟩
      ·exact Zb rfl fun a _ _ _ _ A => Zs rfl (Zv A 0 rfl)
      ·exact Zb rfl fun a _ _ _ _ A => Zs rfl (Zv A 5 rfl)
      ·refine Zb rfl fun a _ _ _ B A => ?_;have e16 : a (.tmp 16) = _ := Zf A 0 rfl;have e17 : a (.tmp 17) = _ := Zf A 1 rfl;refine Zi ?_ rfl;clear A B;go_simp;all_goals go_arith
      ·refine Zb rfl fun a _ _ _ B A => ?_;have e18 : a (.tmp 18) = _ := Zf A 2 rfl;refine Zi ?_ rfl;clear A B;go_simp;all_goals go_arith
      ·refine Zb rfl fun a _ _ _ B A => ?_;have e19 : a (.tmp 19) = _ := Zf A 3 rfl;have h1 := (Below.cell B (Zu p4)).trans p4;refine Zi ?_ rfl;clear A B;go_simp;all_goals go_arith
      ·exact Zb rfl fun a _ _ _ _ A => Zs rfl (Zv A 1 rfl)
      ·exact Zb rfl fun a _ _ _ _ A => Zs rfl (Zv A 5 rfl)
      ·refine Zb rfl fun a _ _ _ B A => ?_;have e21 : a (.tmp 21) = _ := Zf A 5 rfl;have e22 : a (.tmp 22) = _ := Zf A 6 rfl;refine Zi ?_ rfl;clear A B;go_simp;all_goals go_arith
      ·refine Zb rfl fun a _ _ _ B A => ?_;have e23 : a (.tmp 23) = _ := Zf A 7 rfl;refine Zi ?_ rfl;clear A B;go_simp;all_goals go_arith
      ·refine Zb rfl fun a _ _ _ B A => ?_;have e24 : a (.tmp 24) = _ := Zf A 8 rfl;have h1 := (Below.cell B (Zu q4)).trans q4;refine Zi ?_ rfl;clear A B;go_simp;all_goals go_arith
      ·refine Zb rfl fun a _ _ _ B A => ?_;have e20 : a (.tmp 20) = _ := Zf A 4 rfl;have e25 : a (.tmp 25) = _ := Zf A 9 rfl;refine Zi ?_ rfl;clear A B;go_simp;all_goals go_arith
      ·exact Zb rfl fun a _ _ _ _ A => Zs rfl (Zf A 10 rfl)
      ·refine Zy 11 false rfl rfl rfl (fun _ => rfl)
      ·refine Zy 11 false rfl rfl rfl (fun _ => rfl)
      ·refine Zy 11 false rfl rfl rfl (fun _ => rfl)
      ·refine Zy 11 false rfl rfl rfl (fun _ => rfl)
      ·refine Zy 11 false rfl rfl rfl (fun _ => rfl)
      ·refine Zy 11 false rfl rfl rfl (fun _ => rfl)
      ·refine Zy 11 false rfl rfl rfl (fun _ => rfl)
      ·refine Zy 11 false rfl rfl rfl (fun _ => rfl)
      ·refine Zy 11 false rfl rfl rfl (fun _ => rfl)
      ·refine Zy 11 false rfl rfl rfl (fun _ => rfl)
      ·refine Zy 11 false rfl rfl rfl (fun _ => rfl)
      ·refine Zy 11 false rfl rfl rfl (fun _ => rfl)
      ·refine Zb rfl fun a _ B _ _ A => ?_;have ec : a (.tmp 27) = _ := Zf A 11 rfl;exact Y4 rfl ec (B _)
     ·intro vs w' hg ht;obtain ⟨(r16 : vs 0 = _), (r17 : vs 1 = _), (r18 : vs 2 = _), (r19 : vs 3 = _), (r20 : vs 4 = _), (r21 : vs 5 = _), (r22 : vs 6 = _), (r23 : vs 7 = _), (r24 : vs 8 = _), (r25 : vs 9 = _), (r26 : vs 10 = _), (r27 : vs 11 = _), (r28 : vs 12 = _), (r29 : vs 13 = _), (r30 : vs 14 = _), (r31 : vs 15 = _), (r32 : vs 16 = _), (r33 : vs 17 = _), (r34 : vs 18 = _), (r35 : vs 19 = _), (r36 : vs 20 = _), (r37 : vs 21 = _), (r38 : vs 22 = _), (r39 : vs 23 = _), (r40 : vs 24 = _), -⟩ := ht;simp only [Yf, Act.put, List.setIfInBounds_toArray, List.set_cons_zero, List.set_cons_succ, r16, r17, r18, r19, r20, r21, r22, r23, r24, r25, r26, r27, r28, r29, r30, r31, r32, r33, r34, r35, r36, r37, r38, r39, r40];clear r16 r17 r18 r19 r20 r21 r22 r23 r24 r25 r26 r27 r28 r29 r30 r31 r32 r33 r34 r35 r36 r37 r38 r39 r40;have gr2 := hgr.trans hg;clear hg p0 p1 p2 p3 p4 q0 q1 q2 q3 q4 hu hz;go_wp2_with fail;go_ret;exact ⟨rfl, gr2⟩
   ·have hk' : k = s.length := by omega
    have hRt : R = true := by
     rw [HR.out, Ji];have h := HK.out;rw [hk', List.take_length, HL.out, List.take_length] at h;exact h
    subst hRt;clear hk';go_wp2_with fail;go_ret;exact ⟨rfl, hgr⟩
 ·have HR : Hid (K1 s t = false) := Zku fun h => hl (by rw [h])
  rw [HR.out];have d0 : ((s.length : Int) != (t.length : Int)) = true := by simp; omega
  clear hl;go_enter Tryz.func26, Tryz.ntmps26;go_wp2_with fail;go_ret;exact ⟨rfl, Zp.refl _⟩
def Z5 (d : Dk) : Nat → List Ent
 | 0 => []
 | n + 1 => if (d.tell (n : Int)).kind = 1 then Z5 d n else X0 ⟨d.tell (n : Int), (n : Int)⟩ (Z5 d n)
theorem Zlt (e : Ent) (l : List Ent) : (Va e l).1.length = l.length + (if (Va e l).2 = true then 1 else 0) := by
 have key : ∀ (l : List Ent) (st : List Ent × Bool), (l.foldl (X3 e) st).1.length + (if st.2 = true then 1 else 0) = st.1.length + l.length + (if (l.foldl (X3 e) st).2 = true then 1 else 0) := by
  intro l
  induction l with
  | nil => rintro ⟨a, b⟩; cases b <;> simp
  | cons x l ih =>
   intro st;rw [List.foldl_cons, List.length_cons];have h1 := ih (X3 e st x);have h2 : (X3 e st x).1.length + (if st.2 = true then 1 else 0) = st.1.length + 1 + (if (X3 e st x).2 = true then 1 else 0) := by
    unfold X3;by_cases hc : st.2 = false ∧ Y5 e x = true
    ·rw [if_pos hc, hc.1]; simp
    ·rw [if_neg hc]; simp
   omega
 have := key l ([], false);unfold Va;simpa using this
theorem Zh0 (e : Ent) (l : List Ent) : (X0 e l).length = l.length + 1 := by
 have h := Zlt e l;unfold X0;by_cases hd : (Va e l).2 = true
 ·rw [if_pos hd] at h ⊢; exact h
 ·rw [if_neg hd] at h ⊢; simp [h]
theorem Zid (d : Dk) : ∀ n, (Z5 d n).length ≤ n
 | 0 => by simp [Z5]
 | n + 1 => by
  have ih := Zid d n;unfold Z5;split
  ·omega
  ·rw [Zh0]; omega
theorem Zei (S : Nat → Prop) (d : Dk) (vb vl : Value) (w : World) (hb : Y2 S w vb d.blocks) (hl : Xo S w vl d.late) (hlen : d.blocks.length ≤ 256) (hm : d.late.length ≤ 999990) :
  Calls Tryz.prog 27 #[.agg #[vb, vl]] w fun r w' => ∃ v', r = .returned v' ∧ Ys (Zw S w.heap.size) w' v' (Z5 d (d.blocks.length / 2)) ∧ Zp w w' := by
 obtain ⟨ab, cb, rfl⟩ := hb.p.form;obtain ⟨al, cl, rfl⟩ := hl.p.form;have g0 := Zc w (.cells #[.slice ab d.blocks.length cb, .slice al d.late.length cl] 26);have hD0 := Zj w #[.slice ab d.blocks.length cb, .slice al d.late.length cl] 26;have hq : (d.blocks.length : Int).tdiv 2 = ((d.blocks.length / 2 : Nat) : Int) := by rw [Int.tdiv_eq_ediv_of_nonneg (by omega)]; omega
 obtain ⟨N, hN⟩ : ∃ N, N = d.blocks.length / 2 := ⟨_, rfl⟩;rw [← hN] at hq ⊢;have hN2 : N ≤ 128 := by omega
 clear hN;go_enter Tryz.func27, Tryz.ntmps27;go_wp2_with fail;generalize World.alloc w _ = W at *;go_loopw [3, 11] (fun o i wr => ∃ k : Nat, k ≤ N ∧ i = .int .i64 k ∧ Ys (fun b => Zw S (w.heap.size + 1) b ∧ b < wr.heap.size) wr o (Z5 d k) ∧ Zp w wr ∧ wr.heap[w.heap.size]? = some (.cells #[.slice ab d.blocks.length cb, .slice al d.late.length cl] 26 (0, 0))) (fun _ i _ => N - (intOf i).toNat)
 case atStart => exact ⟨0, Nat.zero_le _, rfl, Z8.nil _ _ _, g0, hD0⟩
 case round =>
  clear g0 hD0;obtain ⟨k, hk, rfl, hO, hg, hD⟩ := hrel;by_cases hlt : k < N
  ·have hsc := Zid d k;have HN : Hid (Z5 d (k + 1) = if (d.tell (k : Int)).kind = 1 then Z5 d k else X0 ⟨d.tell (k : Int), (k : Int)⟩ (Z5 d k)) := rfl;obtain ⟨a0, c0, rfl⟩ := hO.form;obtain ⟨x0, x1⟩ := Xa hD rfl rfl;go_wp2_with fail;refine (Zg1 _ d (k : Int) _ _ _ (hb.grow hg) (hl.grow hg) hlen hm).mono ?_;rintro e w1 ⟨dv, rfl, ho, g1⟩;obtain ⟨a1, c1, rfl⟩ := Z6 ho;generalize d.tell (k : Int) = r at *;generalize d.how (k : Int) = how at *;have g2 := Zc w1 (.cells #[.int .i64 r.kind, .int .i64 r.key, .int .i64 r.ver, .slice a1 r.data.length c1] 61);have hR2 := Zj w1 #[.int .i64 r.kind, .int .i64 r.key, .int .i64 r.ver, .slice a1 r.data.length c1] 61;have hD2 := ((g1.trans g2).block _ (Za hD)).trans hD;have hwr : w.heap.size + 1 ≤ wr.heap.size := Za hD;have hB2 : Z3 (fun b => Zw S (w.heap.size + 1) b ∧ b < w1.heap.size + 1) (w1.alloc (.cells #[.int .i64 r.kind, .int .i64 r.key, .int .i64 r.ver, .slice a1 r.data.length c1] 61)) (.slice a1 r.data.length c1) r.data := by
    have h := ((Zcv S (Yi ho hwr)).grow g2).caps;rw [World.size_alloc] at h;exact h
   have hO2 : Ys (fun b => Zw S (w.heap.size + 1) b ∧ b < w1.heap.size + 1) (w1.alloc (.cells #[.int .i64 r.kind, .int .i64 r.key, .int .i64 r.ver, .slice a1 r.data.length c1] 61)) (.slice a0 (Z5 d k).length c0) (Z5 d k) := (hO.grow (g1.trans g2)).mono fun b h => ⟨h.1, by have := g1.size; omega⟩
   have gw2 := hg.trans (g1.trans g2);obtain ⟨r0, r1, r2, r3⟩ := Z4 hR2 rfl rfl rfl rfl;have HSZ : Hid (w.heap.size + 1 ≤ w1.heap.size) := Nat.le_trans hwr g1.size;clear x0 x1 hO hg hD g1 g2 ho hR2 hwr;by_cases hk1 : r.kind = 1
   ·have HN2 : Hid (Z5 d (k + 1) = Z5 d k) := by show _ = _; rw [HN.out, if_pos hk1]
    have d1 : (r.kind != 1) = false := by simp [hk1]
    clear hk1 HN;have hsz := World.size_alloc w1 (.cells #[.int .i64 r.kind, .int .i64 r.key, .int .i64 r.ver, .slice a1 r.data.length c1] 61);have hO3 := hO2.mono (S' := fun b => Zw S (w.heap.size + 1) b ∧ b < (w1.alloc (.cells #[.int .i64 r.kind, .int .i64 r.key, .int .i64 r.ver, .slice a1 r.data.length c1] 61)).heap.size) (fun b h => ⟨h.1, by rw [hsz]; exact h.2⟩);clear hO2 hB2 hsz;go_wp2_with fail;go_roundw
    case rel => exact ⟨k + 1, by omega, by go_num, by rw [HN2.out]; exact hO3, gw2, hD2⟩
    case measure => simp [intOf]; omega
   ·have HN2 : Hid (Z5 d (k + 1) = X0 ⟨r, (k : Int)⟩ (Z5 d k)) := by show _ = _; rw [HN.out, if_neg hk1]
    have d1 : (r.kind != 1) = true := by simp [hk1]
    clear hk1 HN;go_wp2_with fail;refine (Ze9 _ (Z5 d k) ⟨r, (k : Int)⟩ _ a1 c1 _ (fun b h => by rw [World.size_alloc]; exact h.2) hO2 hB2 (by omega)).mono ?_;rintro e w3 ⟨v3, rfl, hO3, g3⟩;rw [← HN2.out] at hO3;have hO4 : Ys (fun b => Zw S (w.heap.size + 1) b ∧ b < w3.heap.size) w3 v3 (Z5 d (k + 1)) := (hO3.caps (by decide)).mono fun b h => ⟨h.1.elim (fun x => x.1) (fun x => .inr (by have := HSZ.out; rw [World.size_alloc] at x; omega)), h.2⟩
    have hD3 := (g3.block _ (Za hD2)).trans hD2;have gw3 := gw2.trans g3;clear hO2 hO3 hB2 hD2 gw2 g3 r0 r1 r2 r3;go_wp2_with fail;go_roundw
    case rel => exact ⟨k + 1, by omega, by go_num, hO4, gw3, hD3⟩
    case measure => simp [intOf]; omega
  ·have hk' : k = N := by omega
   subst hk';have hfin := hO.mono (S' := Zw S w.heap.size) (fun b h => Zz (B := w.heap.size) (by omega) b h.1);obtain ⟨a0, c0, rfl⟩ := hO.form;clear hO;go_wp2_with fail;go_ret;exact ⟨_, rfl, hfin, hg⟩
def Zb1 (pre : List Ent) (e : Ent) : Bool := match pre.getLast? with | none => true | some x => Y5 x e
def okE (pre : List Ent) (e : Ent) : Bool := decide (Yd e.rc = 0 ∧ e.rc.kind ≠ 1 ∧ 0 ≤ e.pair ∧ e.pair ≤ 1000) && Zb1 pre e && pre.all (fun x => decide (x.pair ≠ e.pair))
def Zam (pre : List Ent) : List Ent → Bool
 | [] => true
 | e :: l => okE pre e && Zam (pre ++ [e]) l
def Q1 (l : List Ent) : Bool := Zam [] l
theorem Zju (c : UInt8) : lo (c.toNat : Int) = c := by
 refine UInt8.toNat_inj.1 ?_;have := Kr (c.toNat : Int);have hc : c.toNat < 256 := UInt8.toNat_lt _;omega
theorem Zau (n : Int) (h0 : 0 ≤ n) (h1 : n ≤ 255) : ((lo n).toNat : Int) = n := by rw [Kr]; omega
theorem Zxu (x y : UInt8) : hi ((x.toNat : Int) * 256 + (y.toNat : Int)) = x := by
 have hx : x.toNat < 256 := UInt8.toNat_lt _;have hy : y.toNat < 256 := UInt8.toNat_lt _;exact ((Zc3 x y _ (by omega) (by omega)).1 rfl).1
theorem Zxt (x y : UInt8) : lo ((x.toNat : Int) * 256 + (y.toNat : Int)) = y := by
 have hx : x.toNat < 256 := UInt8.toNat_lt _;have hy : y.toNat < 256 := UInt8.toNat_lt _;exact ((Zc3 x y _ (by omega) (by omega)).1 rfl).2
theorem Zxf (r : Rec) (a : Int) : at' (blk r a) 0 = lo r.kind := rfl
theorem Zxe (r : Rec) (a : Int) : at' (blk r a) 1 = lo a := rfl
theorem Zxd (r : Rec) (a : Int) : at' (blk r a) 2 = lo r.key := rfl
theorem Zxc (r : Rec) (a : Int) : at' (blk r a) 3 = hi r.ver := rfl
theorem Zxb (r : Rec) (a : Int) : at' (blk r a) 4 = lo r.ver := rfl
theorem Zj6 (r : Rec) (a : Int) : at' (blk r a) 5 = lo (r.data.length : Int) := rfl
theorem Zmf (r : Rec) (a : Int) : (blk r a).drop 6 = r.data ++ (List.replicate (8 - r.data.length) 0 ++ [hi (Xi (Za1 r a)), lo (Xi (Za1 r a))]) := by
 show (r.data ++ List.replicate (8 - r.data.length) 0) ++ _ = _;rw [List.append_assoc]
theorem Zpj (r : Rec) (a : Int) (h : Yd r = 0) : Y1 (blk r a) = r := by
 obtain ⟨k0, k1, y0, y1, n0, n1, hl⟩ := Vr h;unfold Y1;rw [Zxf, Zxd, Zxc, Zxb, Zj6, Zmf];have e1 := Zau r.kind (by omega) (by omega);have e2 := Zau r.key (by omega) (by omega);have e3 := Zau (r.data.length : Int) (by omega) (by omega);have e4 : ((hi r.ver).toNat : Int) * 256 + ((lo r.ver).toNat : Int) = r.ver := by rw [Zhc, Kr]; omega
 have e5 : (lo (r.data.length : Int)).toNat = r.data.length := by omega
 rw [e1, e2, e4, e5, List.take_left' rfl]
theorem Ztf (r : Rec) (a : Int) (h : Yd r = 0) : Xb (Vg (blk r a)) = true := by
 obtain ⟨k0, k1, y0, y1, n0, n1, hl⟩ := Vr h;have e3 := Zau (r.data.length : Int) (by omega) (by omega);have e5 : (lo (r.data.length : Int)).toNat = r.data.length := by omega
 unfold Vg;rw [Zj6, e5, ← List.drop_drop, Zmf, List.drop_left' rfl, List.take_left' (by simp)];unfold Xb;rw [List.all_eq_true];intro c hc;simp [List.eq_of_mem_replicate hc]
theorem Zm2 (r : Rec) (a : Int) (h : Yd r = 0) (h0 : 0 ≤ a) (h1 : a ≤ 255) : spoilt (blk r a) a = 0 := by
 obtain ⟨k0, k1, y0, y1, n0, n1, hl⟩ := Vr h;have e1 := Zau a h0 h1;have e3 := Zau (r.data.length : Int) (by omega) (by omega);unfold spoilt;rw [if_neg (by rw [Qo r a hl]; simp), if_neg (by unfold blk; rw [Zga]; simp), if_neg (by rw [Zxe, e1]; simp), if_neg (by rw [Zj6]; omega), if_neg (by rw [Ztf r a h]; simp)]
theorem Zk6 (r : Rec) (a : Int) (h : Yd r = 0) (h0 : 0 ≤ a) (h1 : a ≤ 255) : X6 (blk r a) a = 0 ∧ Y7 (blk r a) a = r := by
 have e : X6 (blk r a) a = 0 := by unfold X6; rw [if_pos (Zm2 r a h h0 h1), Zpj r a h]; exact h
 refine ⟨e, ?_⟩;unfold Y7;rw [if_pos e, Zpj r a h]
theorem Znm {b : List UInt8} {a : Int} (h : X6 b a = 0) : spoilt b a = 0 ∧ Yd (Y1 b) = 0 ∧ Y7 b a = Y1 b := by
 have hr : Y7 b a = Y1 b := by unfold Y7; rw [if_pos h]
 unfold X6 at h;by_cases hs : spoilt b a = 0
 ·rw [if_pos hs] at h; exact ⟨hs, h, hr⟩
 ·rw [if_neg hs] at h; exact absurd h hs
theorem Zxw (b : List UInt8) (a : Int) (hs : spoilt b a = 0) : b.take 14 = Za1 (Y1 b) a := by
 obtain ⟨hl, hsl, hp, h8, hn⟩ := J1 hs;have hlen : ((b.drop 6).take (at' b 5).toNat).length = (at' b 5).toNat := by simp; omega
 have hz : Vg b = List.replicate (8 - (at' b 5).toNat) 0 := by
  refine List.eq_replicate_iff.2 ⟨by unfold Vg; simp; omega, fun c hc => ?_⟩;unfold Xb at hn;have := (List.all_eq_true.1 hn) c hc;simpa using this
 unfold Za1 Y1;simp only [];rw [hlen, Zju, Zju, Zxu, Zxt, Zju, ← hp, Zju, ← hz];have e : b.take 14 = [at' b 0, at' b 1, at' b 2, at' b 3, at' b 4, at' b 5] ++ (b.drop 6).take 8 := by
  match b, hl with
  | [x0, x1, x2, x3, x4, x5, x6, x7, x8, x9, x10, x11, x12, x13, x14, x15], _ => rfl
 rw [e]
 congr 1
 unfold Vg;rw [← List.drop_drop, ← List.take_add]
 congr 1
 omega
theorem Zhp (b : List UInt8) (a : Int) (h : X6 b a = 0) : Yd (Y7 b a) = 0 ∧ blk (Y7 b a) a = b := by
 obtain ⟨hs, hw, hr⟩ := Znm h;obtain ⟨hl, hsl, -, -, -⟩ := J1 hs;rw [hr];refine ⟨hw, ?_⟩;unfold blk;rw [← Zxw b a hs];have := Zgb b (by omega);rw [hsl, hl] at this;exact beq_iff_eq.1 this
theorem Zk5 (r : Rec) (a : Int) (n : Nat) (c : UInt8) (h : Yd r = 0) (hn : n < (blk r a).length) (hne : (blk r a)[n] ≠ c) : X6 ((blk r a).set n c) a = 7 := by
 obtain ⟨k0, k1, y0, y1, n0, n1, hl⟩ := Vr h;have e : spoilt ((blk r a).set n c) a = 7 := by
  have hse : Xk ((blk r a).set n c) = false := Zkr (Za1 r a) n c hn hne;unfold spoilt;rw [if_neg (by rw [List.length_set, Qo r a hl]; simp), if_pos hse]
 unfold X6;rw [e]; rfl
end Go.Proofs.YtpdnapbchcdhlacGreat
namespace Go.Proofs.YtpdnapbchcdhlacGreat
set_option maxRecDepth 100000
open Plain
variable {a : Int} {d : Dk} {r : Rec}
theorem Q6 : Yd Rec.free = 0 := by decide
theorem Zc4 (d : Dk) (a : Int) : Yd (Z9 d a) = 0 := by
 unfold Z9;split
 ·next h => exact (Zhp _ _ h).1
 ·exact Q6
theorem Xx (d : Dk) (p : Int) : Yd (d.tell p) = 0 := by
 unfold Dk.tell;split
 ·exact Q6
 ·split
  ·exact Q6
  ·unfold Ja; split
   ·exact Zc4 _ _
   ·exact Zc4 _ _
theorem Zf7 (h : d.get a = some (blk r a)) (hr : Yd r = 0) (h0 : 0 ≤ a) (h1 : a ≤ 255) : Z9 d a = r ∧ Y9 d a = 0 := by
 have hb : Yp d a = blk r a := by unfold Yp; rw [h]; rfl
 obtain ⟨he, hR⟩ := Zk6 r a hr h0 h1;unfold Y9 Z9 Qd;rw [hb, if_pos he, if_pos he]; exact ⟨hR, rfl⟩
theorem Zf8 (h : Qd d a ≠ 0) : Z9 d a = Rec.free ∧ Y9 d a = 1 := by
 unfold Y9 Z9;rw [if_neg h, if_neg h]; exact ⟨rfl, rfl⟩
theorem Qf (h : (Z9 d a).kind = 1) : Yt d a = 0 := by unfold Yt; rw [if_pos h]
theorem Ko (h : (Z9 d a).kind ≠ 1) : Yt d a = 1 := by unfold Yt; rw [if_neg h]
theorem Vs {p : Int} (hn : d.noPair p = false) (h0 : Z9 d (2 * p) = r) (h1 : Z9 d (2 * p + 1) = r) (hr : r.kind ≠ 1) : d.how p = 1 ∧ d.tell p = r := by
 have s0 : Yt d (2 * p) = 1 := Ko (by rw [h0]; exact hr);have s1 : Yt d (2 * p + 1) = 1 := Ko (by rw [h1]; exact hr);have hs : Qx r r = true := by rw [V7]
 unfold Dk.how Dk.tell Ja;rw [hn, s0, s1, h0, h1, if_neg hr];simp [hs]
theorem Zha {p : Int} (hn : d.noPair p = false) (h0 : (Z9 d (2 * p)).kind = 1) (h1 : (Z9 d (2 * p + 1)).kind = 1) (b0 : Y9 d (2 * p) = 0) (b1 : Y9 d (2 * p + 1) = 0) : d.how p = 0 ∧ d.tell p = Rec.free := by
 have s0 := Qf h0;have s1 := Qf h1;unfold Dk.how Dk.tell;rw [hn, s0, s1, b0, b1];simp
theorem V0 {p : Int} (hn : d.noPair p = false) (hr : r.kind ≠ 1) (h : Z9 d (2 * p) = r ∧ (Z9 d (2 * p + 1)).kind = 1 ∨ Z9 d (2 * p + 1) = r ∧ (Z9 d (2 * p)).kind = 1) : d.how p = 2 ∧ d.tell p = r := by
 rcases h with ⟨h0, h1⟩ | ⟨h0, h1⟩
 ·have s0 : Yt d (2 * p) = 1 := Ko (by rw [h0]; exact hr);have s1 := Qf h1;unfold Dk.how Dk.tell Ja;rw [hn, s0, s1, h0, if_neg hr];simp
 ·have s1 : Yt d (2 * p + 1) = 1 := Ko (by rw [h0]; exact hr);have s0 := Qf h1;unfold Dk.how Dk.tell Ja;rw [hn, s0, s1, h0, if_pos h1];simp
theorem Zin {p : Int} (h0 : 0 ≤ p) (h1 : 2 * p + 1 < (d.blocks.length : Int)) : (d.pairW p r).get (2 * p) = some (blk r (2 * p)) ∧ (d.pairW p r).get (2 * p + 1) = some (blk r (2 * p + 1)) := by
 have e : d.pairW p r = (d.put (2 * p) (blk r (2 * p))).put (2 * p + 1) (blk r (2 * p + 1)) := by simp [Dk.pairW, Dk.put]
 rw [e];refine ⟨?_, Dk.put_get _ _ _ (by omega) h1⟩;rw [Dk.put_other _ _ _ _ (by omega)];exact Dk.put_get _ _ _ (by omega) (by omega)
theorem Zeu {p : Int} (h0 : 0 ≤ p) (h1 : 2 * p + 1 < (d.blocks.length : Int)) : d.noPair p = false := by
 unfold Dk.noPair; exact decide_eq_false (by omega)
theorem Zds {p : Int} (h0 : 0 ≤ p) (h1 : 2 * p + 1 < (d.blocks.length : Int)) : d.pairE p r = Yd r := by
 unfold Dk.pairE; rw [if_neg (by omega)]
theorem Zn4 (d : Dk) (p : Int) (h0 : 0 ≤ p) (h1 : 2 * p + 1 < (d.blocks.length : Int)) (hlen : d.blocks.length ≤ 256) :
  (d.mendD p).how p = (if (d.tell p).kind = 1 then 0 else 1) ∧ (d.mendD p).tell p = d.tell p ∧ (d.mendD p).mendD p = d.mendD p := by
 have key : (d.mendD p).how p = (if (d.tell p).kind = 1 then 0 else 1) ∧ (d.mendD p).tell p = d.tell p := by
  have hn := Zeu h0 h1;by_cases h2 : 2 ≤ d.how p
  ·have hd : d.mendD p = d.pairW p (d.tell p) := by
    unfold Dk.mendD Dk.pairD;rw [if_pos h2, Zds h0 h1, Xx, if_pos rfl]
   rw [hd];obtain ⟨g0, g1⟩ := Zin (d := d) (r := d.tell p) h0 h1;obtain ⟨r0, b0⟩ := Zf7 g0 (Xx d p) (by omega) (by omega);obtain ⟨r1, b1⟩ := Zf7 g1 (Xx d p) (by omega) (by omega);have hn' : (d.pairW p (d.tell p)).noPair p = false := Zeu h0 h1;by_cases hk : (d.tell p).kind = 1
   ·have hf : d.tell p = Rec.free := by
     by_cases hs : Yt d (2 * p) + Yt d (2 * p + 1) = 0
     ·unfold Dk.tell; rw [hn, if_neg (by decide), if_pos hs]
     ·exfalso;have ht : d.tell p = Ja d p := by unfold Dk.tell; rw [hn, if_neg (by decide), if_neg hs]
      rw [ht] at hk;unfold Ja at hk;by_cases hk0 : (Z9 d (2 * p)).kind = 1
      ·rw [if_pos hk0] at hk;rw [Qf hk0, Qf hk] at hs; exact hs rfl
      ·rw [if_neg hk0] at hk; exact hk0 hk
    rw [if_pos hk];obtain ⟨a, b⟩ := Zha hn' (by rw [r0]; exact hk) (by rw [r1]; exact hk) b0 b1;exact ⟨a, by rw [b, hf]⟩
   ·rw [if_neg hk];exact Vs hn' r0 r1 hk
  ·have hd : d.mendD p = d := by unfold Dk.mendD; rw [if_neg h2]
   rw [hd];refine ⟨?_, rfl⟩;unfold Dk.how at h2 ⊢;unfold Dk.tell;rw [hn] at h2 ⊢;simp only [Bool.false_eq_true, if_false] at h2 ⊢;have e0 := Zbw d (2 * p);have e1 := Zbw d (2 * p + 1);by_cases hs : Yt d (2 * p) + Yt d (2 * p + 1) = 2
   ·rw [if_pos hs] at h2 ⊢;have hk : (Z9 d (2 * p)).kind ≠ 1 := fun h => by have := Qf h; omega
    have hz : ¬ (Yt d (2 * p) + Yt d (2 * p + 1) = 0) := by omega
    rw [if_neg hz];by_cases hsm : Qx (Z9 d (2 * p)) (Z9 d (2 * p + 1)) = true
    ·unfold Ja; rw [if_pos hsm, if_neg hk, if_neg hk]
    ·rw [if_neg hsm] at h2; omega
   ·rw [if_neg hs] at h2 ⊢;by_cases hs1 : Yt d (2 * p) + Yt d (2 * p + 1) = 1
    ·rw [if_pos hs1] at h2; omega
    ·rw [if_neg hs1] at h2 ⊢;have hz : Yt d (2 * p) + Yt d (2 * p + 1) = 0 := by omega
     rw [if_pos hz, if_pos (show Rec.free.kind = 1 from rfl)];by_cases hb0 : Y9 d (2 * p) + Y9 d (2 * p + 1) = 0
     ·rw [if_pos hb0]
     ·rw [if_neg hb0] at h2; split at h2 <;> omega
 refine ⟨key.1, key.2, ?_⟩;show (if 2 ≤ (d.mendD p).how p then _ else _) = _;rw [if_neg (by rw [key.1]; split <;> omega)]
theorem Zj7 (r : Rec) (a : Int) (h : Yd r = 0) : (blk r a).length = 16 := Qo r a (Vr h).2.2.2.2.2.2
theorem Zkq {n y : Int} (h : d.get a = some (X4 (blk r a) n y)) (hr : Yd r = 0) (hn0 : 0 ≤ n) (hn1 : n < ((blk r a).length : Int)) (hy : y % 256 ≠ 0) : Z9 d a = Rec.free ∧ Y9 d a = 1 := by
 refine Zf8 ?_;unfold Qd;have hb : Yp d a = X4 (blk r a) n y := by unfold Yp; rw [h]; rfl
 rw [hb];unfold X4;rw [if_pos ⟨hn0, hn1⟩, Qq _ _ _ (by omega)];rw [Zk5 r a n.toNat _ hr (by omega) ?_]
 ·decide
 ·intro hE;have h1 : lo y = 0 := by
   have h2 : (blk r a)[n.toNat] ^^^ ((blk r a)[n.toNat] ^^^ lo y) = (blk r a)[n.toNat] ^^^ (blk r a)[n.toNat] := by rw [← hE]
   rw [← UInt8.xor_assoc, UInt8.xor_self, UInt8.zero_xor] at h2;exact h2
  have h3 := Kr y;rw [h1] at h3;exact hy h3.symm
theorem Zws (a : Int) (h0 : 0 ≤ a) (h1 : a < 12) : (Dk.new.blocks).getD a.toNat [] = blk Rec.free a := by
 unfold Dk.new;rw [Qq _ _ _ (by simp; omega), List.getElem_map, List.getElem_range, show ((a.toNat : Nat) : Int) = a from by omega]; rfl
variable {a b e : Ent} {l : List Ent}
def Zb3 (e : Ent) : List Ent → List Ent
 | [] => [e]
 | x :: l => if Y5 e x = true then e :: x :: l else x :: Zb3 e l
theorem Zg8 (e : Ent) : ∀ (l pre : List Ent), l.foldl (X3 e) (pre, true) = (pre ++ l, true)
 | [], pre => by simp
 | x :: l, pre => by
  rw [List.foldl_cons, show X3 e (pre, true) x = (pre ++ [x], true) from by simp [X3], Zg8 e l];simp
theorem Ziu (e : Ent) : ∀ (l pre : List Ent), (if (l.foldl (X3 e) (pre, false)).2 = true then (l.foldl (X3 e) (pre, false)).1 else (l.foldl (X3 e) (pre, false)).1 ++ [e]) = pre ++ Zb3 e l
 | [], pre => by simp [Zb3]
 | x :: l, pre => by
  rw [List.foldl_cons];by_cases h : Y5 e x = true
  ·rw [show X3 e (pre, false) x = (pre ++ [e] ++ [x], true) from by simp [X3, h], Zg8];simp [Zb3, h]
  ·rw [show X3 e (pre, false) x = (pre ++ [x], false) from by simp [X3, h], Ziu e l];simp [Zb3, h]
theorem J6 (e : Ent) (l : List Ent) : X0 e l = Zb3 e l := by
 have := Ziu e l [];unfold X0 Va;simpa using this
theorem Zdz (e x : Ent) : ∀ l : List Ent, x ∈ Zb3 e l ↔ x = e ∨ x ∈ l
 | [] => by simp [Zb3]
 | y :: l => by
  have ih := Zdz e x l;unfold Zb3;split
  ·simp
  ·simp [ih];constructor
   ·rintro (h | h | h)
    ·exact .inr (.inl h)
    ·exact .inl h
    ·exact .inr (.inr h)
   ·rintro (h | h | h)
    ·exact .inr (.inl h)
    ·exact .inl h
    ·exact .inr (.inr h)
theorem Ka (e x : Ent) (l : List Ent) : x ∈ X0 e l ↔ x = e ∨ x ∈ l := by rw [J6]; exact Zdz e x l
theorem Jo {c : Ent} (h1 : Y5 a b = true) (h2 : Y5 b c = true) : Y5 a c = true := by
 unfold Y5 at h1 h2 ⊢;split at h1 <;> split at h2 <;> split <;> try split at h1 <;> try split at h2 <;> try split
 all_goals simp only [decide_eq_true_eq] at *
 all_goals first | omega | (split at h2 <;> simp only [decide_eq_true_eq] at * <;> first | omega | (split <;> simp only [decide_eq_true_eq] at * <;> omega)) | (split <;> simp only [decide_eq_true_eq] at * <;> omega)
theorem Zda (h : ¬ Y5 a b = true) (hp : a.pair ≠ b.pair) : Y5 b a = true := by
 unfold Y5 at h ⊢;by_cases hk : a.rc.key = b.rc.key
 ·rw [if_pos hk] at h;rw [if_pos hk.symm];by_cases hv : a.rc.ver = b.rc.ver
  ·rw [if_pos hv] at h;rw [if_pos hv.symm];simp only [decide_eq_true_eq] at *; omega
  ·rw [if_neg hv] at h;rw [if_neg (fun e => hv e.symm)];simp only [decide_eq_true_eq] at *; omega
 ·rw [if_neg hk] at h;rw [if_neg (fun e => hk e.symm)];simp only [decide_eq_true_eq] at *; omega
def Good (e : Ent) : Prop := Yd e.rc = 0 ∧ e.rc.kind ≠ 1 ∧ 0 ≤ e.pair ∧ e.pair ≤ 1000
def Ups (a b : Ent) : Prop := Y5 a b = true ∧ a.pair ≠ b.pair
theorem Zwq (pre : List Ent) (e : Ent) : okE pre e = true ↔ Good e ∧ Zb1 pre e = true ∧ ∀ x ∈ pre, x.pair ≠ e.pair := by
 unfold okE Good;simp only [Bool.and_eq_true, decide_eq_true_eq, List.all_eq_true];exact ⟨fun ⟨⟨h1, h2⟩, h3⟩ => ⟨h1, h2, h3⟩, fun ⟨h1, h2, h3⟩ => ⟨⟨h1, h2⟩, h3⟩⟩
theorem Zun : ∀ pre : List Ent, pre.Pairwise Ups → Zb1 pre e = true → ∀ x ∈ pre, Y5 x e = true := by
 intro pre hp hl x hx;have h : pre ≠ [] := by rintro rfl; cases hx
 obtain ⟨pre', y, rfl⟩ : ∃ pre' y, pre = pre' ++ [y] := ⟨pre.dropLast, pre.getLast h, (List.dropLast_concat_getLast h).symm⟩;have hy : Y5 y e = true := by
  unfold Zb1 at hl;rw [List.getLast?_append] at hl;simpa using hl
 rcases List.mem_append.1 hx with h1 | h1
 ·have := (List.pairwise_append.1 hp).2.2 x h1 y (by simp);exact Jo this.1 hy
 ·rw [List.mem_singleton.1 h1]; exact hy
theorem Zae : ∀ (l pre : List Ent), pre.Pairwise Ups → (Zam pre l = true ↔ (pre ++ l).Pairwise Ups ∧ ∀ x ∈ l, Good x)
 | [], pre, hp => by simp [Zam, hp]
 | e :: l, pre, hp => by
  unfold Zam;rw [Bool.and_eq_true, Zwq];constructor
  ·rintro ⟨⟨h1, h2, h3⟩, h4⟩;have hp2 : (pre ++ [e]).Pairwise Ups := List.pairwise_append.2 ⟨hp, by simp, fun x hx y hy => by
    rw [List.mem_singleton.1 hy]; exact ⟨Zun pre hp h2 x hx, h3 x hx⟩⟩
   obtain ⟨h5, h6⟩ := (Zae l (pre ++ [e]) hp2).1 h4;refine ⟨by simpa using h5, fun x hx => ?_⟩;rcases List.mem_cons.1 hx with rfl | hx
   ·exact h1
   ·exact h6 x hx
  ·rintro ⟨h1, h2⟩;have hp2 : (pre ++ [e]).Pairwise Ups := by
    have : (pre ++ [e] ++ l).Pairwise Ups := by simpa using h1
    exact (List.pairwise_append.1 this).1
   have hq := (List.pairwise_append.1 hp2).2.2;refine ⟨⟨h2 e (by simp), ?_, fun x hx => (hq x hx e (by simp)).2⟩, (Zae l (pre ++ [e]) hp2).2 ⟨by simpa using h1, fun x hx => h2 x (by simp [hx])⟩⟩;unfold Zb1;cases hg : pre.getLast? with
   | none => rfl
   | some y => exact (hq y (List.mem_of_getLast? hg) e (by simp)).1
theorem Xt (l : List Ent) : Q1 l = true ↔ l.Pairwise Ups ∧ ∀ x ∈ l, Good x := by
 have := Zae l [] (by simp);simpa [Q1] using this
theorem Zlu (e : Ent) : ∀ l : List Ent, l.Pairwise Ups → (∀ x ∈ l, x.pair ≠ e.pair) → (Zb3 e l).Pairwise Ups
 | [], _, _ => by simp [Zb3]
 | x :: l, hp, hne => by
  obtain ⟨h1, h2⟩ := List.pairwise_cons.1 hp;unfold Zb3;by_cases h : Y5 e x = true
  ·rw [if_pos h];refine List.pairwise_cons.2 ⟨fun y hy => ?_, hp⟩;rcases List.mem_cons.1 hy with rfl | hy
   ·exact ⟨h, fun e' => hne y (by simp) e'.symm⟩
   ·exact ⟨Jo h (h1 y hy).1, fun e' => hne y (by simp [hy]) e'.symm⟩
  ·rw [if_neg h];refine List.pairwise_cons.2 ⟨fun y hy => ?_, Zlu e l h2 fun y hy => hne y (by simp [hy])⟩;rcases (Zdz e y l).1 hy with rfl | hy
   ·exact ⟨Zda h fun e' => hne x (by simp) e'.symm, hne x (by simp)⟩
   ·exact h1 y hy
theorem Zaf (h : Q1 l = true) (he : Good e) (hne : ∀ x ∈ l, x.pair ≠ e.pair) : Q1 (X0 e l) = true := by
 obtain ⟨h1, h2⟩ := (Xt l).1 h;rw [Xt, J6];refine ⟨Zlu e l h1 hne, fun x hx => ?_⟩;rcases (Zdz e x l).1 hx with rfl | hx
 ·exact he
 ·exact h2 x hx
def Zbl (l : List Ent) (key ver : Int) : Option Ent := l.find? fun x => decide (x.rc.key = key ∧ x.rc.ver = ver)
def Q4 (l : List Ent) (p : Int) : List Ent := l.filter fun x => decide (x.pair ≠ p)
def Jw (l : List Ent) (f : Nat) : Prop := (∀ n : Nat, n < f → ∃ x ∈ l, x.pair = (n : Int)) ∧ ∀ x ∈ l, x.pair ≠ (f : Int)
def Zo1 (l : List Ent) (pairs r : Int) : Prop := ∃ f : Nat, Jw l f ∧ ((f : Int) < pairs ∧ r = (f : Int) ∨ pairs ≤ (f : Int) ∧ r = -1)
theorem Zrj {f g : Nat} (h1 : Jw l f) (h2 : Jw l g) : f = g := by
 rcases Nat.lt_trichotomy f g with h | h | h
 ·obtain ⟨x, hx, hp⟩ := h2.1 f h;exact absurd hp (h1.2 x hx)
 ·exact h
 ·obtain ⟨x, hx, hp⟩ := h1.1 g h;exact absurd hp (h2.2 x hx)
theorem Zrr {key ver : Int} (h : ∀ x ∈ l, ¬ (x.rc.key = key ∧ x.rc.ver = ver)) : Zbl l key ver = none := by
 unfold Zbl;rw [List.find?_eq_none];exact fun x hx => by simpa using h x hx
theorem Vq (d : Dk) (x : Ent) : ∀ n, x ∈ Z5 d n ↔ ∃ p : Nat, p < n ∧ (d.tell (p : Int)).kind ≠ 1 ∧ x = ⟨d.tell (p : Int), (p : Int)⟩
 | 0 => by simp [Z5]
 | n + 1 => by
  have ih := Vq d x n;unfold Z5;by_cases h : (d.tell (n : Int)).kind = 1
  ·rw [if_pos h, ih];constructor
   ·rintro ⟨p, h1, h2⟩; exact ⟨p, by omega, h2⟩
   ·rintro ⟨p, h1, h2, h3⟩;refine ⟨p, ?_, h2, h3⟩;rcases Nat.lt_succ_iff_lt_or_eq.1 h1 with h4 | rfl
    ·exact h4
    ·exact absurd h h2
  ·rw [if_neg h, Ka, ih];constructor
   ·rintro (rfl | ⟨p, h1, h2⟩)
    ·exact ⟨n, by omega, h, rfl⟩
    ·exact ⟨p, by omega, h2⟩
   ·rintro ⟨p, h1, h2, h3⟩;rcases Nat.lt_succ_iff_lt_or_eq.1 h1 with h4 | rfl
    ·exact .inr ⟨p, h4, h2, h3⟩
    ·exact .inl h3
theorem V4 (d : Dk) : ∀ n, n ≤ 1000 → Q1 (Z5 d n) = true
 | 0, _ => rfl
 | n + 1, hn => by
  have ih := V4 d n (by omega);unfold Z5;split
  ·exact ih
  ·rename_i h;refine Zaf ih ⟨Xx d _, h, by show (0 : Int) ≤ (n : Int); omega, by show (n : Int) ≤ 1000; omega⟩ fun x hx => ?_;obtain ⟨p, h1, _, rfl⟩ := (Vq d x n).1 hx;show (p : Int) ≠ (n : Int);omega
end Go.Proofs.YtpdnapbchcdhlacGreat
