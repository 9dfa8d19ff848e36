import Derived.Test.YtpdnapbchcdhlacGreatRLook
import Derived.Test.YtpdnapbchcdhlacGreatDkLaw
set_option maxHeartbeats 8000000
namespace Go.Proofs.YtpdnapbchcdhlacGreat
set_option maxRecDepth 100000
open Go.RowKit
open Plain Reg
theorem Zt7 (d : Dk) (p : Int) (ab al : Option Addr) (cb cl : Nat) (w : World) (hout : p < 0 ∨ ((d.blocks.length / 2 : Nat) : Int) ≤ p) (hlen : d.blocks.length ≤ 256) :
  Calls Tryz.prog 45 #[.agg #[.slice ab d.blocks.length cb, .slice al d.late.length cl], .int .i64 p] w fun e w' => e = .returned (.tuple #[.int .i64 4, .agg #[.int .i64 1, .int .i64 0, .int .i64 0, .slice none 0 0]]) ∧ Zp w w' := by
 have hq : (d.blocks.length : Int).tdiv 2 = ((d.blocks.length / 2 : Nat) : Int) := by rw [Int.tdiv_eq_ediv_of_nonneg (by omega)]; omega
 by_cases h0 : p < 0
 all_goals
  first | (have h1 : ((d.blocks.length / 2 : Nat) : Int) ≤ p := by omega) | skip
  clear hout;go_enter Tryz.func45, Tryz.ntmps45;go_wp2_with fail;refine (Zbz _).mono ?_;rintro e w1 ⟨rfl, g1⟩;have gw : Zp w w1 := ((Zr _ _ _).trans (Zc _ _)).trans g1;have hbZ : w1.heap[w.heap.size + 1]? = some (.cells #[.int .i64 0, .int .i64 0, .int .i64 0, .slice none 0 0] 61 (0, 0)) := by
   have h := Zj (w.alloc (.cells #[.slice ab d.blocks.length cb, .slice al d.late.length cl] 26)) #[.int .i64 0, .int .i64 0, .int .i64 0, .slice none 0 0] 61;rw [World.size_alloc] at h;exact (((Zc _ _).trans g1).block _ (by simp)).trans h
  clear g1;obtain ⟨y0, y1, y2, y3⟩ := Z4 hbZ rfl rfl rfl rfl;obtain ⟨f0, f1, f2, f3⟩ := Yq hbZ;have cs := Zt;have hp := (Ye hbZ (.int .i64 1) (.int .i64 0) (.int .i64 0) (.slice none 0 0)).2;go_wp2_with fail;refine bodyPost_ret (v := .tuple #[.int .i64 4, .agg #[.int .i64 1, .int .i64 0, .int .i64 0, .slice none 0 0]]) (by simp [results, Tryz.results45, go_sem, y0, y1, y2, y3, cs]) rfl ⟨rfl, ?_⟩;exact hp.grow gw (by omega)
theorem Zgs (S : Nat → Prop) (d : Dk) (p : Int) (vb vl : Value) (w : World) (hb : Y2 S w vb d.blocks) (hl : Xm S w vl d.late) (hlen : d.blocks.length ≤ 256) (hm : d.late.length ≤ 999990) :
  Calls Tryz.prog 45 #[.agg #[vb, vl], .int .i64 p] w fun e w' => ∃ dv, e = .returned (.tuple #[.int .i64 (d.how p), .agg #[.int .i64 (d.tell p).kind, .int .i64 (d.tell p).key, .int .i64 (d.tell p).ver, dv]]) ∧ w'.ownsRow w.heap.size 5 1 dv (d.tell p).data.length ((d.tell p).data.map bv) ∧ Zp w w' := by
 obtain ⟨ab, cb, rfl⟩ := hb.p.form;obtain ⟨al, cl, rfl⟩ := hl.p.form;by_cases hout : p < 0 ∨ ((d.blocks.length / 2 : Nat) : Int) ≤ p
 ·have hn : d.noPair p = true := by unfold Dk.noPair; exact decide_eq_true hout
  have hh : d.how p = 4 := by unfold Dk.how; rw [if_pos hn]
  have ht : d.tell p = Rec.free := by unfold Dk.tell; rw [if_pos hn]
  rw [hh, ht];exact (Zt7 d p ab al cb cl w hout hlen).mono fun e w' ⟨h1, h2⟩ => ⟨_, h1, ⟨rfl, .inl ⟨rfl, rfl⟩⟩, h2⟩
 ·exact Zwo S d p ab al cb cl w hb hl (by omega) (by omega) hlen hm
def Dk.mendD (d : Dk) (p : Int) : Dk := if 2 ≤ d.how p then d.pairD p (d.tell p) else d
theorem Zt1 (S : Nat → Prop) (d : Dk) (p : Int) (vb vl : Value) (w : World) (hS : ∀ b, S b → b < w.heap.size) (hb : Y2 S w vb d.blocks) (hl : Xm S w vl d.late) (hlen : d.blocks.length ≤ 256) (hm : d.late.length ≤ 999990) :
  Calls Tryz.prog 41 #[.agg #[vb, vl], .int .i64 p] w fun e w' => ∃ vl', e = .returned (.tuple #[.agg #[vb, vl'], .int .i64 (d.how p)]) ∧ Xm (Zw S w.heap.size) w' vl' (d.mendD p).late ∧ Zp w w' := by
 obtain ⟨ab, cb, rfl⟩ := hb.p.form;obtain ⟨al, cl, rfl⟩ := hl.p.form;have HD : Hid (d.mendD p = if 2 ≤ d.how p then d.pairD p (d.tell p) else d) := rfl;go_enter Tryz.func41, Tryz.ntmps41;go_wp2_with fail;refine (Zgs S d p _ _ _ (by exact hb.grow (Zr _ _ _)) (by exact hl.grow (Zr _ _ _)) hlen hm).mono ?_;rintro e w1 ⟨dv, rfl, ho, g1⟩;have gw : Zp w w1 := (Zr _ _ _).trans g1;have hbD : w1.heap[w.heap.size]? = some (.cells #[.slice ab d.blocks.length cb, .slice al d.late.length cl] 26 (0, 0)) :=
  (((Zc _ _).trans g1).block _ (by simp)).trans (Zj _ _ _)
 have hbZ : w1.heap[w.heap.size + 1]? = some (.cells #[.slice none 0 0, .slice none 0 0] 26 (0, 0)) := by
  have h := Zj (w.alloc (.cells #[.slice ab d.blocks.length cb, .slice al d.late.length cl] 26)) #[.slice none 0 0, .slice none 0 0] 26;rw [World.size_alloc] at h;exact (g1.block _ (by simp)).trans h
 obtain ⟨a1, c1, rfl⟩ := Z6 ho;have hv := Ql ho;clear g1 ho;generalize d.tell p = r at *;have HW : Hid (d.how p = d.how p) := rfl;generalize hhow : d.how p = how at *;replace HW : Hid (d.how p = how) := hhow;clear hhow;obtain ⟨k, y, n, l⟩ := r;have g2 := Zc w1 (.cells #[.int .i64 k, .int .i64 y, .int .i64 n, .slice a1 l.length c1] 61);have hR2 := Zj w1 #[.int .i64 k, .int .i64 y, .int .i64 n, .slice a1 l.length c1] 61;have hD2 := (g2.block _ (Za hbD)).trans hbD;have hZ2 := (g2.block _ (Za hbZ)).trans hbZ;obtain ⟨x0, x1⟩ := Xb hD2 rfl rfl;obtain ⟨r0, r1, r2, r3⟩ := Z4 hR2 rfl rfl rfl rfl;have cs := Zt;have gw2 := gw.trans g2;have hv2 := Z0 hv g2;have hb2 := hb.grow gw2;have hl2 := hl.grow gw2;have hnZ : ¬ S (w.heap.size + 1) := fun h => by have := hS _ h; omega
 have hnD : ¬ S w.heap.size := fun h => by have := hS _ h; omega
 have hsz : w.heap.size + 1 < w1.heap.size := Za hbZ;clear hbD hbZ g2 hb hl gw hv hR2;by_cases h2 : 2 ≤ how
 ·have hD : d.mendD p = d.pairD p ⟨k, y, n, l⟩ := by rw [HD.out, if_pos h2]
  go_wp2_with fail;refine (Ze2 S d p k y n l _ _ _ _ (fun b h => by have := hS b h; simp; omega) hb2.p hl2 hv2 hlen hm).mono ?_;rintro e w3 ⟨vl', rfl, hl3, g3⟩;obtain ⟨al3, cl3, rfl⟩ := hl3.p.form;have hD3 := (g3.block _ (Za hD2)).trans hD2;have hZ3 := (g3.block _ (Za hZ2)).trans hZ2;have gw3 := gw2.trans g3;rw [World.size_alloc] at hl3;clear g3 x0 x1 r0 r1 r2 r3 hD2 hZ2 gw2 hb2 hl2 hv2;obtain ⟨x0, x1⟩ := Xb hD3 rfl rfl;have f0 := Zl hD3 0;have f1 := Zl hD3 1;obtain ⟨y0, y1⟩ := Xb hZ3 rfl rfl;have e0 := Zl hZ3 0;have e1 := Zl hZ3 1;obtain ⟨hp1, hp2⟩ := Xt hD3 (.slice ab d.blocks.length cb) (.slice al3 (d.pairD p ⟨k, y, n, l⟩).late.length cl3);have hZ4 := (hp2.block _ (Za hZ3) (by omega)).trans hZ3;obtain ⟨hq1, hq2⟩ := Xt hZ4 (.slice ab d.blocks.length cb) (.slice al3 (d.pairD p ⟨k, y, n, l⟩).late.length cl3);have gE := hq2.grow (hp2.grow gw3 (by omega)) (by omega);have hnD' : ¬ Zw S (w1.heap.size + 1) w.heap.size := fun h => h.elim hnD (fun h => by omega)
  have hnZ' : ¬ Zw S (w1.heap.size + 1) (w.heap.size + 1) := fun h => h.elim hnZ (fun h => by omega)
  have hlE := (hl3.but hp2 hnD').but hq2 hnZ';replace hlE := hlE.mono (Zz (B := w.heap.size) (by omega));clear hp1 hp2 hq1 hq2 hZ4 hZ3 hD3 hl3 gw3 HD h2;go_wp2_with fail;exact bodyPost_ret (v := .tuple #[.agg #[.slice ab d.blocks.length cb, .slice al3 (d.pairD p ⟨k, y, n, l⟩).late.length cl3], .int .i64 how]) (by simp [results, Tryz.results41, go_sem, cs, y0, y1]) rfl ⟨_, by rw [HW.out], by rw [hD]; exact hlE, gE⟩
 ·have hD : d.mendD p = d := by rw [HD.out, if_neg h2]
  obtain ⟨y0, y1⟩ := Xb hZ2 rfl rfl;have e0 := Zl hZ2 0;have e1 := Zl hZ2 1;obtain ⟨hq1, hq2⟩ := Xt hZ2 (.slice ab d.blocks.length cb) (.slice al d.late.length cl);have gE := hq2.grow gw2 (by omega);have hlE := (hl2.but hq2 hnZ).mono (V3 (B := w.heap.size));have h2' : how < 2 := by omega
  clear hq1 hq2 hZ2 hD2 hl2 gw2 hv2 hb2 h2 hsz;go_wp2_with fail;exact bodyPost_ret (v := .tuple #[.agg #[.slice ab d.blocks.length cb, .slice al d.late.length cl], .int .i64 how]) (by simp [results, Tryz.results41, go_sem, cs, y0, y1]) rfl ⟨_, by rw [HW.out], by rw [hD]; exact hlE, gE⟩
def Kx : List Ent → List Ent → Bool
 | [], [] => true
 | x :: a, y :: b => (decide (x.pair = y.pair) && Qw x.rc y.rc) && Kx a b
 | _, _ => false
theorem Jf : ∀ (a b : List Ent), Kx a b = true ↔ a = b
 | [], [] => by simp [Kx]
 | [], _ :: _ => by simp [Kx]
 | _ :: _, [] => by simp [Kx]
 | ⟨r, p⟩ :: a, ⟨q, o⟩ :: b => by
  have ih := Jf a b;simp only [Kx, Bool.and_eq_true, decide_eq_true_eq, V6, ih, List.cons.injEq, Ent.mk.injEq];constructor
  ·rintro ⟨⟨h1, h2⟩, h3⟩; exact ⟨⟨h2, h1⟩, h3⟩
  ·rintro ⟨⟨h1, h2⟩, h3⟩; exact ⟨⟨h2, h1⟩, h3⟩
theorem Zkn {a b : List Ent} (h : a ≠ b) : Kx a b = false := by
 cases hs : Kx a b with
 | false => rfl
 | true => exact absurd ((Jf a b).1 hs) h
theorem Zp1 {α : Type} {a b : List α} {k : Nat} (h : a.take k = b.take k) (h1 : k < a.length) (h2 : k < b.length) (he : a[k] = b[k]) : a.take (k + 1) = b.take (k + 1) := by
 rw [List.take_succ_eq_append_getElem h1, List.take_succ_eq_append_getElem h2, h, he]
theorem Zc2 (s t : List Ent) (v u : Value) (S S' : Nat → Prop) (w : World) (hs : Yr S w v s) (ht : Yr S' w u t) (hm : s.length ≤ 140737488355328) :
  Calls Tryz.prog 26 #[v, u] w fun e w' => e = .returned (.bool (Kx s t)) ∧ Zp w w' := by
 obtain ⟨ao, ca, rfl⟩ := hs.form;obtain ⟨bo, cb, rfl⟩ := ht.form;by_cases hl : s.length = t.length
 ·obtain ⟨R, hR⟩ : ∃ R, R = Kx s t := ⟨_, rfl⟩;rw [← hR];have HR : Hid _ := hR;have HL : Hid (s.length = t.length) := hl;have d0 : ((s.length : Int) != (t.length : Int)) = false := by simp [hl]
  have hm2 : t.length ≤ 140737488355328 := by omega
  clear hR hl;go_enter Tryz.func26, Tryz.ntmps26;go_wp2_with fail;clear d0;go_loopw [13] (fun i wr => ∃ k : Nat, k ≤ s.length ∧ i = .int .i64 k ∧ s.take k = t.take k ∧ Zp w wr) (fun i _ => s.length - (intOf i).toNat)
  case atStart => exact ⟨0, Nat.zero_le _, rfl, rfl, Zp.refl _⟩
  case round =>
   obtain ⟨k, hk, rfl, htk, hgr⟩ := hrel;have HK : Hid (s.take k = t.take k) := htk;clear htk;by_cases hlt : k < s.length
   ·have hlt2 : k < t.length := by rw [← HL.out]; exact hlt
    have hsr := hs.grow hgr;have htr := ht.grow hgr;obtain ⟨b1, o1, a1, c1, e1, p0, p1, p2, p3, p4, hu⟩ := Kf hsr k hlt;obtain ⟨b2, o2, a2, c2, e2, q0, q1, q2, q3, q4, hz⟩ := Kf htr k hlt2;cases e1;cases e2;have HX : Hid (s[k] = t[k] → s.take (k + 1) = t.take (k + 1)) := fun h => Zp1 HK.out hlt hlt2 h
    have HY : Hid (s[k] ≠ t[k] → R = false) := fun h => by
     rw [HR.out]; exact Zkn fun h2 => h (by simp [h2])
    generalize s[k] = x at *;generalize t[k] = z at *;clear hsr htr;by_cases hp : x.pair = z.pair
    ·cases hsb : Qw x.rc z.rc with
     | true =>
      have HB : Hid (Qw x.rc z.rc = true) := hsb;have HZ : Hid (s.take (k + 1) = t.take (k + 1)) := HX.out (by
       obtain ⟨xr, xp⟩ := x;obtain ⟨zr, zp⟩ := z;have h1 := (V6 xr zr).1 hsb;simp only at hp;rw [h1, hp])
      clear hsb HX HY;go_wp2_with fail;refine Ya [ex (.slice (some ⟨b1, o1, none⟩) s.length ca), ex (.int .i64 k), ex (.pointer (some ⟨b1, o1 + k * 5, none⟩)), ex (.pointer (some ⟨b1, o1 + k * 5 + 4, none⟩)), ex (.int .i64 x.pair), ex (.slice (some ⟨b2, o2, none⟩) t.length cb), ex (.int .i64 k), ex (.pointer (some ⟨b2, o2 + k * 5, none⟩)), ex (.pointer (some ⟨b2, o2 + k * 5 + 4, none⟩)), ex (.int .i64 z.pair), ex (.bool false), ex (.bool false), ex (.slice (some ⟨b1, o1, none⟩) s.length ca), ex (.int .i64 k), ex (.pointer (some ⟨b1, o1 + k * 5, none⟩)), ex (.pointer (some ⟨b1, o1 + k * 5, none⟩)), ex (.agg #[.int .i64 x.rc.kind, .int .i64 x.rc.key, .int .i64 x.rc.ver, .slice a1 x.rc.data.length c1]), ex (.slice (some ⟨b2, o2, none⟩) t.length cb), ex (.int .i64 k), ex (.pointer (some ⟨b2, o2 + k * 5, none⟩)), ex (.pointer (some ⟨b2, o2 + k * 5, none⟩)), ex (.agg #[.int .i64 z.rc.kind, .int .i64 z.rc.key, .int .i64 z.rc.ver, .slice a2 z.rc.data.length c2]), ex (.bool true), ex (.bool false), ex (.bool false)] (by kernel_rfl) (by kernel_rfl) ⟨Zh _, Zh _, Zh _, Zh _, Zh _, Zh _, Zh _, Zh _, Zh _, Zh _, Zh _, Zh _, Zh _, Zh _, Zh _, Zh _, Zh _, Zh _, Zh _, Zh _, Zh _, Zh _, Zh _, Zh _, Zh _, trivial⟩ ?_ ?_
      ·refine ⟨?_, ?_, ?_, ?_, ?_, ?_, ?_, ?_, ?_, ?_, ?_, ?_, ?_, ?_, ?_, ?_, ?_, ?_, ?_, ?_, ?_, ?_, ?_, ?_, ?_, trivial⟩
       ·exact Zb rfl fun a _ _ _ _ A => Zs rfl (Zv A 0 rfl)
       ·exact Zb rfl fun a _ _ _ _ A => Zs rfl (Zv A 5 rfl)
       ·refine Zb rfl fun a _ _ _ B A => ?_;have e16 : a (.tmp 16) = _ := Zf A 0 rfl;have e17 : a (.tmp 17) = _ := Zf A 1 rfl;refine Zi ?_ rfl;clear A B;go_simp;all_goals go_arith
       ·refine Zb rfl fun a _ _ _ B A => ?_;have e18 : a (.tmp 18) = _ := Zf A 2 rfl;refine Zi ?_ rfl;clear A B;go_simp;all_goals go_arith
       ·refine Zb rfl fun a _ _ _ B A => ?_;have e19 : a (.tmp 19) = _ := Zf A 3 rfl;have h1 := (Below.cell B (Zu p4)).trans p4;refine Zi ?_ rfl;clear A B;go_simp;all_goals go_arith
       ·exact Zb rfl fun a _ _ _ _ A => Zs rfl (Zv A 1 rfl)
       ·exact Zb rfl fun a _ _ _ _ A => Zs rfl (Zv A 5 rfl)
       ·refine Zb rfl fun a _ _ _ B A => ?_;have e21 : a (.tmp 21) = _ := Zf A 5 rfl;have e22 : a (.tmp 22) = _ := Zf A 6 rfl;refine Zi ?_ rfl;clear A B;go_simp;all_goals go_arith
       ·refine Zb rfl fun a _ _ _ B A => ?_;have e23 : a (.tmp 23) = _ := Zf A 7 rfl;refine Zi ?_ rfl;clear A B;go_simp;all_goals go_arith
       ·refine Zb rfl fun a _ _ _ B A => ?_;have e24 : a (.tmp 24) = _ := Zf A 8 rfl;have h1 := (Below.cell B (Zu q4)).trans q4;refine Zi ?_ rfl;clear A B;go_simp;all_goals go_arith
       ·refine Zb rfl fun a _ _ _ B A => ?_;have e20 : a (.tmp 20) = _ := Zf A 4 rfl;have e25 : a (.tmp 25) = _ := Zf A 9 rfl;refine Zi ?_ rfl;clear A B;go_simp;all_goals go_arith
       ·exact Zb rfl fun a _ _ _ _ A => Zs rfl (Zf A 10 rfl)
       ·exact Zo 11 false rfl rfl rfl fun a _ _ _ _ A => Zs rfl (Zv A 0 rfl)
       ·exact Zo 11 false rfl rfl rfl fun a _ _ _ _ A => Zs rfl (Zv A 5 rfl)
       ·refine Zo 11 false rfl rfl rfl fun a _ _ _ B A => ?_;have e28 : a (.tmp 28) = _ := Zf A 12 rfl;have e29 : a (.tmp 29) = _ := Zf A 13 rfl;refine Zi ?_ rfl;clear A B;go_simp;all_goals go_arith
       ·refine Zo 11 false rfl rfl rfl fun a _ _ _ B A => ?_;have e30 : a (.tmp 30) = _ := Zf A 14 rfl;refine Zi ?_ rfl;clear A B;go_simp;all_goals go_arith
       ·refine Zo 11 false rfl rfl rfl fun a _ _ _ B A => ?_;have e31 : a (.tmp 31) = _ := Zf A 15 rfl;have h1 := (Below.cell B (Zu p0)).trans p0;have h2 := (Below.cell B (Zu p1)).trans p1;have h3 := (Below.cell B (Zu p2)).trans p2;have h4 := (Below.cell B (Zu p3)).trans p3;refine Zi ?_ rfl;clear A B;go_simp;all_goals go_arith
       ·exact Zo 11 false rfl rfl rfl fun a _ _ _ _ A => Zs rfl (Zv A 1 rfl)
       ·exact Zo 11 false rfl rfl rfl fun a _ _ _ _ A => Zs rfl (Zv A 5 rfl)
       ·refine Zo 11 false rfl rfl rfl fun a _ _ _ B A => ?_;have e33 : a (.tmp 33) = _ := Zf A 17 rfl;have e34 : a (.tmp 34) = _ := Zf A 18 rfl;refine Zi ?_ rfl;clear A B;go_simp;all_goals go_arith
       ·refine Zo 11 false rfl rfl rfl fun a _ _ _ B A => ?_;have e35 : a (.tmp 35) = _ := Zf A 19 rfl;refine Zi ?_ rfl;clear A B;go_simp;all_goals go_arith
       ·refine Zo 11 false rfl rfl rfl fun a _ _ _ B A => ?_;have e36 : a (.tmp 36) = _ := Zf A 20 rfl;have h1 := (Below.cell B (Zu q0)).trans q0;have h2 := (Below.cell B (Zu q1)).trans q1;have h3 := (Below.cell B (Zu q2)).trans q2;have h4 := (Below.cell B (Zu q3)).trans q3;refine Zi ?_ rfl;clear A B;go_simp;all_goals go_arith
       ·refine Zo 11 false rfl rfl rfl fun a B _ _ C A => ?_;have e32 : a (.tmp 32) = _ := Zf A 16 rfl;have e37 : a (.tmp 37) = _ := Zf A 21 rfl;refine Yy (f := 59) (args := #[.agg #[.int .i64 x.rc.kind, .int .i64 x.rc.key, .int .i64 x.rc.ver, .slice a1 x.rc.data.length c1], .agg #[.int .i64 z.rc.kind, .int .i64 z.rc.key, .int .i64 z.rc.ver, .slice a2 z.rc.data.length c2]]) ?_ ((Zeb _ _ _ _ _ _ x.rc.data z.rc.data _ _ B (Z0 hu.p C) (Z0 hz.p C)).mono ?_)
        ·clear A C;go_simp;all_goals go_arith
        ·rintro e w2 ⟨rfl, g2⟩;exact ⟨_, rfl, g2, by rw [← HB.out]; rfl⟩
       ·refine Zo 11 false rfl rfl rfl fun a _ _ _ B A => ?_;have e38 : a (.tmp 38) = _ := Zf A 22 rfl;refine Zi ?_ rfl;clear A B;go_simp;all_goals go_arith
       ·refine Zb rfl fun a _ _ _ _ A => ?_;have ec : a (.tmp 27) = _ := Zf A 11 rfl;have e : a (.tmp 39) = _ := Zf A 23 rfl;exact Y3 rfl ec e
      ·intro vs w' hg ht;obtain ⟨(r16 : vs 0 = _), (r17 : vs 1 = _), (r18 : vs 2 = _), (r19 : vs 3 = _), (r20 : vs 4 = _), (r21 : vs 5 = _), (r22 : vs 6 = _), (r23 : vs 7 = _), (r24 : vs 8 = _), (r25 : vs 9 = _), (r26 : vs 10 = _), (r27 : vs 11 = _), (r28 : vs 12 = _), (r29 : vs 13 = _), (r30 : vs 14 = _), (r31 : vs 15 = _), (r32 : vs 16 = _), (r33 : vs 17 = _), (r34 : vs 18 = _), (r35 : vs 19 = _), (r36 : vs 20 = _), (r37 : vs 21 = _), (r38 : vs 22 = _), (r39 : vs 23 = _), (r40 : vs 24 = _), -⟩ := ht;simp only [Yf, Act.put, List.setIfInBounds_toArray, List.set_cons_zero, List.set_cons_succ, r16, r17, r18, r19, r20, r21, r22, r23, r24, r25, r26, r27, r28, r29, r30, r31, r32, r33, r34, r35, r36, r37, r38, r39, r40];clear r16 r17 r18 r19 r20 r21 r22 r23 r24 r25 r26 r27 r28 r29 r30 r31 r32 r33 r34 r35 r36 r37 r38 r39 r40;have gr2 := hgr.trans hg;clear hg p0 p1 p2 p3 p4 q0 q1 q2 q3 q4 hu hz;go_wp2_with fail;go_roundw
       case rel => exact ⟨k + 1, by omega, by go_num, HZ.out, gr2⟩
       case measure => simp [intOf]; omega
     | false =>
      have HB : Hid (Qw x.rc z.rc = false) := hsb;have hRf : R = false := HY.out (by
       intro h;rw [h] at hsb;rw [(V6 z.rc z.rc).2 rfl] at hsb;cases hsb)
      subst hRf;clear hsb HX HY;go_wp2_with fail;refine Ya [ex (.slice (some ⟨b1, o1, none⟩) s.length ca), ex (.int .i64 k), ex (.pointer (some ⟨b1, o1 + k * 5, none⟩)), ex (.pointer (some ⟨b1, o1 + k * 5 + 4, none⟩)), ex (.int .i64 x.pair), ex (.slice (some ⟨b2, o2, none⟩) t.length cb), ex (.int .i64 k), ex (.pointer (some ⟨b2, o2 + k * 5, none⟩)), ex (.pointer (some ⟨b2, o2 + k * 5 + 4, none⟩)), ex (.int .i64 z.pair), ex (.bool false), ex (.bool false), ex (.slice (some ⟨b1, o1, none⟩) s.length ca), ex (.int .i64 k), ex (.pointer (some ⟨b1, o1 + k * 5, none⟩)), ex (.pointer (some ⟨b1, o1 + k * 5, none⟩)), ex (.agg #[.int .i64 x.rc.kind, .int .i64 x.rc.key, .int .i64 x.rc.ver, .slice a1 x.rc.data.length c1]), ex (.slice (some ⟨b2, o2, none⟩) t.length cb), ex (.int .i64 k), ex (.pointer (some ⟨b2, o2 + k * 5, none⟩)), ex (.pointer (some ⟨b2, o2 + k * 5, none⟩)), ex (.agg #[.int .i64 z.rc.kind, .int .i64 z.rc.key, .int .i64 z.rc.ver, .slice a2 z.rc.data.length c2]), ex (.bool false), ex (.bool true), ex (.bool true)] (by kernel_rfl) (by kernel_rfl) ⟨Zh _, Zh _, Zh _, Zh _, Zh _, Zh _, Zh _, Zh _, Zh _, Zh _, Zh _, Zh _, Zh _, Zh _, Zh _, Zh _, Zh _, Zh _, Zh _, Zh _, Zh _, Zh _, Zh _, Zh _, Zh _, trivial⟩ ?_ ?_
      ·refine ⟨?_, ?_, ?_, ?_, ?_, ?_, ?_, ?_, ?_, ?_, ?_, ?_, ?_, ?_, ?_, ?_, ?_, ?_, ?_, ?_, ?_, ?_, ?_, ?_, ?_, trivial⟩
       ·exact Zb rfl fun a _ _ _ _ A => Zs rfl (Zv A 0 rfl)
       ·exact Zb rfl fun a _ _ _ _ A => Zs rfl (Zv A 5 rfl)
       ·refine Zb rfl fun a _ _ _ B A => ?_;have e16 : a (.tmp 16) = _ := Zf A 0 rfl;have e17 : a (.tmp 17) = _ := Zf A 1 rfl;refine Zi ?_ rfl;clear A B;go_simp;all_goals go_arith
       ·refine Zb rfl fun a _ _ _ B A => ?_;have e18 : a (.tmp 18) = _ := Zf A 2 rfl;refine Zi ?_ rfl;clear A B;go_simp;all_goals go_arith
       ·refine Zb rfl fun a _ _ _ B A => ?_;have e19 : a (.tmp 19) = _ := Zf A 3 rfl;have h1 := (Below.cell B (Zu p4)).trans p4;refine Zi ?_ rfl;clear A B;go_simp;all_goals go_arith
       ·exact Zb rfl fun a _ _ _ _ A => Zs rfl (Zv A 1 rfl)
       ·exact Zb rfl fun a _ _ _ _ A => Zs rfl (Zv A 5 rfl)
       ·refine Zb rfl fun a _ _ _ B A => ?_;have e21 : a (.tmp 21) = _ := Zf A 5 rfl;have e22 : a (.tmp 22) = _ := Zf A 6 rfl;refine Zi ?_ rfl;clear A B;go_simp;all_goals go_arith
       ·refine Zb rfl fun a _ _ _ B A => ?_;have e23 : a (.tmp 23) = _ := Zf A 7 rfl;refine Zi ?_ rfl;clear A B;go_simp;all_goals go_arith
       ·refine Zb rfl fun a _ _ _ B A => ?_;have e24 : a (.tmp 24) = _ := Zf A 8 rfl;have h1 := (Below.cell B (Zu q4)).trans q4;refine Zi ?_ rfl;clear A B;go_simp;all_goals go_arith
       ·refine Zb rfl fun a _ _ _ B A => ?_;have e20 : a (.tmp 20) = _ := Zf A 4 rfl;have e25 : a (.tmp 25) = _ := Zf A 9 rfl;refine Zi ?_ rfl;clear A B;go_simp;all_goals go_arith
       ·exact Zb rfl fun a _ _ _ _ A => Zs rfl (Zf A 10 rfl)
       ·exact Zo 11 false rfl rfl rfl fun a _ _ _ _ A => Zs rfl (Zv A 0 rfl)
       ·exact Zo 11 false rfl rfl rfl fun a _ _ _ _ A => Zs rfl (Zv A 5 rfl)
       ·refine Zo 11 false rfl rfl rfl fun a _ _ _ B A => ?_;have e28 : a (.tmp 28) = _ := Zf A 12 rfl;have e29 : a (.tmp 29) = _ := Zf A 13 rfl;refine Zi ?_ rfl;clear A B;go_simp;all_goals go_arith
       ·refine Zo 11 false rfl rfl rfl fun a _ _ _ B A => ?_;have e30 : a (.tmp 30) = _ := Zf A 14 rfl;refine Zi ?_ rfl;clear A B;go_simp;all_goals go_arith
       ·refine Zo 11 false rfl rfl rfl fun a _ _ _ B A => ?_;have e31 : a (.tmp 31) = _ := Zf A 15 rfl;have h1 := (Below.cell B (Zu p0)).trans p0;have h2 := (Below.cell B (Zu p1)).trans p1;have h3 := (Below.cell B (Zu p2)).trans p2;have h4 := (Below.cell B (Zu p3)).trans p3;refine Zi ?_ rfl;clear A B;go_simp;all_goals go_arith
       ·exact Zo 11 false rfl rfl rfl fun a _ _ _ _ A => Zs rfl (Zv A 1 rfl)
       ·exact Zo 11 false rfl rfl rfl fun a _ _ _ _ A => Zs rfl (Zv A 5 rfl)
       ·refine Zo 11 false rfl rfl rfl fun a _ _ _ B A => ?_;have e33 : a (.tmp 33) = _ := Zf A 17 rfl;have e34 : a (.tmp 34) = _ := Zf A 18 rfl;refine Zi ?_ rfl;clear A B;go_simp;all_goals go_arith
       ·refine Zo 11 false rfl rfl rfl fun a _ _ _ B A => ?_;have e35 : a (.tmp 35) = _ := Zf A 19 rfl;refine Zi ?_ rfl;clear A B;go_simp;all_goals go_arith
       ·refine Zo 11 false rfl rfl rfl fun a _ _ _ B A => ?_;have e36 : a (.tmp 36) = _ := Zf A 20 rfl;have h1 := (Below.cell B (Zu q0)).trans q0;have h2 := (Below.cell B (Zu q1)).trans q1;have h3 := (Below.cell B (Zu q2)).trans q2;have h4 := (Below.cell B (Zu q3)).trans q3;refine Zi ?_ rfl;clear A B;go_simp;all_goals go_arith
       ·refine Zo 11 false rfl rfl rfl fun a B _ _ C A => ?_;have e32 : a (.tmp 32) = _ := Zf A 16 rfl;have e37 : a (.tmp 37) = _ := Zf A 21 rfl;refine Yy (f := 59) (args := #[.agg #[.int .i64 x.rc.kind, .int .i64 x.rc.key, .int .i64 x.rc.ver, .slice a1 x.rc.data.length c1], .agg #[.int .i64 z.rc.kind, .int .i64 z.rc.key, .int .i64 z.rc.ver, .slice a2 z.rc.data.length c2]]) ?_ ((Zeb _ _ _ _ _ _ x.rc.data z.rc.data _ _ B (Z0 hu.p C) (Z0 hz.p C)).mono ?_)
        ·clear A C;go_simp;all_goals go_arith
        ·rintro e w2 ⟨rfl, g2⟩;exact ⟨_, rfl, g2, by rw [← HB.out]; rfl⟩
       ·refine Zo 11 false rfl rfl rfl fun a _ _ _ B A => ?_;have e38 : a (.tmp 38) = _ := Zf A 22 rfl;refine Zi ?_ rfl;clear A B;go_simp;all_goals go_arith
       ·refine Zb rfl fun a _ _ _ _ A => ?_;have ec : a (.tmp 27) = _ := Zf A 11 rfl;have e : a (.tmp 39) = _ := Zf A 23 rfl;exact Y3 rfl ec e
      ·intro vs w' hg ht;obtain ⟨(r16 : vs 0 = _), (r17 : vs 1 = _), (r18 : vs 2 = _), (r19 : vs 3 = _), (r20 : vs 4 = _), (r21 : vs 5 = _), (r22 : vs 6 = _), (r23 : vs 7 = _), (r24 : vs 8 = _), (r25 : vs 9 = _), (r26 : vs 10 = _), (r27 : vs 11 = _), (r28 : vs 12 = _), (r29 : vs 13 = _), (r30 : vs 14 = _), (r31 : vs 15 = _), (r32 : vs 16 = _), (r33 : vs 17 = _), (r34 : vs 18 = _), (r35 : vs 19 = _), (r36 : vs 20 = _), (r37 : vs 21 = _), (r38 : vs 22 = _), (r39 : vs 23 = _), (r40 : vs 24 = _), -⟩ := ht;simp only [Yf, Act.put, List.setIfInBounds_toArray, List.set_cons_zero, List.set_cons_succ, r16, r17, r18, r19, r20, r21, r22, r23, r24, r25, r26, r27, r28, r29, r30, r31, r32, r33, r34, r35, r36, r37, r38, r39, r40];clear r16 r17 r18 r19 r20 r21 r22 r23 r24 r25 r26 r27 r28 r29 r30 r31 r32 r33 r34 r35 r36 r37 r38 r39 r40;have gr2 := hgr.trans hg;clear hg p0 p1 p2 p3 p4 q0 q1 q2 q3 q4 hu hz;go_wp2_with fail;go_ret;exact ⟨rfl, gr2⟩
    ·have hRf : R = false := HY.out (fun h => hp (by rw [h]));subst hRf;have d2 : (x.pair != z.pair) = true := by simp [hp]
     clear HX HY hp;go_wp2_with fail;refine Ya [ex (.slice (some ⟨b1, o1, none⟩) s.length ca), ex (.int .i64 k), ex (.pointer (some ⟨b1, o1 + k * 5, none⟩)), ex (.pointer (some ⟨b1, o1 + k * 5 + 4, none⟩)), ex (.int .i64 x.pair), ex (.slice (some ⟨b2, o2, none⟩) t.length cb), ex (.int .i64 k), ex (.pointer (some ⟨b2, o2 + k * 5, none⟩)), ex (.pointer (some ⟨b2, o2 + k * 5 + 4, none⟩)), ex (.int .i64 z.pair), ex (.bool true), ex (.bool true), ex (undef), ex (undef), ex (undef), ex (undef), ex (undef), ex (undef), ex (undef), ex (undef), ex (undef), ex (undef), ex (undef), ex (undef), ex (.bool true)] (by kernel_rfl) (by kernel_rfl) ⟨Zh _, Zh _, Zh _, Zh _, Zh _, Zh _, Zh _, Zh _, Zh _, Zh _, Zh _, Zh _, Zh _, Zh _, Zh _, Zh _, Zh _, Zh _, Zh _, Zh _, Zh _, Zh _, Zh _, Zh _, Zh _, trivial⟩ ?_ ?_
     ·refine ⟨?_, ?_, ?_, ?_, ?_, ?_, ?_, ?_, ?_, ?_, ?_, ?_, ?_, ?_, ?_, ?_, ?_, ?_, ?_, ?_, ?_, ?_, ?_, ?_, ?_, trivial⟩
      ·exact Zb rfl fun a _ _ _ _ A => Zs rfl (Zv A 0 rfl)
      ·exact Zb rfl fun a _ _ _ _ A => Zs rfl (Zv A 5 rfl)
      ·refine Zb rfl fun a _ _ _ B A => ?_;have e16 : a (.tmp 16) = _ := Zf A 0 rfl;have e17 : a (.tmp 17) = _ := Zf A 1 rfl;refine Zi ?_ rfl;clear A B;go_simp;all_goals go_arith
      ·refine Zb rfl fun a _ _ _ B A => ?_;have e18 : a (.tmp 18) = _ := Zf A 2 rfl;refine Zi ?_ rfl;clear A B;go_simp;all_goals go_arith
      ·refine Zb rfl fun a _ _ _ B A => ?_;have e19 : a (.tmp 19) = _ := Zf A 3 rfl;have h1 := (Below.cell B (Zu p4)).trans p4;refine Zi ?_ rfl;clear A B;go_simp;all_goals go_arith
      ·exact Zb rfl fun a _ _ _ _ A => Zs rfl (Zv A 1 rfl)
      ·exact Zb rfl fun a _ _ _ _ A => Zs rfl (Zv A 5 rfl)
      ·refine Zb rfl fun a _ _ _ B A => ?_;have e21 : a (.tmp 21) = _ := Zf A 5 rfl;have e22 : a (.tmp 22) = _ := Zf A 6 rfl;refine Zi ?_ rfl;clear A B;go_simp;all_goals go_arith
      ·refine Zb rfl fun a _ _ _ B A => ?_;have e23 : a (.tmp 23) = _ := Zf A 7 rfl;refine Zi ?_ rfl;clear A B;go_simp;all_goals go_arith
      ·refine Zb rfl fun a _ _ _ B A => ?_;have e24 : a (.tmp 24) = _ := Zf A 8 rfl;have h1 := (Below.cell B (Zu q4)).trans q4;refine Zi ?_ rfl;clear A B;go_simp;all_goals go_arith
      ·refine Zb rfl fun a _ _ _ B A => ?_;have e20 : a (.tmp 20) = _ := Zf A 4 rfl;have e25 : a (.tmp 25) = _ := Zf A 9 rfl;refine Zi ?_ rfl;clear A B;go_simp;all_goals go_arith
      ·exact Zb rfl fun a _ _ _ _ A => Zs rfl (Zf A 10 rfl)
      ·refine Zy 11 false rfl rfl rfl (fun _ => rfl)
      ·refine Zy 11 false rfl rfl rfl (fun _ => rfl)
      ·refine Zy 11 false rfl rfl rfl (fun _ => rfl)
      ·refine Zy 11 false rfl rfl rfl (fun _ => rfl)
      ·refine Zy 11 false rfl rfl rfl (fun _ => rfl)
      ·refine Zy 11 false rfl rfl rfl (fun _ => rfl)
      ·refine Zy 11 false rfl rfl rfl (fun _ => rfl)
      ·refine Zy 11 false rfl rfl rfl (fun _ => rfl)
      ·refine Zy 11 false rfl rfl rfl (fun _ => rfl)
      ·refine Zy 11 false rfl rfl rfl (fun _ => rfl)
      ·refine Zy 11 false rfl rfl rfl (fun _ => rfl)
      ·refine Zy 11 false rfl rfl rfl (fun _ => rfl)
      ·refine Zb rfl fun a _ B _ _ A => ?_;have ec : a (.tmp 27) = _ := Zf A 11 rfl;exact Y3 rfl ec (B _)
     ·intro vs w' hg ht;obtain ⟨(r16 : vs 0 = _), (r17 : vs 1 = _), (r18 : vs 2 = _), (r19 : vs 3 = _), (r20 : vs 4 = _), (r21 : vs 5 = _), (r22 : vs 6 = _), (r23 : vs 7 = _), (r24 : vs 8 = _), (r25 : vs 9 = _), (r26 : vs 10 = _), (r27 : vs 11 = _), (r28 : vs 12 = _), (r29 : vs 13 = _), (r30 : vs 14 = _), (r31 : vs 15 = _), (r32 : vs 16 = _), (r33 : vs 17 = _), (r34 : vs 18 = _), (r35 : vs 19 = _), (r36 : vs 20 = _), (r37 : vs 21 = _), (r38 : vs 22 = _), (r39 : vs 23 = _), (r40 : vs 24 = _), -⟩ := ht;simp only [Yf, Act.put, List.setIfInBounds_toArray, List.set_cons_zero, List.set_cons_succ, r16, r17, r18, r19, r20, r21, r22, r23, r24, r25, r26, r27, r28, r29, r30, r31, r32, r33, r34, r35, r36, r37, r38, r39, r40];clear r16 r17 r18 r19 r20 r21 r22 r23 r24 r25 r26 r27 r28 r29 r30 r31 r32 r33 r34 r35 r36 r37 r38 r39 r40;have gr2 := hgr.trans hg;clear hg p0 p1 p2 p3 p4 q0 q1 q2 q3 q4 hu hz;go_wp2_with fail;go_ret;exact ⟨rfl, gr2⟩
   ·have hk' : k = s.length := by omega
    have hRt : R = true := by
     rw [HR.out, Jf];have h := HK.out;rw [hk', List.take_length, HL.out, List.take_length] at h;exact h
    subst hRt;clear hk';go_wp2_with fail;go_ret;exact ⟨rfl, hgr⟩
 ·have HR : Hid (Kx s t = false) := Zkn fun h => hl (by rw [h])
  rw [HR.out];have d0 : ((s.length : Int) != (t.length : Int)) = true := by simp; omega
  clear hl;go_enter Tryz.func26, Tryz.ntmps26;go_wp2_with fail;go_ret;exact ⟨rfl, Zp.refl _⟩
def Z5 (d : Dk) : Nat → List Ent
 | 0 => []
 | n + 1 => if (d.tell (n : Int)).kind = 1 then Z5 d n else X5 ⟨d.tell (n : Int), (n : Int)⟩ (Z5 d n)
theorem Zlm (e : Ent) (l : List Ent) : (Q9 e l).1.length = l.length + (if (Q9 e l).2 = true then 1 else 0) := by
 have key : ∀ (l : List Ent) (st : List Ent × Bool), (l.foldl (X0 e) st).1.length + (if st.2 = true then 1 else 0) = st.1.length + l.length + (if (l.foldl (X0 e) st).2 = true then 1 else 0) := by
  intro l
  induction l with
  | nil => rintro ⟨a, b⟩; cases b <;> simp
  | cons x l ih =>
   intro st;rw [List.foldl_cons, List.length_cons];have h1 := ih (X0 e st x);have h2 : (X0 e st x).1.length + (if st.2 = true then 1 else 0) = st.1.length + 1 + (if (X0 e st x).2 = true then 1 else 0) := by
    unfold X0;by_cases hc : st.2 = false ∧ Y5 e x = true
    ·rw [if_pos hc, hc.1]; simp
    ·rw [if_neg hc]; simp
   omega
 have := key l ([], false);unfold Q9;simpa using this
theorem Zht (e : Ent) (l : List Ent) : (X5 e l).length = l.length + 1 := by
 have h := Zlm e l;unfold X5;by_cases hd : (Q9 e l).2 = true
 ·rw [if_pos hd] at h ⊢; exact h
 ·rw [if_neg hd] at h ⊢; simp [h]
theorem Zh6 (d : Dk) : ∀ n, (Z5 d n).length ≤ n
 | 0 => by simp [Z5]
 | n + 1 => by
  have ih := Zh6 d n;unfold Z5;split
  ·omega
  ·rw [Zht]; omega
theorem Zea (S : Nat → Prop) (d : Dk) (vb vl : Value) (w : World) (hb : Y2 S w vb d.blocks) (hl : Xm S w vl d.late) (hlen : d.blocks.length ≤ 256) (hm : d.late.length ≤ 999990) :
  Calls Tryz.prog 27 #[.agg #[vb, vl]] w fun r w' => ∃ v', r = .returned v' ∧ Yr (Zw S w.heap.size) w' v' (Z5 d (d.blocks.length / 2)) ∧ Zp w w' := by
 obtain ⟨ab, cb, rfl⟩ := hb.p.form;obtain ⟨al, cl, rfl⟩ := hl.p.form;have g0 := Zc w (.cells #[.slice ab d.blocks.length cb, .slice al d.late.length cl] 26);have hD0 := Zj w #[.slice ab d.blocks.length cb, .slice al d.late.length cl] 26;have hq : (d.blocks.length : Int).tdiv 2 = ((d.blocks.length / 2 : Nat) : Int) := by rw [Int.tdiv_eq_ediv_of_nonneg (by omega)]; omega
 obtain ⟨N, hN⟩ : ∃ N, N = d.blocks.length / 2 := ⟨_, rfl⟩;rw [← hN] at hq ⊢;have hN2 : N ≤ 128 := by omega
 clear hN;go_enter Tryz.func27, Tryz.ntmps27;go_wp2_with fail;generalize World.alloc w _ = W at *;go_loopw [3, 11] (fun o i wr => ∃ k : Nat, k ≤ N ∧ i = .int .i64 k ∧ Yr (fun b => Zw S (w.heap.size + 1) b ∧ b < wr.heap.size) wr o (Z5 d k) ∧ Zp w wr ∧ wr.heap[w.heap.size]? = some (.cells #[.slice ab d.blocks.length cb, .slice al d.late.length cl] 26 (0, 0))) (fun _ i _ => N - (intOf i).toNat)
 case atStart => exact ⟨0, Nat.zero_le _, rfl, Z9.nil _ _ _, g0, hD0⟩
 case round =>
  clear g0 hD0;obtain ⟨k, hk, rfl, hO, hg, hD⟩ := hrel;by_cases hlt : k < N
  ·have hsc := Zh6 d k;have HN : Hid (Z5 d (k + 1) = if (d.tell (k : Int)).kind = 1 then Z5 d k else X5 ⟨d.tell (k : Int), (k : Int)⟩ (Z5 d k)) := rfl;obtain ⟨a0, c0, rfl⟩ := hO.form;obtain ⟨x0, x1⟩ := Xb hD rfl rfl;go_wp2_with fail;refine (Zgs _ d (k : Int) _ _ _ (hb.grow hg) (hl.grow hg) hlen hm).mono ?_;rintro e w1 ⟨dv, rfl, ho, g1⟩;obtain ⟨a1, c1, rfl⟩ := Z6 ho;generalize d.tell (k : Int) = r at *;generalize d.how (k : Int) = how at *;have g2 := Zc w1 (.cells #[.int .i64 r.kind, .int .i64 r.key, .int .i64 r.ver, .slice a1 r.data.length c1] 61);have hR2 := Zj w1 #[.int .i64 r.kind, .int .i64 r.key, .int .i64 r.ver, .slice a1 r.data.length c1] 61;have hD2 := ((g1.trans g2).block _ (Za hD)).trans hD;have hwr : w.heap.size + 1 ≤ wr.heap.size := Za hD;have hB2 : Z3 (fun b => Zw S (w.heap.size + 1) b ∧ b < w1.heap.size + 1) (w1.alloc (.cells #[.int .i64 r.kind, .int .i64 r.key, .int .i64 r.ver, .slice a1 r.data.length c1] 61)) (.slice a1 r.data.length c1) r.data := by
    have h := ((Zcr S (Yi ho hwr)).grow g2).caps;rw [World.size_alloc] at h;exact h
   have hO2 : Yr (fun b => Zw S (w.heap.size + 1) b ∧ b < w1.heap.size + 1) (w1.alloc (.cells #[.int .i64 r.kind, .int .i64 r.key, .int .i64 r.ver, .slice a1 r.data.length c1] 61)) (.slice a0 (Z5 d k).length c0) (Z5 d k) := (hO.grow (g1.trans g2)).mono fun b h => ⟨h.1, by have := g1.size; omega⟩
   have gw2 := hg.trans (g1.trans g2);obtain ⟨r0, r1, r2, r3⟩ := Z4 hR2 rfl rfl rfl rfl;have HSZ : Hid (w.heap.size + 1 ≤ w1.heap.size) := Nat.le_trans hwr g1.size;clear x0 x1 hO hg hD g1 g2 ho hR2 hwr;by_cases hk1 : r.kind = 1
   ·have HN2 : Hid (Z5 d (k + 1) = Z5 d k) := by show _ = _; rw [HN.out, if_pos hk1]
    have d1 : (r.kind != 1) = false := by simp [hk1]
    clear hk1 HN;have hsz := World.size_alloc w1 (.cells #[.int .i64 r.kind, .int .i64 r.key, .int .i64 r.ver, .slice a1 r.data.length c1] 61);have hO3 := hO2.mono (S' := fun b => Zw S (w.heap.size + 1) b ∧ b < (w1.alloc (.cells #[.int .i64 r.kind, .int .i64 r.key, .int .i64 r.ver, .slice a1 r.data.length c1] 61)).heap.size) (fun b h => ⟨h.1, by rw [hsz]; exact h.2⟩);clear hO2 hB2 hsz;go_wp2_with fail;go_roundw
    case rel => exact ⟨k + 1, by omega, by go_num, by rw [HN2.out]; exact hO3, gw2, hD2⟩
    case measure => simp [intOf]; omega
   ·have HN2 : Hid (Z5 d (k + 1) = X5 ⟨r, (k : Int)⟩ (Z5 d k)) := by show _ = _; rw [HN.out, if_neg hk1]
    have d1 : (r.kind != 1) = true := by simp [hk1]
    clear hk1 HN;go_wp2_with fail;refine (Ze0 _ (Z5 d k) ⟨r, (k : Int)⟩ _ a1 c1 _ (fun b h => by rw [World.size_alloc]; exact h.2) hO2 hB2 (by omega)).mono ?_;rintro e w3 ⟨v3, rfl, hO3, g3⟩;rw [← HN2.out] at hO3;have hO4 : Yr (fun b => Zw S (w.heap.size + 1) b ∧ b < w3.heap.size) w3 v3 (Z5 d (k + 1)) := (hO3.caps (by decide)).mono fun b h => ⟨h.1.elim (fun x => x.1) (fun x => .inr (by have := HSZ.out; rw [World.size_alloc] at x; omega)), h.2⟩
    have hD3 := (g3.block _ (Za hD2)).trans hD2;have gw3 := gw2.trans g3;clear hO2 hO3 hB2 hD2 gw2 g3 r0 r1 r2 r3;go_wp2_with fail;go_roundw
    case rel => exact ⟨k + 1, by omega, by go_num, hO4, gw3, hD3⟩
    case measure => simp [intOf]; omega
  ·have hk' : k = N := by omega
   subst hk';have hfin := hO.mono (S' := Zw S w.heap.size) (fun b h => Zz (B := w.heap.size) (by omega) b h.1);obtain ⟨a0, c0, rfl⟩ := hO.form;clear hO;go_wp2_with fail;go_ret;exact ⟨_, rfl, hfin, hg⟩
end Go.Proofs.YtpdnapbchcdhlacGreat
