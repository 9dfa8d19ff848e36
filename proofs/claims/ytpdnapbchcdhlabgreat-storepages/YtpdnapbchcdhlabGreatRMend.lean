import Derived.Test.YtpdnapbchcdhlabGreatRLook
import Derived.Test.YtpdnapbchcdhlabGreatDkLaw
set_option maxHeartbeats 8000000
namespace Go.Proofs.YtpdnapbchcdhlabGreat
set_option maxRecDepth 100000
open Go.RowKit
open Plain Reg
theorem Zuo (d : Dk) (p : Int) (ab al : Option Addr) (cb cl : Nat) (w : World) (hout : p < 0 ∨ ((d.blocks.length / 2 : Nat) : Int) ≤ p) (hlen : d.blocks.length ≤ 256) :
  Calls Tryz.prog 84 #[.agg #[.slice ab d.blocks.length cb, .slice al d.late.length cl], .int .i64 p] w fun e w' => e = .returned (.tuple #[.int .i64 4, .agg #[.int .i64 1, .int .i64 0, .int .i64 0, .slice none 0 0]]) ∧ Zo w w' := by
 have hq : (d.blocks.length : Int).tdiv 2 = ((d.blocks.length / 2 : Nat) : Int) := by rw [Int.tdiv_eq_ediv_of_nonneg (by omega)]; omega
 by_cases h0 : p < 0
 all_goals
  first | (have h1 : ((d.blocks.length / 2 : Nat) : Int) ≤ p := by omega) | skip
  clear hout;go_enter Tryz.func84, Tryz.ntmps84;go_wp2_with fail;refine (Zb5 _).mono ?_;rintro e w1 ⟨rfl, g1⟩;have gw : Zo w w1 := ((Zu _ _ _).trans (Zd _ _)).trans g1;have hbZ : w1.heap[w.heap.size + 1]? = some (.cells #[.int .i64 0, .int .i64 0, .int .i64 0, .slice none 0 0] 51 (0, 0)) := by
   have h := Zj (w.alloc (.cells #[.slice ab d.blocks.length cb, .slice al d.late.length cl] 30)) #[.int .i64 0, .int .i64 0, .int .i64 0, .slice none 0 0] 51;rw [World.size_alloc] at h;exact (((Zd _ _).trans g1).block _ (by simp)).trans h
  clear g1;obtain ⟨y0, y1, y2, y3⟩ := Z7 hbZ rfl rfl rfl rfl;obtain ⟨f0, f1, f2, f3⟩ := Yt hbZ;have cs := Zx;have hp := (Ym hbZ (.int .i64 1) (.int .i64 0) (.int .i64 0) (.slice none 0 0)).2;go_wp2_with fail;refine bodyPost_ret (v := .tuple #[.int .i64 4, .agg #[.int .i64 1, .int .i64 0, .int .i64 0, .slice none 0 0]]) (by simp [results, Tryz.results84, go_sem, y0, y1, y2, y3, cs]) rfl ⟨rfl, ?_⟩;exact hp.grow gw (by omega)
theorem Zgz (S : Nat → Prop) (d : Dk) (p : Int) (vb vl : Value) (w : World) (hb : Y0 S w vb d.blocks) (hl : Xj S w vl d.late) (hlen : d.blocks.length ≤ 256) (hm : d.late.length ≤ 999990) :
  Calls Tryz.prog 84 #[.agg #[vb, vl], .int .i64 p] w fun e w' => ∃ dv, e = .returned (.tuple #[.int .i64 (d.how p), .agg #[.int .i64 (d.tell p).kind, .int .i64 (d.tell p).key, .int .i64 (d.tell p).ver, dv]]) ∧ w'.ownsRow w.heap.size 5 1 dv (d.tell p).data.length ((d.tell p).data.map bv) ∧ Zo w w' := by
 obtain ⟨ab, cb, rfl⟩ := hb.p.form;obtain ⟨al, cl, rfl⟩ := hl.p.form;by_cases hout : p < 0 ∨ ((d.blocks.length / 2 : Nat) : Int) ≤ p
 ·have hn : d.noPair p = true := by unfold Dk.noPair; exact decide_eq_true hout
  have hh : d.how p = 4 := by unfold Dk.how; rw [if_pos hn]
  have ht : d.tell p = Rec.free := by unfold Dk.tell; rw [if_pos hn]
  rw [hh, ht];exact (Zuo d p ab al cb cl w hout hlen).mono fun e w' ⟨h1, h2⟩ => ⟨_, h1, ⟨rfl, .inl ⟨rfl, rfl⟩⟩, h2⟩
 ·exact Zw7 S d p ab al cb cl w hb hl (by omega) (by omega) hlen hm
def Dk.mendD (d : Dk) (p : Int) : Dk := if 2 ≤ d.how p then d.pairD p (d.tell p) else d
theorem Zuj (S : Nat → Prop) (d : Dk) (p : Int) (vb vl : Value) (w : World) (hS : ∀ b, S b → b < w.heap.size) (hb : Y0 S w vb d.blocks) (hl : Xj S w vl d.late) (hlen : d.blocks.length ≤ 256) (hm : d.late.length ≤ 999990) :
  Calls Tryz.prog 97 #[.agg #[vb, vl], .int .i64 p] w fun e w' => ∃ vl', e = .returned (.tuple #[.agg #[vb, vl'], .int .i64 (d.how p)]) ∧ Xj (Zy S w.heap.size) w' vl' (d.mendD p).late ∧ Zo w w' := by
 obtain ⟨ab, cb, rfl⟩ := hb.p.form;obtain ⟨al, cl, rfl⟩ := hl.p.form;have HD : Hid (d.mendD p = if 2 ≤ d.how p then d.pairD p (d.tell p) else d) := rfl;go_enter Tryz.func97, Tryz.ntmps97;go_wp2_with fail;refine (Zgz S d p _ _ _ (by exact hb.grow (Zu _ _ _)) (by exact hl.grow (Zu _ _ _)) hlen hm).mono ?_;rintro e w1 ⟨dv, rfl, ho, g1⟩;have gw : Zo w w1 := (Zu _ _ _).trans g1;have hbD : w1.heap[w.heap.size]? = some (.cells #[.slice ab d.blocks.length cb, .slice al d.late.length cl] 30 (0, 0)) :=
  (((Zd _ _).trans g1).block _ (by simp)).trans (Zj _ _ _)
 have hbZ : w1.heap[w.heap.size + 1]? = some (.cells #[.slice none 0 0, .slice none 0 0] 30 (0, 0)) := by
  have h := Zj (w.alloc (.cells #[.slice ab d.blocks.length cb, .slice al d.late.length cl] 30)) #[.slice none 0 0, .slice none 0 0] 30;rw [World.size_alloc] at h;exact (g1.block _ (by simp)).trans h
 obtain ⟨a1, c1, rfl⟩ := Z4 ho;have hv := Q1 ho;clear g1 ho;generalize d.tell p = r at *;have HW : Hid (d.how p = d.how p) := rfl;generalize hhow : d.how p = how at *;replace HW : Hid (d.how p = how) := hhow;clear hhow;obtain ⟨k, y, n, l⟩ := r;have g2 := Zd w1 (.cells #[.int .i64 k, .int .i64 y, .int .i64 n, .slice a1 l.length c1] 51);have hR2 := Zj w1 #[.int .i64 k, .int .i64 y, .int .i64 n, .slice a1 l.length c1] 51;have hD2 := (g2.block _ (Za hbD)).trans hbD;have hZ2 := (g2.block _ (Za hbZ)).trans hbZ;obtain ⟨x0, x1⟩ := Xz hD2 rfl rfl;obtain ⟨r0, r1, r2, r3⟩ := Z7 hR2 rfl rfl rfl rfl;have cs := Zx;have gw2 := gw.trans g2;have hv2 := Z0 hv g2;have hb2 := hb.grow gw2;have hl2 := hl.grow gw2;have hnZ : ¬ S (w.heap.size + 1) := fun h => by have := hS _ h; omega
 have hnD : ¬ S w.heap.size := fun h => by have := hS _ h; omega
 have hsz : w.heap.size + 1 < w1.heap.size := Za hbZ;clear hbD hbZ g2 hb hl gw hv hR2;by_cases h2 : 2 ≤ how
 ·have hD : d.mendD p = d.pairD p ⟨k, y, n, l⟩ := by rw [HD.out, if_pos h2]
  go_wp2_with fail;refine (Zfa S d p k y n l _ _ _ _ (fun b h => by have := hS b h; simp; omega) hb2.p hl2 hv2 hlen hm).mono ?_;rintro e w3 ⟨vl', rfl, hl3, g3⟩;obtain ⟨al3, cl3, rfl⟩ := hl3.p.form;have hD3 := (g3.block _ (Za hD2)).trans hD2;have hZ3 := (g3.block _ (Za hZ2)).trans hZ2;have gw3 := gw2.trans g3;rw [World.size_alloc] at hl3;clear g3 x0 x1 r0 r1 r2 r3 hD2 hZ2 gw2 hb2 hl2 hv2;obtain ⟨x0, x1⟩ := Xz hD3 rfl rfl;have f0 := Zr hD3 0;have f1 := Zr hD3 1;obtain ⟨y0, y1⟩ := Xz hZ3 rfl rfl;have e0 := Zr hZ3 0;have e1 := Zr hZ3 1;obtain ⟨hp1, hp2⟩ := Qe hD3 (.slice ab d.blocks.length cb) (.slice al3 (d.pairD p ⟨k, y, n, l⟩).late.length cl3);have hZ4 := (hp2.block _ (Za hZ3) (by omega)).trans hZ3;obtain ⟨hq1, hq2⟩ := Qe hZ4 (.slice ab d.blocks.length cb) (.slice al3 (d.pairD p ⟨k, y, n, l⟩).late.length cl3);have gE := hq2.grow (hp2.grow gw3 (by omega)) (by omega);have hnD' : ¬ Zy S (w1.heap.size + 1) w.heap.size := fun h => h.elim hnD (fun h => by omega)
  have hnZ' : ¬ Zy S (w1.heap.size + 1) (w.heap.size + 1) := fun h => h.elim hnZ (fun h => by omega)
  have hlE := (hl3.but hp2 hnD').but hq2 hnZ';replace hlE := hlE.mono (Ya (B := w.heap.size) (by omega));clear hp1 hp2 hq1 hq2 hZ4 hZ3 hD3 hl3 gw3 HD h2;go_wp2_with fail;exact bodyPost_ret (v := .tuple #[.agg #[.slice ab d.blocks.length cb, .slice al3 (d.pairD p ⟨k, y, n, l⟩).late.length cl3], .int .i64 how]) (by simp [results, Tryz.results97, go_sem, cs, y0, y1]) rfl ⟨_, by rw [HW.out], by rw [hD]; exact hlE, gE⟩
 ·have hD : d.mendD p = d := by rw [HD.out, if_neg h2]
  obtain ⟨y0, y1⟩ := Xz hZ2 rfl rfl;have e0 := Zr hZ2 0;have e1 := Zr hZ2 1;obtain ⟨hq1, hq2⟩ := Qe hZ2 (.slice ab d.blocks.length cb) (.slice al d.late.length cl);have gE := hq2.grow gw2 (by omega);have hlE := (hl2.but hq2 hnZ).mono (V0 (B := w.heap.size));have h2' : how < 2 := by omega
  clear hq1 hq2 hZ2 hD2 hl2 gw2 hv2 hb2 h2 hsz;go_wp2_with fail;exact bodyPost_ret (v := .tuple #[.agg #[.slice ab d.blocks.length cb, .slice al d.late.length cl], .int .i64 how]) (by simp [results, Tryz.results97, go_sem, cs, y0, y1]) rfl ⟨_, by rw [HW.out], by rw [hD]; exact hlE, gE⟩
def Jk : List Ent → List Ent → Bool
 | [], [] => true
 | x :: a, y :: b => (decide (x.pair = y.pair) && X2 x.rc y.rc) && Jk a b
 | _, _ => false
theorem Zcj : ∀ (a b : List Ent), Jk a b = true ↔ a = b
 | [], [] => by simp [Jk]
 | [], _ :: _ => by simp [Jk]
 | _ :: _, [] => by simp [Jk]
 | ⟨r, p⟩ :: a, ⟨q, o⟩ :: b => by
  have ih := Zcj a b;simp only [Jk, Bool.and_eq_true, decide_eq_true_eq, Kn, ih, List.cons.injEq, Ent.mk.injEq];constructor
  ·rintro ⟨⟨h1, h2⟩, h3⟩; exact ⟨⟨h2, h1⟩, h3⟩
  ·rintro ⟨⟨h1, h2⟩, h3⟩; exact ⟨⟨h2, h1⟩, h3⟩
theorem Zk2 {a b : List Ent} (h : a ≠ b) : Jk a b = false := by
 cases hs : Jk a b with
 | false => rfl
 | true => exact absurd ((Zcj a b).1 hs) h
theorem Zqe {α : Type} {a b : List α} {k : Nat} (h : a.take k = b.take k) (h1 : k < a.length) (h2 : k < b.length) (he : a[k] = b[k]) : a.take (k + 1) = b.take (k + 1) := by
 rw [List.take_succ_eq_append_getElem h1, List.take_succ_eq_append_getElem h2, h, he]
theorem Zno (s t : List Ent) (v u : Value) (S S' : Nat → Prop) (w : World) (hs : Ys S w v s) (ht : Ys S' w u t) (hm : s.length ≤ 140737488355328) :
  Calls Tryz.prog 32 #[v, u] w fun e w' => e = .returned (.bool (Jk s t)) ∧ Zo w w' := by
 obtain ⟨ao, ca, rfl⟩ := hs.form;obtain ⟨bo, cb, rfl⟩ := ht.form;by_cases hl : s.length = t.length
 ·obtain ⟨R, hR⟩ : ∃ R, R = Jk s t := ⟨_, rfl⟩;rw [← hR];have HR : Hid _ := hR;have HL : Hid (s.length = t.length) := hl;have d0 : ((s.length : Int) != (t.length : Int)) = false := by simp [hl]
  have hm2 : t.length ≤ 140737488355328 := by omega
  clear hR hl;go_enter Tryz.func32, Tryz.ntmps32;go_wp2_with fail;clear d0;go_loopw [13] (fun i wr => ∃ k : Nat, k ≤ s.length ∧ i = .int .i64 k ∧ s.take k = t.take k ∧ Zo w wr) (fun i _ => s.length - (intOf i).toNat)
  case atStart => exact ⟨0, Nat.zero_le _, rfl, rfl, Zo.refl _⟩
  case round =>
   obtain ⟨k, hk, rfl, htk, hgr⟩ := hrel;have HK : Hid (s.take k = t.take k) := htk;clear htk;by_cases hlt : k < s.length
   ·have hlt2 : k < t.length := by rw [← HL.out]; exact hlt
    have hsr := hs.grow hgr;have htr := ht.grow hgr;obtain ⟨b1, o1, a1, c1, e1, p0, p1, p2, p3, p4, hu⟩ := Vp hsr k hlt;obtain ⟨b2, o2, a2, c2, e2, q0, q1, q2, q3, q4, hz⟩ := Vp htr k hlt2;cases e1;cases e2;have HX : Hid (s[k] = t[k] → s.take (k + 1) = t.take (k + 1)) := fun h => Zqe HK.out hlt hlt2 h
    have HY : Hid (s[k] ≠ t[k] → R = false) := fun h => by
     rw [HR.out]; exact Zk2 fun h2 => h (by simp [h2])
    generalize s[k] = x at *;generalize t[k] = z at *;clear hsr htr;by_cases hp : x.pair = z.pair
    ·cases hsb : X2 x.rc z.rc with
     | true =>
      have HB : Hid (X2 x.rc z.rc = true) := hsb;have HZ : Hid (s.take (k + 1) = t.take (k + 1)) := HX.out (by
       obtain ⟨xr, xp⟩ := x;obtain ⟨zr, zp⟩ := z;have h1 := (Kn xr zr).1 hsb;simp only at hp;rw [h1, hp])
      clear hsb HX HY;go_wp2_with fail;refine Zz [ex (.slice (some ⟨b1, o1, none⟩) s.length ca), ex (.int .i64 k), ex (.pointer (some ⟨b1, o1 + k * 5, none⟩)), ex (.pointer (some ⟨b1, o1 + k * 5 + 4, none⟩)), ex (.int .i64 x.pair), ex (.slice (some ⟨b2, o2, none⟩) t.length cb), ex (.int .i64 k), ex (.pointer (some ⟨b2, o2 + k * 5, none⟩)), ex (.pointer (some ⟨b2, o2 + k * 5 + 4, none⟩)), ex (.int .i64 z.pair), ex (.bool false), ex (.bool false), ex (.slice (some ⟨b1, o1, none⟩) s.length ca), ex (.int .i64 k), ex (.pointer (some ⟨b1, o1 + k * 5, none⟩)), ex (.pointer (some ⟨b1, o1 + k * 5, none⟩)), ex (.agg #[.int .i64 x.rc.kind, .int .i64 x.rc.key, .int .i64 x.rc.ver, .slice a1 x.rc.data.length c1]), ex (.slice (some ⟨b2, o2, none⟩) t.length cb), ex (.int .i64 k), ex (.pointer (some ⟨b2, o2 + k * 5, none⟩)), ex (.pointer (some ⟨b2, o2 + k * 5, none⟩)), ex (.agg #[.int .i64 z.rc.kind, .int .i64 z.rc.key, .int .i64 z.rc.ver, .slice a2 z.rc.data.length c2]), ex (.bool true), ex (.bool false), ex (.bool false)] (by kernel_rfl) (by kernel_rfl) ⟨Zf _, Zf _, Zf _, Zf _, Zf _, Zf _, Zf _, Zf _, Zf _, Zf _, Zf _, Zf _, Zf _, Zf _, Zf _, Zf _, Zf _, Zf _, Zf _, Zf _, Zf _, Zf _, Zf _, Zf _, Zf _, trivial⟩ ?_ ?_
      ·refine ⟨?_, ?_, ?_, ?_, ?_, ?_, ?_, ?_, ?_, ?_, ?_, ?_, ?_, ?_, ?_, ?_, ?_, ?_, ?_, ?_, ?_, ?_, ?_, ?_, ?_, trivial⟩
       ·exact Zb rfl fun a _ _ _ _ A => Zn rfl (Zq A 0 rfl)
       ·exact Zb rfl fun a _ _ _ _ A => Zn rfl (Zq A 5 rfl)
       ·refine Zb rfl fun a _ _ _ B A => ?_;have e16 : a (.tmp 16) = _ := Zc A 0 rfl;have e17 : a (.tmp 17) = _ := Zc A 1 rfl;refine Zi ?_ rfl;clear A B;go_simp;all_goals go_arith
       ·refine Zb rfl fun a _ _ _ B A => ?_;have e18 : a (.tmp 18) = _ := Zc A 2 rfl;refine Zi ?_ rfl;clear A B;go_simp;all_goals go_arith
       ·refine Zb rfl fun a _ _ _ B A => ?_;have e19 : a (.tmp 19) = _ := Zc A 3 rfl;have h1 := (Below.cell B (Zs p4)).trans p4;refine Zi ?_ rfl;clear A B;go_simp;all_goals go_arith
       ·exact Zb rfl fun a _ _ _ _ A => Zn rfl (Zq A 1 rfl)
       ·exact Zb rfl fun a _ _ _ _ A => Zn rfl (Zq A 5 rfl)
       ·refine Zb rfl fun a _ _ _ B A => ?_;have e21 : a (.tmp 21) = _ := Zc A 5 rfl;have e22 : a (.tmp 22) = _ := Zc A 6 rfl;refine Zi ?_ rfl;clear A B;go_simp;all_goals go_arith
       ·refine Zb rfl fun a _ _ _ B A => ?_;have e23 : a (.tmp 23) = _ := Zc A 7 rfl;refine Zi ?_ rfl;clear A B;go_simp;all_goals go_arith
       ·refine Zb rfl fun a _ _ _ B A => ?_;have e24 : a (.tmp 24) = _ := Zc A 8 rfl;have h1 := (Below.cell B (Zs q4)).trans q4;refine Zi ?_ rfl;clear A B;go_simp;all_goals go_arith
       ·refine Zb rfl fun a _ _ _ B A => ?_;have e20 : a (.tmp 20) = _ := Zc A 4 rfl;have e25 : a (.tmp 25) = _ := Zc A 9 rfl;refine Zi ?_ rfl;clear A B;go_simp;all_goals go_arith
       ·exact Zb rfl fun a _ _ _ _ A => Zn rfl (Zc A 10 rfl)
       ·exact Zm 11 false rfl rfl rfl fun a _ _ _ _ A => Zn rfl (Zq A 0 rfl)
       ·exact Zm 11 false rfl rfl rfl fun a _ _ _ _ A => Zn rfl (Zq A 5 rfl)
       ·refine Zm 11 false rfl rfl rfl fun a _ _ _ B A => ?_;have e28 : a (.tmp 28) = _ := Zc A 12 rfl;have e29 : a (.tmp 29) = _ := Zc A 13 rfl;refine Zi ?_ rfl;clear A B;go_simp;all_goals go_arith
       ·refine Zm 11 false rfl rfl rfl fun a _ _ _ B A => ?_;have e30 : a (.tmp 30) = _ := Zc A 14 rfl;refine Zi ?_ rfl;clear A B;go_simp;all_goals go_arith
       ·refine Zm 11 false rfl rfl rfl fun a _ _ _ B A => ?_;have e31 : a (.tmp 31) = _ := Zc A 15 rfl;have h1 := (Below.cell B (Zs p0)).trans p0;have h2 := (Below.cell B (Zs p1)).trans p1;have h3 := (Below.cell B (Zs p2)).trans p2;have h4 := (Below.cell B (Zs p3)).trans p3;refine Zi ?_ rfl;clear A B;go_simp;all_goals go_arith
       ·exact Zm 11 false rfl rfl rfl fun a _ _ _ _ A => Zn rfl (Zq A 1 rfl)
       ·exact Zm 11 false rfl rfl rfl fun a _ _ _ _ A => Zn rfl (Zq A 5 rfl)
       ·refine Zm 11 false rfl rfl rfl fun a _ _ _ B A => ?_;have e33 : a (.tmp 33) = _ := Zc A 17 rfl;have e34 : a (.tmp 34) = _ := Zc A 18 rfl;refine Zi ?_ rfl;clear A B;go_simp;all_goals go_arith
       ·refine Zm 11 false rfl rfl rfl fun a _ _ _ B A => ?_;have e35 : a (.tmp 35) = _ := Zc A 19 rfl;refine Zi ?_ rfl;clear A B;go_simp;all_goals go_arith
       ·refine Zm 11 false rfl rfl rfl fun a _ _ _ B A => ?_;have e36 : a (.tmp 36) = _ := Zc A 20 rfl;have h1 := (Below.cell B (Zs q0)).trans q0;have h2 := (Below.cell B (Zs q1)).trans q1;have h3 := (Below.cell B (Zs q2)).trans q2;have h4 := (Below.cell B (Zs q3)).trans q3;refine Zi ?_ rfl;clear A B;go_simp;all_goals go_arith
       ·refine Zm 11 false rfl rfl rfl fun a B _ _ C A => ?_;have e32 : a (.tmp 32) = _ := Zc A 16 rfl;have e37 : a (.tmp 37) = _ := Zc A 21 rfl;refine Yi (f := 24) (args := #[.agg #[.int .i64 x.rc.kind, .int .i64 x.rc.key, .int .i64 x.rc.ver, .slice a1 x.rc.data.length c1], .agg #[.int .i64 z.rc.kind, .int .i64 z.rc.key, .int .i64 z.rc.ver, .slice a2 z.rc.data.length c2]]) ?_ ((Zap _ _ _ _ _ _ x.rc.data z.rc.data _ _ B (Z0 hu.p C) (Z0 hz.p C)).mono ?_)
        ·clear A C;go_simp;all_goals go_arith
        ·rintro e w2 ⟨rfl, g2⟩;exact ⟨_, rfl, g2, by rw [← HB.out]; rfl⟩
       ·refine Zm 11 false rfl rfl rfl fun a _ _ _ B A => ?_;have e38 : a (.tmp 38) = _ := Zc A 22 rfl;refine Zi ?_ rfl;clear A B;go_simp;all_goals go_arith
       ·refine Zb rfl fun a _ _ _ _ A => ?_;have ec : a (.tmp 27) = _ := Zc A 11 rfl;have e : a (.tmp 39) = _ := Zc A 23 rfl;exact Yu rfl ec e
      ·intro vs w' hg ht;obtain ⟨(r16 : vs 0 = _), (r17 : vs 1 = _), (r18 : vs 2 = _), (r19 : vs 3 = _), (r20 : vs 4 = _), (r21 : vs 5 = _), (r22 : vs 6 = _), (r23 : vs 7 = _), (r24 : vs 8 = _), (r25 : vs 9 = _), (r26 : vs 10 = _), (r27 : vs 11 = _), (r28 : vs 12 = _), (r29 : vs 13 = _), (r30 : vs 14 = _), (r31 : vs 15 = _), (r32 : vs 16 = _), (r33 : vs 17 = _), (r34 : vs 18 = _), (r35 : vs 19 = _), (r36 : vs 20 = _), (r37 : vs 21 = _), (r38 : vs 22 = _), (r39 : vs 23 = _), (r40 : vs 24 = _), -⟩ := ht;simp only [Yc, Act.put, List.setIfInBounds_toArray, List.set_cons_zero, List.set_cons_succ, r16, r17, r18, r19, r20, r21, r22, r23, r24, r25, r26, r27, r28, r29, r30, r31, r32, r33, r34, r35, r36, r37, r38, r39, r40];clear r16 r17 r18 r19 r20 r21 r22 r23 r24 r25 r26 r27 r28 r29 r30 r31 r32 r33 r34 r35 r36 r37 r38 r39 r40;have gr2 := hgr.trans hg;clear hg p0 p1 p2 p3 p4 q0 q1 q2 q3 q4 hu hz;go_wp2_with fail;go_roundw
       case rel => exact ⟨k + 1, by omega, by go_num, HZ.out, gr2⟩
       case measure => simp [intOf]; omega
     | false =>
      have HB : Hid (X2 x.rc z.rc = false) := hsb;have hRf : R = false := HY.out (by
       intro h;rw [h] at hsb;rw [(Kn z.rc z.rc).2 rfl] at hsb;cases hsb)
      subst hRf;clear hsb HX HY;go_wp2_with fail;refine Zz [ex (.slice (some ⟨b1, o1, none⟩) s.length ca), ex (.int .i64 k), ex (.pointer (some ⟨b1, o1 + k * 5, none⟩)), ex (.pointer (some ⟨b1, o1 + k * 5 + 4, none⟩)), ex (.int .i64 x.pair), ex (.slice (some ⟨b2, o2, none⟩) t.length cb), ex (.int .i64 k), ex (.pointer (some ⟨b2, o2 + k * 5, none⟩)), ex (.pointer (some ⟨b2, o2 + k * 5 + 4, none⟩)), ex (.int .i64 z.pair), ex (.bool false), ex (.bool false), ex (.slice (some ⟨b1, o1, none⟩) s.length ca), ex (.int .i64 k), ex (.pointer (some ⟨b1, o1 + k * 5, none⟩)), ex (.pointer (some ⟨b1, o1 + k * 5, none⟩)), ex (.agg #[.int .i64 x.rc.kind, .int .i64 x.rc.key, .int .i64 x.rc.ver, .slice a1 x.rc.data.length c1]), ex (.slice (some ⟨b2, o2, none⟩) t.length cb), ex (.int .i64 k), ex (.pointer (some ⟨b2, o2 + k * 5, none⟩)), ex (.pointer (some ⟨b2, o2 + k * 5, none⟩)), ex (.agg #[.int .i64 z.rc.kind, .int .i64 z.rc.key, .int .i64 z.rc.ver, .slice a2 z.rc.data.length c2]), ex (.bool false), ex (.bool true), ex (.bool true)] (by kernel_rfl) (by kernel_rfl) ⟨Zf _, Zf _, Zf _, Zf _, Zf _, Zf _, Zf _, Zf _, Zf _, Zf _, Zf _, Zf _, Zf _, Zf _, Zf _, Zf _, Zf _, Zf _, Zf _, Zf _, Zf _, Zf _, Zf _, Zf _, Zf _, trivial⟩ ?_ ?_
      ·refine ⟨?_, ?_, ?_, ?_, ?_, ?_, ?_, ?_, ?_, ?_, ?_, ?_, ?_, ?_, ?_, ?_, ?_, ?_, ?_, ?_, ?_, ?_, ?_, ?_, ?_, trivial⟩
       ·exact Zb rfl fun a _ _ _ _ A => Zn rfl (Zq A 0 rfl)
       ·exact Zb rfl fun a _ _ _ _ A => Zn rfl (Zq A 5 rfl)
       ·refine Zb rfl fun a _ _ _ B A => ?_;have e16 : a (.tmp 16) = _ := Zc A 0 rfl;have e17 : a (.tmp 17) = _ := Zc A 1 rfl;refine Zi ?_ rfl;clear A B;go_simp;all_goals go_arith
       ·refine Zb rfl fun a _ _ _ B A => ?_;have e18 : a (.tmp 18) = _ := Zc A 2 rfl;refine Zi ?_ rfl;clear A B;go_simp;all_goals go_arith
       ·refine Zb rfl fun a _ _ _ B A => ?_;have e19 : a (.tmp 19) = _ := Zc A 3 rfl;have h1 := (Below.cell B (Zs p4)).trans p4;refine Zi ?_ rfl;clear A B;go_simp;all_goals go_arith
       ·exact Zb rfl fun a _ _ _ _ A => Zn rfl (Zq A 1 rfl)
       ·exact Zb rfl fun a _ _ _ _ A => Zn rfl (Zq A 5 rfl)
       ·refine Zb rfl fun a _ _ _ B A => ?_;have e21 : a (.tmp 21) = _ := Zc A 5 rfl;have e22 : a (.tmp 22) = _ := Zc A 6 rfl;refine Zi ?_ rfl;clear A B;go_simp;all_goals go_arith
       ·refine Zb rfl fun a _ _ _ B A => ?_;have e23 : a (.tmp 23) = _ := Zc A 7 rfl;refine Zi ?_ rfl;clear A B;go_simp;all_goals go_arith
       ·refine Zb rfl fun a _ _ _ B A => ?_;have e24 : a (.tmp 24) = _ := Zc A 8 rfl;have h1 := (Below.cell B (Zs q4)).trans q4;refine Zi ?_ rfl;clear A B;go_simp;all_goals go_arith
       ·refine Zb rfl fun a _ _ _ B A => ?_;have e20 : a (.tmp 20) = _ := Zc A 4 rfl;have e25 : a (.tmp 25) = _ := Zc A 9 rfl;refine Zi ?_ rfl;clear A B;go_simp;all_goals go_arith
       ·exact Zb rfl fun a _ _ _ _ A => Zn rfl (Zc A 10 rfl)
       ·exact Zm 11 false rfl rfl rfl fun a _ _ _ _ A => Zn rfl (Zq A 0 rfl)
       ·exact Zm 11 false rfl rfl rfl fun a _ _ _ _ A => Zn rfl (Zq A 5 rfl)
       ·refine Zm 11 false rfl rfl rfl fun a _ _ _ B A => ?_;have e28 : a (.tmp 28) = _ := Zc A 12 rfl;have e29 : a (.tmp 29) = _ := Zc A 13 rfl;refine Zi ?_ rfl;clear A B;go_simp;all_goals go_arith
       ·refine Zm 11 false rfl rfl rfl fun a _ _ _ B A => ?_;have e30 : a (.tmp 30) = _ := Zc A 14 rfl;refine Zi ?_ rfl;clear A B;go_simp;all_goals go_arith
       ·refine Zm 11 false rfl rfl rfl fun a _ _ _ B A => ?_;have e31 : a (.tmp 31) = _ := Zc A 15 rfl;have h1 := (Below.cell B (Zs p0)).trans p0;have h2 := (Below.cell B (Zs p1)).trans p1;have h3 := (Below.cell B (Zs p2)).trans p2;have h4 := (Below.cell B (Zs p3)).trans p3;refine Zi ?_ rfl;clear A B;go_simp;all_goals go_arith
       ·exact Zm 11 false rfl rfl rfl fun a _ _ _ _ A => Zn rfl (Zq A 1 rfl)
       ·exact Zm 11 false rfl rfl rfl fun a _ _ _ _ A => Zn rfl (Zq A 5 rfl)
       ·refine Zm 11 false rfl rfl rfl fun a _ _ _ B A => ?_;have e33 : a (.tmp 33) = _ := Zc A 17 rfl;have e34 : a (.tmp 34) = _ := Zc A 18 rfl;refine Zi ?_ rfl;clear A B;go_simp;all_goals go_arith
       ·refine Zm 11 false rfl rfl rfl fun a _ _ _ B A => ?_;have e35 : a (.tmp 35) = _ := Zc A 19 rfl;refine Zi ?_ rfl;clear A B;go_simp;all_goals go_arith
       ·refine Zm 11 false rfl rfl rfl fun a _ _ _ B A => ?_;have e36 : a (.tmp 36) = _ := Zc A 20 rfl;have h1 := (Below.cell B (Zs q0)).trans q0;have h2 := (Below.cell B (Zs q1)).trans q1;have h3 := (Below.cell B (Zs q2)).trans q2;have h4 := (Below.cell B (Zs q3)).trans q3;refine Zi ?_ rfl;clear A B;go_simp;all_goals go_arith
       ·refine Zm 11 false rfl rfl rfl fun a B _ _ C A => ?_;have e32 : a (.tmp 32) = _ := Zc A 16 rfl;have e37 : a (.tmp 37) = _ := Zc A 21 rfl;refine Yi (f := 24) (args := #[.agg #[.int .i64 x.rc.kind, .int .i64 x.rc.key, .int .i64 x.rc.ver, .slice a1 x.rc.data.length c1], .agg #[.int .i64 z.rc.kind, .int .i64 z.rc.key, .int .i64 z.rc.ver, .slice a2 z.rc.data.length c2]]) ?_ ((Zap _ _ _ _ _ _ x.rc.data z.rc.data _ _ B (Z0 hu.p C) (Z0 hz.p C)).mono ?_)
        ·clear A C;go_simp;all_goals go_arith
        ·rintro e w2 ⟨rfl, g2⟩;exact ⟨_, rfl, g2, by rw [← HB.out]; rfl⟩
       ·refine Zm 11 false rfl rfl rfl fun a _ _ _ B A => ?_;have e38 : a (.tmp 38) = _ := Zc A 22 rfl;refine Zi ?_ rfl;clear A B;go_simp;all_goals go_arith
       ·refine Zb rfl fun a _ _ _ _ A => ?_;have ec : a (.tmp 27) = _ := Zc A 11 rfl;have e : a (.tmp 39) = _ := Zc A 23 rfl;exact Yu rfl ec e
      ·intro vs w' hg ht;obtain ⟨(r16 : vs 0 = _), (r17 : vs 1 = _), (r18 : vs 2 = _), (r19 : vs 3 = _), (r20 : vs 4 = _), (r21 : vs 5 = _), (r22 : vs 6 = _), (r23 : vs 7 = _), (r24 : vs 8 = _), (r25 : vs 9 = _), (r26 : vs 10 = _), (r27 : vs 11 = _), (r28 : vs 12 = _), (r29 : vs 13 = _), (r30 : vs 14 = _), (r31 : vs 15 = _), (r32 : vs 16 = _), (r33 : vs 17 = _), (r34 : vs 18 = _), (r35 : vs 19 = _), (r36 : vs 20 = _), (r37 : vs 21 = _), (r38 : vs 22 = _), (r39 : vs 23 = _), (r40 : vs 24 = _), -⟩ := ht;simp only [Yc, Act.put, List.setIfInBounds_toArray, List.set_cons_zero, List.set_cons_succ, r16, r17, r18, r19, r20, r21, r22, r23, r24, r25, r26, r27, r28, r29, r30, r31, r32, r33, r34, r35, r36, r37, r38, r39, r40];clear r16 r17 r18 r19 r20 r21 r22 r23 r24 r25 r26 r27 r28 r29 r30 r31 r32 r33 r34 r35 r36 r37 r38 r39 r40;have gr2 := hgr.trans hg;clear hg p0 p1 p2 p3 p4 q0 q1 q2 q3 q4 hu hz;go_wp2_with fail;go_ret;exact ⟨rfl, gr2⟩
    ·have hRf : R = false := HY.out (fun h => hp (by rw [h]));subst hRf;have d2 : (x.pair != z.pair) = true := by simp [hp]
     clear HX HY hp;go_wp2_with fail;refine Zz [ex (.slice (some ⟨b1, o1, none⟩) s.length ca), ex (.int .i64 k), ex (.pointer (some ⟨b1, o1 + k * 5, none⟩)), ex (.pointer (some ⟨b1, o1 + k * 5 + 4, none⟩)), ex (.int .i64 x.pair), ex (.slice (some ⟨b2, o2, none⟩) t.length cb), ex (.int .i64 k), ex (.pointer (some ⟨b2, o2 + k * 5, none⟩)), ex (.pointer (some ⟨b2, o2 + k * 5 + 4, none⟩)), ex (.int .i64 z.pair), ex (.bool true), ex (.bool true), ex (undef), ex (undef), ex (undef), ex (undef), ex (undef), ex (undef), ex (undef), ex (undef), ex (undef), ex (undef), ex (undef), ex (undef), ex (.bool true)] (by kernel_rfl) (by kernel_rfl) ⟨Zf _, Zf _, Zf _, Zf _, Zf _, Zf _, Zf _, Zf _, Zf _, Zf _, Zf _, Zf _, Zf _, Zf _, Zf _, Zf _, Zf _, Zf _, Zf _, Zf _, Zf _, Zf _, Zf _, Zf _, Zf _, trivial⟩ ?_ ?_
     ·refine ⟨?_, ?_, ?_, ?_, ?_, ?_, ?_, ?_, ?_, ?_, ?_, ?_, ?_, ?_, ?_, ?_, ?_, ?_, ?_, ?_, ?_, ?_, ?_, ?_, ?_, trivial⟩
      ·exact Zb rfl fun a _ _ _ _ A => Zn rfl (Zq A 0 rfl)
      ·exact Zb rfl fun a _ _ _ _ A => Zn rfl (Zq A 5 rfl)
      ·refine Zb rfl fun a _ _ _ B A => ?_;have e16 : a (.tmp 16) = _ := Zc A 0 rfl;have e17 : a (.tmp 17) = _ := Zc A 1 rfl;refine Zi ?_ rfl;clear A B;go_simp;all_goals go_arith
      ·refine Zb rfl fun a _ _ _ B A => ?_;have e18 : a (.tmp 18) = _ := Zc A 2 rfl;refine Zi ?_ rfl;clear A B;go_simp;all_goals go_arith
      ·refine Zb rfl fun a _ _ _ B A => ?_;have e19 : a (.tmp 19) = _ := Zc A 3 rfl;have h1 := (Below.cell B (Zs p4)).trans p4;refine Zi ?_ rfl;clear A B;go_simp;all_goals go_arith
      ·exact Zb rfl fun a _ _ _ _ A => Zn rfl (Zq A 1 rfl)
      ·exact Zb rfl fun a _ _ _ _ A => Zn rfl (Zq A 5 rfl)
      ·refine Zb rfl fun a _ _ _ B A => ?_;have e21 : a (.tmp 21) = _ := Zc A 5 rfl;have e22 : a (.tmp 22) = _ := Zc A 6 rfl;refine Zi ?_ rfl;clear A B;go_simp;all_goals go_arith
      ·refine Zb rfl fun a _ _ _ B A => ?_;have e23 : a (.tmp 23) = _ := Zc A 7 rfl;refine Zi ?_ rfl;clear A B;go_simp;all_goals go_arith
      ·refine Zb rfl fun a _ _ _ B A => ?_;have e24 : a (.tmp 24) = _ := Zc A 8 rfl;have h1 := (Below.cell B (Zs q4)).trans q4;refine Zi ?_ rfl;clear A B;go_simp;all_goals go_arith
      ·refine Zb rfl fun a _ _ _ B A => ?_;have e20 : a (.tmp 20) = _ := Zc A 4 rfl;have e25 : a (.tmp 25) = _ := Zc A 9 rfl;refine Zi ?_ rfl;clear A B;go_simp;all_goals go_arith
      ·exact Zb rfl fun a _ _ _ _ A => Zn rfl (Zc A 10 rfl)
      ·refine Zw 11 false rfl rfl rfl (fun _ => rfl)
      ·refine Zw 11 false rfl rfl rfl (fun _ => rfl)
      ·refine Zw 11 false rfl rfl rfl (fun _ => rfl)
      ·refine Zw 11 false rfl rfl rfl (fun _ => rfl)
      ·refine Zw 11 false rfl rfl rfl (fun _ => rfl)
      ·refine Zw 11 false rfl rfl rfl (fun _ => rfl)
      ·refine Zw 11 false rfl rfl rfl (fun _ => rfl)
      ·refine Zw 11 false rfl rfl rfl (fun _ => rfl)
      ·refine Zw 11 false rfl rfl rfl (fun _ => rfl)
      ·refine Zw 11 false rfl rfl rfl (fun _ => rfl)
      ·refine Zw 11 false rfl rfl rfl (fun _ => rfl)
      ·refine Zw 11 false rfl rfl rfl (fun _ => rfl)
      ·refine Zb rfl fun a _ B _ _ A => ?_;have ec : a (.tmp 27) = _ := Zc A 11 rfl;exact Yu rfl ec (B _)
     ·intro vs w' hg ht;obtain ⟨(r16 : vs 0 = _), (r17 : vs 1 = _), (r18 : vs 2 = _), (r19 : vs 3 = _), (r20 : vs 4 = _), (r21 : vs 5 = _), (r22 : vs 6 = _), (r23 : vs 7 = _), (r24 : vs 8 = _), (r25 : vs 9 = _), (r26 : vs 10 = _), (r27 : vs 11 = _), (r28 : vs 12 = _), (r29 : vs 13 = _), (r30 : vs 14 = _), (r31 : vs 15 = _), (r32 : vs 16 = _), (r33 : vs 17 = _), (r34 : vs 18 = _), (r35 : vs 19 = _), (r36 : vs 20 = _), (r37 : vs 21 = _), (r38 : vs 22 = _), (r39 : vs 23 = _), (r40 : vs 24 = _), -⟩ := ht;simp only [Yc, Act.put, List.setIfInBounds_toArray, List.set_cons_zero, List.set_cons_succ, r16, r17, r18, r19, r20, r21, r22, r23, r24, r25, r26, r27, r28, r29, r30, r31, r32, r33, r34, r35, r36, r37, r38, r39, r40];clear r16 r17 r18 r19 r20 r21 r22 r23 r24 r25 r26 r27 r28 r29 r30 r31 r32 r33 r34 r35 r36 r37 r38 r39 r40;have gr2 := hgr.trans hg;clear hg p0 p1 p2 p3 p4 q0 q1 q2 q3 q4 hu hz;go_wp2_with fail;go_ret;exact ⟨rfl, gr2⟩
   ·have hk' : k = s.length := by omega
    have hRt : R = true := by
     rw [HR.out, Zcj];have h := HK.out;rw [hk', List.take_length, HL.out, List.take_length] at h;exact h
    subst hRt;clear hk';go_wp2_with fail;go_ret;exact ⟨rfl, hgr⟩
 ·have HR : Hid (Jk s t = false) := Zk2 fun h => hl (by rw [h])
  rw [HR.out];have d0 : ((s.length : Int) != (t.length : Int)) = true := by simp; omega
  clear hl;go_enter Tryz.func32, Tryz.ntmps32;go_wp2_with fail;go_ret;exact ⟨rfl, Zo.refl _⟩
def Ye (d : Dk) : Nat → List Ent
 | 0 => []
 | n + 1 => if (d.tell (n : Int)).kind = 1 then Ye d n else Xx ⟨d.tell (n : Int), (n : Int)⟩ (Ye d n)
theorem Zl3 (e : Ent) (l : List Ent) : (Qx e l).1.length = l.length + (if (Qx e l).2 = true then 1 else 0) := by
 have key : ∀ (l : List Ent) (st : List Ent × Bool), (l.foldl (Xy e) st).1.length + (if st.2 = true then 1 else 0) = st.1.length + l.length + (if (l.foldl (Xy e) st).2 = true then 1 else 0) := by
  intro l
  induction l with
  | nil => rintro ⟨a, b⟩; cases b <;> simp
  | cons x l ih =>
   intro st;rw [List.foldl_cons, List.length_cons];have h1 := ih (Xy e st x);have h2 : (Xy e st x).1.length + (if st.2 = true then 1 else 0) = st.1.length + 1 + (if (Xy e st x).2 = true then 1 else 0) := by
    unfold Xy;by_cases hc : st.2 = false ∧ Y1 e x = true
    ·rw [if_pos hc, hc.1]; simp
    ·rw [if_neg hc]; simp
   omega
 have := key l ([], false);unfold Qx;simpa using this
theorem Zh5 (e : Ent) (l : List Ent) : (Xx e l).length = l.length + 1 := by
 have h := Zl3 e l;unfold Xx;by_cases hd : (Qx e l).2 = true
 ·rw [if_pos hd] at h ⊢; exact h
 ·rw [if_neg hd] at h ⊢; simp [h]
theorem Zij (d : Dk) : ∀ n, (Ye d n).length ≤ n
 | 0 => by simp [Ye]
 | n + 1 => by
  have ih := Zij d n;unfold Ye;split
  ·omega
  ·rw [Zh5]; omega
theorem Zin (S : Nat → Prop) (d : Dk) (vb vl : Value) (w : World) (hb : Y0 S w vb d.blocks) (hl : Xj S w vl d.late) (hlen : d.blocks.length ≤ 256) (hm : d.late.length ≤ 999990) :
  Calls Tryz.prog 45 #[.agg #[vb, vl]] w fun r w' => ∃ v', r = .returned v' ∧ Ys (Zy S w.heap.size) w' v' (Ye d (d.blocks.length / 2)) ∧ Zo w w' := by
 obtain ⟨ab, cb, rfl⟩ := hb.p.form;obtain ⟨al, cl, rfl⟩ := hl.p.form;have g0 := Zd w (.cells #[.slice ab d.blocks.length cb, .slice al d.late.length cl] 30);have hD0 := Zj w #[.slice ab d.blocks.length cb, .slice al d.late.length cl] 30;have hq : (d.blocks.length : Int).tdiv 2 = ((d.blocks.length / 2 : Nat) : Int) := by rw [Int.tdiv_eq_ediv_of_nonneg (by omega)]; omega
 obtain ⟨N, hN⟩ : ∃ N, N = d.blocks.length / 2 := ⟨_, rfl⟩;rw [← hN] at hq ⊢;have hN2 : N ≤ 128 := by omega
 clear hN;go_enter Tryz.func45, Tryz.ntmps45;go_wp2_with fail;generalize World.alloc w _ = W at *;go_loopw [3, 11] (fun o i wr => ∃ k : Nat, k ≤ N ∧ i = .int .i64 k ∧ Ys (fun b => Zy S (w.heap.size + 1) b ∧ b < wr.heap.size) wr o (Ye d k) ∧ Zo w wr ∧ wr.heap[w.heap.size]? = some (.cells #[.slice ab d.blocks.length cb, .slice al d.late.length cl] 30 (0, 0))) (fun _ i _ => N - (intOf i).toNat)
 case atStart => exact ⟨0, Nat.zero_le _, rfl, Z3.nil _ _ _, g0, hD0⟩
 case round =>
  clear g0 hD0;obtain ⟨k, hk, rfl, hO, hg, hD⟩ := hrel;by_cases hlt : k < N
  ·have hsc := Zij d k;have HN : Hid (Ye d (k + 1) = if (d.tell (k : Int)).kind = 1 then Ye d k else Xx ⟨d.tell (k : Int), (k : Int)⟩ (Ye d k)) := rfl;obtain ⟨a0, c0, rfl⟩ := hO.form;obtain ⟨x0, x1⟩ := Xz hD rfl rfl;go_wp2_with fail;refine (Zgz _ d (k : Int) _ _ _ (hb.grow hg) (hl.grow hg) hlen hm).mono ?_;rintro e w1 ⟨dv, rfl, ho, g1⟩;obtain ⟨a1, c1, rfl⟩ := Z4 ho;generalize d.tell (k : Int) = r at *;generalize d.how (k : Int) = how at *;have g2 := Zd w1 (.cells #[.int .i64 r.kind, .int .i64 r.key, .int .i64 r.ver, .slice a1 r.data.length c1] 51);have hR2 := Zj w1 #[.int .i64 r.kind, .int .i64 r.key, .int .i64 r.ver, .slice a1 r.data.length c1] 51;have hD2 := ((g1.trans g2).block _ (Za hD)).trans hD;have hwr : w.heap.size + 1 ≤ wr.heap.size := Za hD;have hB2 : Z1 (fun b => Zy S (w.heap.size + 1) b ∧ b < w1.heap.size + 1) (w1.alloc (.cells #[.int .i64 r.kind, .int .i64 r.key, .int .i64 r.ver, .slice a1 r.data.length c1] 51)) (.slice a1 r.data.length c1) r.data := by
    have h := ((Zbz S (Yf ho hwr)).grow g2).caps;rw [World.size_alloc] at h;exact h
   have hO2 : Ys (fun b => Zy S (w.heap.size + 1) b ∧ b < w1.heap.size + 1) (w1.alloc (.cells #[.int .i64 r.kind, .int .i64 r.key, .int .i64 r.ver, .slice a1 r.data.length c1] 51)) (.slice a0 (Ye d k).length c0) (Ye d k) := (hO.grow (g1.trans g2)).mono fun b h => ⟨h.1, by have := g1.size; omega⟩
   have gw2 := hg.trans (g1.trans g2);obtain ⟨r0, r1, r2, r3⟩ := Z7 hR2 rfl rfl rfl rfl;have HSZ : Hid (w.heap.size + 1 ≤ w1.heap.size) := Nat.le_trans hwr g1.size;clear x0 x1 hO hg hD g1 g2 ho hR2 hwr;by_cases hk1 : r.kind = 1
   ·have HN2 : Hid (Ye d (k + 1) = Ye d k) := by show _ = _; rw [HN.out, if_pos hk1]
    have d1 : (r.kind != 1) = false := by simp [hk1]
    clear hk1 HN;have hsz := World.size_alloc w1 (.cells #[.int .i64 r.kind, .int .i64 r.key, .int .i64 r.ver, .slice a1 r.data.length c1] 51);have hO3 := hO2.mono (S' := fun b => Zy S (w.heap.size + 1) b ∧ b < (w1.alloc (.cells #[.int .i64 r.kind, .int .i64 r.key, .int .i64 r.ver, .slice a1 r.data.length c1] 51)).heap.size) (fun b h => ⟨h.1, by rw [hsz]; exact h.2⟩);clear hO2 hB2 hsz;go_wp2_with fail;go_roundw
    case rel => exact ⟨k + 1, by omega, by go_num, by rw [HN2.out]; exact hO3, gw2, hD2⟩
    case measure => simp [intOf]; omega
   ·have HN2 : Hid (Ye d (k + 1) = Xx ⟨r, (k : Int)⟩ (Ye d k)) := by show _ = _; rw [HN.out, if_neg hk1]
    have d1 : (r.kind != 1) = true := by simp [hk1]
    clear hk1 HN;go_wp2_with fail;refine (Ze8 _ (Ye d k) ⟨r, (k : Int)⟩ _ a1 c1 _ (fun b h => by rw [World.size_alloc]; exact h.2) hO2 hB2 (by omega)).mono ?_;rintro e w3 ⟨v3, rfl, hO3, g3⟩;rw [← HN2.out] at hO3;have hO4 : Ys (fun b => Zy S (w.heap.size + 1) b ∧ b < w3.heap.size) w3 v3 (Ye d (k + 1)) := (hO3.caps (by decide)).mono fun b h => ⟨h.1.elim (fun x => x.1) (fun x => .inr (by have := HSZ.out; rw [World.size_alloc] at x; omega)), h.2⟩
    have hD3 := (g3.block _ (Za hD2)).trans hD2;have gw3 := gw2.trans g3;clear hO2 hO3 hB2 hD2 gw2 g3 r0 r1 r2 r3;go_wp2_with fail;go_roundw
    case rel => exact ⟨k + 1, by omega, by go_num, hO4, gw3, hD3⟩
    case measure => simp [intOf]; omega
  ·have hk' : k = N := by omega
   subst hk';have hfin := hO.mono (S' := Zy S w.heap.size) (fun b h => Ya (B := w.heap.size) (by omega) b h.1);obtain ⟨a0, c0, rfl⟩ := hO.form;clear hO;go_wp2_with fail;go_ret;exact ⟨_, rfl, hfin, hg⟩
def Zb2 (pre : List Ent) (e : Ent) : Bool := match pre.getLast? with | none => true | some x => Y1 x e
def okE (pre : List Ent) (e : Ent) : Bool := decide (Yd e.rc = 0 ∧ e.rc.kind ≠ 1 ∧ 0 ≤ e.pair ∧ e.pair ≤ 1000) && Zb2 pre e && pre.all (fun x => decide (x.pair ≠ e.pair))
def Zaq (pre : List Ent) : List Ent → Bool
 | [] => true
 | e :: l => okE pre e && Zaq (pre ++ [e]) l
def Qg (l : List Ent) : Bool := Zaq [] l
theorem Zjz (c : UInt8) : lo (c.toNat : Int) = c := by
 refine UInt8.toNat_inj.1 ?_;have := K6 (c.toNat : Int);have hc : c.toNat < 256 := UInt8.toNat_lt _;omega
theorem Zav (n : Int) (h0 : 0 ≤ n) (h1 : n ≤ 255) : ((lo n).toNat : Int) = n := by rw [K6]; omega
theorem Zxz (x y : UInt8) : hi ((x.toNat : Int) * 256 + (y.toNat : Int)) = x := by
 have hx : x.toNat < 256 := UInt8.toNat_lt _;have hy : y.toNat < 256 := UInt8.toNat_lt _;exact ((Zc7 x y _ (by omega) (by omega)).1 rfl).1
theorem Zxy (x y : UInt8) : lo ((x.toNat : Int) * 256 + (y.toNat : Int)) = y := by
 have hx : x.toNat < 256 := UInt8.toNat_lt _;have hy : y.toNat < 256 := UInt8.toNat_lt _;exact ((Zc7 x y _ (by omega) (by omega)).1 rfl).2
theorem Zxm (r : Rec) (a : Int) : at' (blk r a) 0 = lo r.kind := rfl
theorem Zxl (r : Rec) (a : Int) : at' (blk r a) 1 = lo a := rfl
theorem Zxk (r : Rec) (a : Int) : at' (blk r a) 2 = lo r.key := rfl
theorem Zxj (r : Rec) (a : Int) : at' (blk r a) 3 = hi r.ver := rfl
theorem Zxi (r : Rec) (a : Int) : at' (blk r a) 4 = lo r.ver := rfl
theorem Zke (r : Rec) (a : Int) : at' (blk r a) 5 = lo (r.data.length : Int) := rfl
theorem Zms (r : Rec) (a : Int) : (blk r a).drop 6 = r.data ++ (List.replicate (8 - r.data.length) 0 ++ [hi (Xd (Za1 r a)), lo (Xd (Za1 r a))]) := by
 show (r.data ++ List.replicate (8 - r.data.length) 0) ++ _ = _;rw [List.append_assoc]
theorem Zpl (r : Rec) (a : Int) (h : Yd r = 0) : Yv (blk r a) = r := by
 obtain ⟨k0, k1, y0, y1, n0, n1, hl⟩ := Va h;unfold Yv;rw [Zxm, Zxk, Zxj, Zxi, Zke, Zms];have e1 := Zav r.kind (by omega) (by omega);have e2 := Zav r.key (by omega) (by omega);have e3 := Zav (r.data.length : Int) (by omega) (by omega);have e4 : ((hi r.ver).toNat : Int) * 256 + ((lo r.ver).toNat : Int) = r.ver := by rw [Zhb, K6]; omega
 have e5 : (lo (r.data.length : Int)).toNat = r.data.length := by omega
 rw [e1, e2, e4, e5, List.take_left' rfl]
theorem Ztp (r : Rec) (a : Int) (h : Yd r = 0) : Y7 (Q7 (blk r a)) = true := by
 obtain ⟨k0, k1, y0, y1, n0, n1, hl⟩ := Va h;have e3 := Zav (r.data.length : Int) (by omega) (by omega);have e5 : (lo (r.data.length : Int)).toNat = r.data.length := by omega
 unfold Q7;rw [Zke, e5, ← List.drop_drop, Zms, List.drop_left' rfl, List.take_left' (by simp)];unfold Y7;rw [List.all_eq_true];intro c hc;simp [List.eq_of_mem_replicate hc]
theorem Znd (r : Rec) (a : Int) (h : Yd r = 0) (h0 : 0 ≤ a) (h1 : a ≤ 255) : spoilt (blk r a) a = 0 := by
 obtain ⟨k0, k1, y0, y1, n0, n1, hl⟩ := Va h;have e1 := Zav a h0 h1;have e3 := Zav (r.data.length : Int) (by omega) (by omega);unfold spoilt;rw [if_neg (by rw [Qh r a hl]; simp), if_neg (by unfold blk; rw [Zf9]; simp), if_neg (by rw [Zxl, e1]; simp), if_neg (by rw [Zke]; omega), if_neg (by rw [Ztp r a h]; simp)]
theorem Zld (r : Rec) (a : Int) (h : Yd r = 0) (h0 : 0 ≤ a) (h1 : a ≤ 255) : X0 (blk r a) a = 0 ∧ Y4 (blk r a) a = r := by
 have e : X0 (blk r a) a = 0 := by unfold X0; rw [if_pos (Znd r a h h0 h1), Zpl r a h]; exact h
 refine ⟨e, ?_⟩;unfold Y4;rw [if_pos e, Zpl r a h]
theorem Znw {b : List UInt8} {a : Int} (h : X0 b a = 0) : spoilt b a = 0 ∧ Yd (Yv b) = 0 ∧ Y4 b a = Yv b := by
 have hr : Y4 b a = Yv b := by unfold Y4; rw [if_pos h]
 unfold X0 at h;by_cases hs : spoilt b a = 0
 ·rw [if_pos hs] at h; exact ⟨hs, h, hr⟩
 ·rw [if_neg hs] at h; exact absurd h hs
theorem Zx1 (b : List UInt8) (a : Int) (hs : spoilt b a = 0) : b.take 14 = Za1 (Yv b) a := by
 obtain ⟨hl, hsl, hp, h8, hn⟩ := J3 hs;have hlen : ((b.drop 6).take (at' b 5).toNat).length = (at' b 5).toNat := by simp; omega
 have hz : Q7 b = List.replicate (8 - (at' b 5).toNat) 0 := by
  refine List.eq_replicate_iff.2 ⟨by unfold Q7; simp; omega, fun c hc => ?_⟩;unfold Y7 at hn;have := (List.all_eq_true.1 hn) c hc;simpa using this
 unfold Za1 Yv;simp only [];rw [hlen, Zjz, Zjz, Zxz, Zxy, Zjz, ← hp, Zjz, ← hz];have e : b.take 14 = [at' b 0, at' b 1, at' b 2, at' b 3, at' b 4, at' b 5] ++ (b.drop 6).take 8 := by
  match b, hl with
  | [x0, x1, x2, x3, x4, x5, x6, x7, x8, x9, x10, x11, x12, x13, x14, x15], _ => rfl
 rw [e]
 congr 1
 unfold Q7;rw [← List.drop_drop, ← List.take_add]
 congr 1
 omega
theorem Zmr (b : List UInt8) (a : Int) (h : X0 b a = 0) : Yd (Y4 b a) = 0 ∧ blk (Y4 b a) a = b := by
 obtain ⟨hs, hw, hr⟩ := Znw h;obtain ⟨hl, hsl, -, -, -⟩ := J3 hs;rw [hr];refine ⟨hw, ?_⟩;unfold blk;rw [← Zx1 b a hs];have := Zga b (by omega);rw [hsl, hl] at this;exact beq_iff_eq.1 this
theorem Zlc (r : Rec) (a : Int) (n : Nat) (c : UInt8) (h : Yd r = 0) (hn : n < (blk r a).length) (hne : (blk r a)[n] ≠ c) : X0 ((blk r a).set n c) a = 7 := by
 obtain ⟨k0, k1, y0, y1, n0, n1, hl⟩ := Va h;have e : spoilt ((blk r a).set n c) a = 7 := by
  have hse : Xe ((blk r a).set n c) = false := Zk0 (Za1 r a) n c hn hne;unfold spoilt;rw [if_neg (by rw [List.length_set, Qh r a hl]; simp), if_pos hse]
 unfold X0;rw [e]; rfl
end Go.Proofs.YtpdnapbchcdhlabGreat
namespace Go.Proofs.YtpdnapbchcdhlabGreat
set_option maxRecDepth 100000
open Plain
variable {a : Int} {d : Dk} {r : Rec}
theorem Vj : Yd Rec.free = 0 := by decide
theorem Zf6 (d : Dk) (a : Int) : Yd (Yb d a) = 0 := by
 unfold Yb;split
 ·next h => exact (Zmr _ _ h).1
 ·exact Vj
theorem Q5 (d : Dk) (p : Int) : Yd (d.tell p) = 0 := by
 unfold Dk.tell;split
 ·exact Vj
 ·split
  ·exact Vj
  ·unfold Zb7; split
   ·exact Zf6 _ _
   ·exact Zf6 _ _
theorem Zte (h : d.get a = some (blk r a)) (hr : Yd r = 0) (h0 : 0 ≤ a) (h1 : a ≤ 255) : Yb d a = r ∧ Y9 d a = 0 := by
 have hb : Y6 d a = blk r a := by unfold Y6; rw [h]; rfl
 obtain ⟨he, hR⟩ := Zld r a hr h0 h1;unfold Y9 Yb Qj;rw [hb, if_pos he, if_pos he]; exact ⟨hR, rfl⟩
theorem Zf7 (h : Qj d a ≠ 0) : Yb d a = Rec.free ∧ Y9 d a = 1 := by
 unfold Y9 Yb;rw [if_neg h, if_neg h]; exact ⟨rfl, rfl⟩
theorem Km (h : (Yb d a).kind = 1) : Y5 d a = 0 := by unfold Y5; rw [if_pos h]
theorem Jg (h : (Yb d a).kind ≠ 1) : Y5 d a = 1 := by unfold Y5; rw [if_neg h]
theorem K2 {p : Int} (hn : d.noPair p = false) (h0 : Yb d (2 * p) = r) (h1 : Yb d (2 * p + 1) = r) (hr : r.kind ≠ 1) : d.how p = 1 ∧ d.tell p = r := by
 have s0 : Y5 d (2 * p) = 1 := Jg (by rw [h0]; exact hr);have s1 : Y5 d (2 * p + 1) = 1 := Jg (by rw [h1]; exact hr);have hs : X2 r r = true := by rw [Kn]
 unfold Dk.how Dk.tell Zb7;rw [hn, s0, s1, h0, h1, if_neg hr];simp [hs]
theorem Vy {p : Int} (hn : d.noPair p = false) (hr : r.kind ≠ 1) (h : Yb d (2 * p) = r ∧ (Yb d (2 * p + 1)).kind = 1 ∨ Yb d (2 * p + 1) = r ∧ (Yb d (2 * p)).kind = 1) : d.how p = 2 ∧ d.tell p = r := by
 rcases h with ⟨h0, h1⟩ | ⟨h0, h1⟩
 ·have s0 : Y5 d (2 * p) = 1 := Jg (by rw [h0]; exact hr);have s1 := Km h1;unfold Dk.how Dk.tell Zb7;rw [hn, s0, s1, h0, if_neg hr];simp
 ·have s1 : Y5 d (2 * p + 1) = 1 := Jg (by rw [h0]; exact hr);have s0 := Km h1;unfold Dk.how Dk.tell Zb7;rw [hn, s0, s1, h0, if_pos h1];simp
theorem Zq7 {p : Int} (h0 : 0 ≤ p) (h1 : 2 * p + 1 < (d.blocks.length : Int)) : d.noPair p = false := by
 unfold Dk.noPair; exact decide_eq_false (by omega)
theorem Zln {p : Int} (h0 : 0 ≤ p) (h1 : 2 * p + 1 < (d.blocks.length : Int)) : d.pairE p r = Yd r := by
 unfold Dk.pairE; rw [if_neg (by omega)]
theorem Zkf (r : Rec) (a : Int) (h : Yd r = 0) : (blk r a).length = 16 := Qh r a (Va h).2.2.2.2.2.2
theorem Zkz {n y : Int} (h : d.get a = some (Qc (blk r a) n y)) (hr : Yd r = 0) (hn0 : 0 ≤ n) (hn1 : n < ((blk r a).length : Int)) (hy : y % 256 ≠ 0) : Yb d a = Rec.free ∧ Y9 d a = 1 := by
 refine Zf7 ?_;unfold Qj;have hb : Y6 d a = Qc (blk r a) n y := by unfold Y6; rw [h]; rfl
 rw [hb];unfold Qc;rw [if_pos ⟨hn0, hn1⟩, Vd _ _ _ (by omega)];rw [Zlc r a n.toNat _ hr (by omega) ?_]
 ·decide
 ·intro hE;have h1 : lo y = 0 := by
   have h2 : (blk r a)[n.toNat] ^^^ ((blk r a)[n.toNat] ^^^ lo y) = (blk r a)[n.toNat] ^^^ (blk r a)[n.toNat] := by rw [← hE]
   rw [← UInt8.xor_assoc, UInt8.xor_self, UInt8.zero_xor] at h2;exact h2
  have h3 := K6 y;rw [h1] at h3;exact hy h3.symm
theorem Zw2 (a : Int) (h0 : 0 ≤ a) (h1 : a < 12) : (Dk.new.blocks).getD a.toNat [] = blk Rec.free a := by
 unfold Dk.new;rw [Vd _ _ _ (by simp; omega), List.getElem_map, List.getElem_range, show ((a.toNat : Nat) : Int) = a from by omega]; rfl
variable {a b e : Ent} {l : List Ent}
def Zb4 (e : Ent) : List Ent → List Ent
 | [] => [e]
 | x :: l => if Y1 e x = true then e :: x :: l else x :: Zb4 e l
theorem Zg8 (e : Ent) : ∀ (l pre : List Ent), l.foldl (Xy e) (pre, true) = (pre ++ l, true)
 | [], pre => by simp
 | x :: l, pre => by
  rw [List.foldl_cons, show Xy e (pre, true) x = (pre ++ [x], true) from by simp [Xy], Zg8 e l];simp
theorem Zi3 (e : Ent) : ∀ (l pre : List Ent), (if (l.foldl (Xy e) (pre, false)).2 = true then (l.foldl (Xy e) (pre, false)).1 else (l.foldl (Xy e) (pre, false)).1 ++ [e]) = pre ++ Zb4 e l
 | [], pre => by simp [Zb4]
 | x :: l, pre => by
  rw [List.foldl_cons];by_cases h : Y1 e x = true
  ·rw [show Xy e (pre, false) x = (pre ++ [e] ++ [x], true) from by simp [Xy, h], Zg8];simp [Zb4, h]
  ·rw [show Xy e (pre, false) x = (pre ++ [x], false) from by simp [Xy, h], Zi3 e l];simp [Zb4, h]
theorem Kz (e : Ent) (l : List Ent) : Xx e l = Zb4 e l := by
 have := Zi3 e l [];unfold Xx Qx;simpa using this
theorem Zdz (e x : Ent) : ∀ l : List Ent, x ∈ Zb4 e l ↔ x = e ∨ x ∈ l
 | [] => by simp [Zb4]
 | y :: l => by
  have ih := Zdz e x l;unfold Zb4;split
  ·simp
  ·simp [ih];constructor
   ·rintro (h | h | h)
    ·exact .inr (.inl h)
    ·exact .inl h
    ·exact .inr (.inr h)
   ·rintro (h | h | h)
    ·exact .inr (.inl h)
    ·exact .inl h
    ·exact .inr (.inr h)
theorem J7 (e x : Ent) (l : List Ent) : x ∈ Xx e l ↔ x = e ∨ x ∈ l := by rw [Kz]; exact Zdz e x l
theorem Jq {c : Ent} (h1 : Y1 a b = true) (h2 : Y1 b c = true) : Y1 a c = true := by
 unfold Y1 at h1 h2 ⊢;split at h1 <;> split at h2 <;> split <;> try split at h1 <;> try split at h2 <;> try split
 all_goals simp only [decide_eq_true_eq] at *
 all_goals first | omega | (split at h2 <;> simp only [decide_eq_true_eq] at * <;> first | omega | (split <;> simp only [decide_eq_true_eq] at * <;> omega)) | (split <;> simp only [decide_eq_true_eq] at * <;> omega)
theorem Zde (h : ¬ Y1 a b = true) (hp : a.pair ≠ b.pair) : Y1 b a = true := by
 unfold Y1 at h ⊢;by_cases hk : a.rc.key = b.rc.key
 ·rw [if_pos hk] at h;rw [if_pos hk.symm];by_cases hv : a.rc.ver = b.rc.ver
  ·rw [if_pos hv] at h;rw [if_pos hv.symm];simp only [decide_eq_true_eq] at *; omega
  ·rw [if_neg hv] at h;rw [if_neg (fun e => hv e.symm)];simp only [decide_eq_true_eq] at *; omega
 ·rw [if_neg hk] at h;rw [if_neg (fun e => hk e.symm)];simp only [decide_eq_true_eq] at *; omega
def Good (e : Ent) : Prop := Yd e.rc = 0 ∧ e.rc.kind ≠ 1 ∧ 0 ≤ e.pair ∧ e.pair ≤ 1000
def Ups (a b : Ent) : Prop := Y1 a b = true ∧ a.pair ≠ b.pair
theorem Zw0 (pre : List Ent) (e : Ent) : okE pre e = true ↔ Good e ∧ Zb2 pre e = true ∧ ∀ x ∈ pre, x.pair ≠ e.pair := by
 unfold okE Good;simp only [Bool.and_eq_true, decide_eq_true_eq, List.all_eq_true];exact ⟨fun ⟨⟨h1, h2⟩, h3⟩ => ⟨h1, h2, h3⟩, fun ⟨h1, h2, h3⟩ => ⟨⟨h1, h2⟩, h3⟩⟩
theorem Zus : ∀ pre : List Ent, pre.Pairwise Ups → Zb2 pre e = true → ∀ x ∈ pre, Y1 x e = true := by
 intro pre hp hl x hx;have h : pre ≠ [] := by rintro rfl; cases hx
 obtain ⟨pre', y, rfl⟩ : ∃ pre' y, pre = pre' ++ [y] := ⟨pre.dropLast, pre.getLast h, (List.dropLast_concat_getLast h).symm⟩;have hy : Y1 y e = true := by
  unfold Zb2 at hl;rw [List.getLast?_append] at hl;simpa using hl
 rcases List.mem_append.1 hx with h1 | h1
 ·have := (List.pairwise_append.1 hp).2.2 x h1 y (by simp);exact Jq this.1 hy
 ·rw [List.mem_singleton.1 h1]; exact hy
theorem Zah : ∀ (l pre : List Ent), pre.Pairwise Ups → (Zaq pre l = true ↔ (pre ++ l).Pairwise Ups ∧ ∀ x ∈ l, Good x)
 | [], pre, hp => by simp [Zaq, hp]
 | e :: l, pre, hp => by
  unfold Zaq;rw [Bool.and_eq_true, Zw0];constructor
  ·rintro ⟨⟨h1, h2, h3⟩, h4⟩;have hp2 : (pre ++ [e]).Pairwise Ups := List.pairwise_append.2 ⟨hp, by simp, fun x hx y hy => by
    rw [List.mem_singleton.1 hy]; exact ⟨Zus pre hp h2 x hx, h3 x hx⟩⟩
   obtain ⟨h5, h6⟩ := (Zah l (pre ++ [e]) hp2).1 h4;refine ⟨by simpa using h5, fun x hx => ?_⟩;rcases List.mem_cons.1 hx with rfl | hx
   ·exact h1
   ·exact h6 x hx
  ·rintro ⟨h1, h2⟩;have hp2 : (pre ++ [e]).Pairwise Ups := by
    have : (pre ++ [e] ++ l).Pairwise Ups := by simpa using h1
    exact (List.pairwise_append.1 this).1
   have hq := (List.pairwise_append.1 hp2).2.2;refine ⟨⟨h2 e (by simp), ?_, fun x hx => (hq x hx e (by simp)).2⟩, (Zah l (pre ++ [e]) hp2).2 ⟨by simpa using h1, fun x hx => h2 x (by simp [hx])⟩⟩;unfold Zb2;cases hg : pre.getLast? with
   | none => rfl
   | some y => exact (hq y (List.mem_of_getLast? hg) e (by simp)).1
theorem Xb (l : List Ent) : Qg l = true ↔ l.Pairwise Ups ∧ ∀ x ∈ l, Good x := by
 have := Zah l [] (by simp);simpa [Qg] using this
theorem Zl4 (e : Ent) : ∀ l : List Ent, l.Pairwise Ups → (∀ x ∈ l, x.pair ≠ e.pair) → (Zb4 e l).Pairwise Ups
 | [], _, _ => by simp [Zb4]
 | x :: l, hp, hne => by
  obtain ⟨h1, h2⟩ := List.pairwise_cons.1 hp;unfold Zb4;by_cases h : Y1 e x = true
  ·rw [if_pos h];refine List.pairwise_cons.2 ⟨fun y hy => ?_, hp⟩;rcases List.mem_cons.1 hy with rfl | hy
   ·exact ⟨h, fun e' => hne y (by simp) e'.symm⟩
   ·exact ⟨Jq h (h1 y hy).1, fun e' => hne y (by simp [hy]) e'.symm⟩
  ·rw [if_neg h];refine List.pairwise_cons.2 ⟨fun y hy => ?_, Zl4 e l h2 fun y hy => hne y (by simp [hy])⟩;rcases (Zdz e y l).1 hy with rfl | hy
   ·exact ⟨Zde h fun e' => hne x (by simp) e'.symm, hne x (by simp)⟩
   ·exact h1 y hy
theorem Zai (h : Qg l = true) (he : Good e) (hne : ∀ x ∈ l, x.pair ≠ e.pair) : Qg (Xx e l) = true := by
 obtain ⟨h1, h2⟩ := (Xb l).1 h;rw [Xb, Kz];refine ⟨Zl4 e l h1 hne, fun x hx => ?_⟩;rcases (Zdz e x l).1 hx with rfl | hx
 ·exact he
 ·exact h2 x hx
def Zbl (l : List Ent) (key ver : Int) : Option Ent := l.find? fun x => decide (x.rc.key = key ∧ x.rc.ver = ver)
def Qt (l : List Ent) (p : Int) : List Ent := l.filter fun x => decide (x.pair ≠ p)
def Jx (l : List Ent) (f : Nat) : Prop := (∀ n : Nat, n < f → ∃ x ∈ l, x.pair = (n : Int)) ∧ ∀ x ∈ l, x.pair ≠ (f : Int)
def Zo4 (l : List Ent) (pairs r : Int) : Prop := ∃ f : Nat, Jx l f ∧ ((f : Int) < pairs ∧ r = (f : Int) ∨ pairs ≤ (f : Int) ∧ r = -1)
theorem Zrm {f g : Nat} (h1 : Jx l f) (h2 : Jx l g) : f = g := by
 rcases Nat.lt_trichotomy f g with h | h | h
 ·obtain ⟨x, hx, hp⟩ := h2.1 f h;exact absurd hp (h1.2 x hx)
 ·exact h
 ·obtain ⟨x, hx, hp⟩ := h1.1 g h;exact absurd hp (h2.2 x hx)
theorem Zrw {key ver : Int} (h : ∀ x ∈ l, ¬ (x.rc.key = key ∧ x.rc.ver = ver)) : Zbl l key ver = none := by
 unfold Zbl;rw [List.find?_eq_none];exact fun x hx => by simpa using h x hx
theorem Q9 (d : Dk) (x : Ent) : ∀ n, x ∈ Ye d n ↔ ∃ p : Nat, p < n ∧ (d.tell (p : Int)).kind ≠ 1 ∧ x = ⟨d.tell (p : Int), (p : Int)⟩
 | 0 => by simp [Ye]
 | n + 1 => by
  have ih := Q9 d x n;unfold Ye;by_cases h : (d.tell (n : Int)).kind = 1
  ·rw [if_pos h, ih];constructor
   ·rintro ⟨p, h1, h2⟩; exact ⟨p, by omega, h2⟩
   ·rintro ⟨p, h1, h2, h3⟩;refine ⟨p, ?_, h2, h3⟩;rcases Nat.lt_succ_iff_lt_or_eq.1 h1 with h4 | rfl
    ·exact h4
    ·exact absurd h h2
  ·rw [if_neg h, J7, ih];constructor
   ·rintro (rfl | ⟨p, h1, h2⟩)
    ·exact ⟨n, by omega, h, rfl⟩
    ·exact ⟨p, by omega, h2⟩
   ·rintro ⟨p, h1, h2, h3⟩;rcases Nat.lt_succ_iff_lt_or_eq.1 h1 with h4 | rfl
    ·exact .inr ⟨p, h4, h2, h3⟩
    ·exact .inl h3
theorem V1 (d : Dk) : ∀ n, n ≤ 1000 → Qg (Ye d n) = true
 | 0, _ => rfl
 | n + 1, hn => by
  have ih := V1 d n (by omega);unfold Ye;split
  ·exact ih
  ·rename_i h;refine Zai ih ⟨Q5 d _, h, by show (0 : Int) ≤ (n : Int); omega, by show (n : Int) ≤ 1000; omega⟩ fun x hx => ?_;obtain ⟨p, h1, _, rfl⟩ := (Q9 d x n).1 hx;show (p : Int) ≠ (n : Int);omega
end Go.Proofs.YtpdnapbchcdhlabGreat
