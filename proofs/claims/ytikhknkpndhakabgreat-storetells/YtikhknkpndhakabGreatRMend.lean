import Derived.Test.YtikhknkpndhakabGreatRLook
import Derived.Test.YtikhknkpndhakabGreatPKeep
import Derived.Test.YtikhknkpndhakabGreatJRd
set_option maxHeartbeats 8000000
namespace Go.Proofs.YtikhknkpndhakabGreat
set_option maxRecDepth 100000
open Go.RowKit
open Plain Reg
theorem Zr1 (d : Dk) (p : Int) (ab al : Option Addr) (cb cl : Nat) (w : World) (hout : p < 0 ∨ ((d.blocks.length / 2 : Nat) : Int) ≤ p) (hlen : d.blocks.length ≤ 256) :
  Calls Tryz.prog 84 #[.agg #[.slice ab d.blocks.length cb, .slice al d.late.length cl], .int .i64 p] w fun e w' => e = .returned (.tuple #[.int .i64 4, .agg #[.int .i64 1, .int .i64 0, .int .i64 0, .slice none 0 0]]) ∧ Zp w w' := by
 have hq : (d.blocks.length : Int).tdiv 2 = ((d.blocks.length / 2 : Nat) : Int) := by rw [Int.tdiv_eq_ediv_of_nonneg (by omega)]; omega
 by_cases h0 : p < 0
 all_goals
  first | (have h1 : ((d.blocks.length / 2 : Nat) : Int) ≤ p := by omega) | skip
  clear hout;go_enter Tryz.func84, Tryz.ntmps84;go_wp2_with fail;refine (K8 _).mono ?_;rintro e w1 ⟨rfl, g1⟩;have gw : Zp w w1 := ((Zv _ _ _).trans (Zd _ _)).trans g1;have hbZ : w1.heap[w.heap.size + 1]? = some (.cells #[.int .i64 0, .int .i64 0, .int .i64 0, .slice none 0 0] 51 (0, 0)) := by
   have h := Zn (w.alloc (.cells #[.slice ab d.blocks.length cb, .slice al d.late.length cl] 30)) #[.int .i64 0, .int .i64 0, .int .i64 0, .slice none 0 0] 51;rw [World.size_alloc] at h;exact (((Zd _ _).trans g1).block _ (by simp)).trans h
  clear g1;obtain ⟨y0, y1, y2, y3⟩ := Yb hbZ rfl rfl rfl rfl;obtain ⟨f0, f1, f2, f3⟩ := Yu hbZ;have cs := Zy;have hp := (Yn hbZ (.int .i64 1) (.int .i64 0) (.int .i64 0) (.slice none 0 0)).2;go_wp2_with fail;refine bodyPost_ret (v := .tuple #[.int .i64 4, .agg #[.int .i64 1, .int .i64 0, .int .i64 0, .slice none 0 0]]) (by simp [results, Tryz.results84, go_sem, y0, y1, y2, y3, cs]) rfl ⟨rfl, ?_⟩;exact hp.grow gw (by omega)
theorem Zfe (S : Nat → Prop) (d : Dk) (p : Int) (vb vl : Value) (w : World) (hb : Yy S w vb d.blocks) (hl : Xg S w vl d.late) (hlen : d.blocks.length ≤ 256) (hm : d.late.length ≤ 999990) :
  Calls Tryz.prog 84 #[.agg #[vb, vl], .int .i64 p] w fun e w' => ∃ dv, e = .returned (.tuple #[.int .i64 (d.how p), .agg #[.int .i64 (d.tell p).kind, .int .i64 (d.tell p).key, .int .i64 (d.tell p).ver, dv]]) ∧ w'.ownsRow w.heap.size 5 1 dv (d.tell p).data.length ((d.tell p).data.map bv) ∧ Zp w w' := by
 obtain ⟨ab, cb, rfl⟩ := hb.p.form;obtain ⟨al, cl, rfl⟩ := hl.p.form;by_cases hout : p < 0 ∨ ((d.blocks.length / 2 : Nat) : Int) ≤ p
 ·have hn : d.noPair p = true := by unfold Dk.noPair; exact decide_eq_true hout
  have hh : d.how p = 4 := by unfold Dk.how; rw [if_pos hn]
  have ht : d.tell p = Rec.free := by unfold Dk.tell; rw [if_pos hn]
  rw [hh, ht];exact (Zr1 d p ab al cb cl w hout hlen).mono fun e w' ⟨h1, h2⟩ => ⟨_, h1, ⟨rfl, .inl ⟨rfl, rfl⟩⟩, h2⟩
 ·exact Zt9 S d p ab al cb cl w hb hl (by omega) (by omega) hlen hm
def Dk.mendD (d : Dk) (p : Int) : Dk := if 2 ≤ d.how p then d.pairD p (d.tell p) else d
theorem Zrx (S : Nat → Prop) (d : Dk) (p : Int) (vb vl : Value) (w : World) (hS : ∀ b, S b → b < w.heap.size) (hb : Yy S w vb d.blocks) (hl : Xg S w vl d.late) (hlen : d.blocks.length ≤ 256) (hm : d.late.length ≤ 999990) :
  Calls Tryz.prog 97 #[.agg #[vb, vl], .int .i64 p] w fun e w' => ∃ vl', e = .returned (.tuple #[.agg #[vb, vl'], .int .i64 (d.how p)]) ∧ Xg (Zx S w.heap.size) w' vl' (d.mendD p).late ∧ Zp w w' := by
 obtain ⟨ab, cb, rfl⟩ := hb.p.form;obtain ⟨al, cl, rfl⟩ := hl.p.form;have HD : Hid (d.mendD p = if 2 ≤ d.how p then d.pairD p (d.tell p) else d) := rfl;go_enter Tryz.func97, Tryz.ntmps97;go_wp2_with fail;refine (Zfe S d p _ _ _ (by exact hb.grow (Zv _ _ _)) (by exact hl.grow (Zv _ _ _)) hlen hm).mono ?_;rintro e w1 ⟨dv, rfl, ho, g1⟩;have gw : Zp w w1 := (Zv _ _ _).trans g1;have hbD : w1.heap[w.heap.size]? = some (.cells #[.slice ab d.blocks.length cb, .slice al d.late.length cl] 30 (0, 0)) :=
  (((Zd _ _).trans g1).block _ (by simp)).trans (Zn _ _ _)
 have hbZ : w1.heap[w.heap.size + 1]? = some (.cells #[.slice none 0 0, .slice none 0 0] 30 (0, 0)) := by
  have h := Zn (w.alloc (.cells #[.slice ab d.blocks.length cb, .slice al d.late.length cl] 30)) #[.slice none 0 0, .slice none 0 0] 30;rw [World.size_alloc] at h;exact (g1.block _ (by simp)).trans h
 obtain ⟨a1, c1, rfl⟩ := Z8 ho;have hv := Qy ho;clear g1 ho;generalize d.tell p = r at *;have HW : Hid (d.how p = d.how p) := rfl;generalize hhow : d.how p = how at *;replace HW : Hid (d.how p = how) := hhow;clear hhow;obtain ⟨k, y, n, l⟩ := r;have g2 := Zd w1 (.cells #[.int .i64 k, .int .i64 y, .int .i64 n, .slice a1 l.length c1] 51);have hR2 := Zn w1 #[.int .i64 k, .int .i64 y, .int .i64 n, .slice a1 l.length c1] 51;have hD2 := (g2.block _ (Zb hbD)).trans hbD;have hZ2 := (g2.block _ (Zb hbZ)).trans hbZ;obtain ⟨x0, x1⟩ := X1 hD2 rfl rfl;obtain ⟨r0, r1, r2, r3⟩ := Yb hR2 rfl rfl rfl rfl;have cs := Zy;have gw2 := gw.trans g2;have hv2 := Z2 hv g2;have hb2 := hb.grow gw2;have hl2 := hl.grow gw2;have hnZ : ¬ S (w.heap.size + 1) := fun h => by have := hS _ h; omega
 have hnD : ¬ S w.heap.size := fun h => by have := hS _ h; omega
 have hsz : w.heap.size + 1 < w1.heap.size := Zb hbZ;clear hbD hbZ g2 hb hl gw hv hR2;by_cases h2 : 2 ≤ how
 ·have hD : d.mendD p = d.pairD p ⟨k, y, n, l⟩ := by rw [HD.out, if_pos h2]
  go_wp2_with fail;refine (Zdq S d p k y n l _ _ _ _ (fun b h => by have := hS b h; simp; omega) hb2.p hl2 hv2 hlen hm).mono ?_;rintro e w3 ⟨vl', rfl, hl3, g3⟩;obtain ⟨al3, cl3, rfl⟩ := hl3.p.form;have hD3 := (g3.block _ (Zb hD2)).trans hD2;have hZ3 := (g3.block _ (Zb hZ2)).trans hZ2;have gw3 := gw2.trans g3;rw [World.size_alloc] at hl3;clear g3 x0 x1 r0 r1 r2 r3 hD2 hZ2 gw2 hb2 hl2 hv2;obtain ⟨x0, x1⟩ := X1 hD3 rfl rfl;have f0 := Zr hD3 0;have f1 := Zr hD3 1;obtain ⟨y0, y1⟩ := X1 hZ3 rfl rfl;have e0 := Zr hZ3 0;have e1 := Zr hZ3 1;obtain ⟨hp1, hp2⟩ := X8 hD3 (.slice ab d.blocks.length cb) (.slice al3 (d.pairD p ⟨k, y, n, l⟩).late.length cl3);have hZ4 := (hp2.block _ (Zb hZ3) (by omega)).trans hZ3;obtain ⟨hq1, hq2⟩ := X8 hZ4 (.slice ab d.blocks.length cb) (.slice al3 (d.pairD p ⟨k, y, n, l⟩).late.length cl3);have gE := hq2.grow (hp2.grow gw3 (by omega)) (by omega);have hnD' : ¬ Zx S (w1.heap.size + 1) w.heap.size := fun h => h.elim hnD (fun h => by omega)
  have hnZ' : ¬ Zx S (w1.heap.size + 1) (w.heap.size + 1) := fun h => h.elim hnZ (fun h => by omega)
  have hlE := (hl3.but hp2 hnD').but hq2 hnZ';replace hlE := hlE.mono (Ya (B := w.heap.size) (by omega));clear hp1 hp2 hq1 hq2 hZ4 hZ3 hD3 hl3 gw3 HD h2;go_wp2_with fail;exact bodyPost_ret (v := .tuple #[.agg #[.slice ab d.blocks.length cb, .slice al3 (d.pairD p ⟨k, y, n, l⟩).late.length cl3], .int .i64 how]) (by simp [results, Tryz.results97, go_sem, cs, y0, y1]) rfl ⟨_, by rw [HW.out], by rw [hD]; exact hlE, gE⟩
 ·have hD : d.mendD p = d := by rw [HD.out, if_neg h2]
  obtain ⟨y0, y1⟩ := X1 hZ2 rfl rfl;have e0 := Zr hZ2 0;have e1 := Zr hZ2 1;obtain ⟨hq1, hq2⟩ := X8 hZ2 (.slice ab d.blocks.length cb) (.slice al d.late.length cl);have gE := hq2.grow gw2 (by omega);have hlE := (hl2.but hq2 hnZ).mono (Vv (B := w.heap.size));have h2' : how < 2 := by omega
  clear hq1 hq2 hZ2 hD2 hl2 gw2 hv2 hb2 h2 hsz;go_wp2_with fail;exact bodyPost_ret (v := .tuple #[.agg #[.slice ab d.blocks.length cb, .slice al d.late.length cl], .int .i64 how]) (by simp [results, Tryz.results97, go_sem, cs, y0, y1]) rfl ⟨_, by rw [HW.out], by rw [hD]; exact hlE, gE⟩
end Go.Proofs.YtikhknkpndhakabGreat
namespace Go.Proofs.YtikhknkpndhakabGreat
set_option maxRecDepth 100000
open Plain
theorem Zb6 : Yh Rec.free = 0 := by decide
theorem Zes (d : Dk) (a : Int) : Yh (Yz d a) = 0 := by
 unfold Yz;split
 ·next h => exact (Zsg _ _ h).1
 ·exact Zb6
theorem Zla (d : Dk) (p : Int) : Yh (d.tell p) = 0 := by
 unfold Dk.tell;split
 ·exact Zb6
 ·split
  ·exact Zb6
  ·unfold Zih; split
   ·exact Zes _ _
   ·exact Zes _ _
theorem Zvv {d : Dk} {p : Int} (h0 : 0 ≤ p) (h1 : 2 * p + 1 < (d.blocks.length : Int)) : d.noPair p = false := by
 unfold Dk.noPair; exact decide_eq_false (by omega)
theorem Zrj {d : Dk} {p : Int} {r : Rec} (h0 : 0 ≤ p) (h1 : 2 * p + 1 < (d.blocks.length : Int)) : d.pairE p r = Yh r := by
 unfold Dk.pairE; rw [if_neg (by omega)]
theorem Zsh (r : Rec) (a : Int) (h : Yh r = 0) : (blk r a).length = 16 := Qs r a (K4 h).2.2.2.2.2.2
end Go.Proofs.YtikhknkpndhakabGreat
namespace Go.Proofs.YtikhknkpndhakabGreat
set_option maxRecDepth 100000
open Go.RowKit
open Plain Reg
def Xm (S : Nat → Prop) (d : Dk) (v : Value) (w : World) : Prop := ∃ vb vl, v = .agg #[vb, vl] ∧ Yy S w vb d.blocks ∧ Xg S w vl d.late
theorem Xm.grow {S : Nat → Prop} {d : Dk} {v : Value} {w w' : World} (h : Xm S d v w) (hg : Zp w w') : Xm S d v w' := by
 obtain ⟨vb, vl, h1, h2, h3⟩ := h; exact ⟨vb, vl, h1, h2.grow hg, h3.grow hg⟩
theorem Xm.mono {S S' : Nat → Prop} {d : Dk} {v : Value} {w : World} (h : Xm S d v w) (hS : ∀ b, S b → S' b) : Xm S' d v w := by
 obtain ⟨vb, vl, h1, h2, h3⟩ := h; exact ⟨vb, vl, h1, h2.mono hS, h3.mono hS⟩
theorem Xm.but {S : Nat → Prop} {g : Nat} {d : Dk} {v : Value} {w w' : World} (h : Xm S d v w) (hg : Zu g w w') (hn : ¬ S g) : Xm S d v w' := by
 obtain ⟨vb, vl, h1, h2, h3⟩ := h; exact ⟨vb, vl, h1, h2.but hg hn, h3.but hg hn⟩
theorem Xm.p {S : Nat → Prop} {d : Dk} {v : Value} {w : World} (h : Xm S d v w) : Q8 d v w := by
 obtain ⟨vb, vl, h1, h2, h3⟩ := h; exact ⟨vb, vl, h1, h2.p, h3.p⟩
theorem Q8.s {d : Dk} {v : Value} {w : World} (h : Q8 d v w) : Xm (fun b => b < w.heap.size) d v w := by
 obtain ⟨vb, vl, h1, h2, h3⟩ := h; exact ⟨vb, vl, h1, h2.s, h3.s⟩
theorem Xm.form {S : Nat → Prop} {d : Dk} {v : Value} {w : World} (h : Xm S d v w) : ∃ ab cb al cl, v = .agg #[.slice ab d.blocks.length cb, .slice al d.late.length cl] ∧ Yy S w (.slice ab d.blocks.length cb) d.blocks ∧ Xg S w (.slice al d.late.length cl) d.late := by
 obtain ⟨vb, vl, h1, h2, h3⟩ := h;obtain ⟨ab, cb, rfl⟩ := h2.p.form;obtain ⟨al, cl, rfl⟩ := h3.p.form;exact ⟨ab, cb, al, cl, h1, h2, h3⟩
theorem Q1.s {B : Nat} {d : Dk} {v : Value} {w : World} (S : Nat → Prop) (h : Q1 B d v w) : Xm (Zx S B) d v w := by
 obtain ⟨vb, vl, h1, ⟨us, h2⟩, ⟨ut, h3⟩⟩ := h;refine ⟨vb, vl, h1, ?_, ?_⟩
 ·rcases h2.row.2 with ⟨rfl, h0⟩ | ⟨q, cap, cur, rfl, hb, hh, k1, k2, k3, k4⟩
  ·exact .inl ⟨none, 0, rfl, List.eq_nil_of_length_eq_zero h0, fun _ => rfl⟩
  ·refine .inr ⟨q, 0, cap, .inr hb, rfl, k1, fun i hi => ?_⟩;have c0 := h2.row.cellAt i (by omega);obtain ⟨u, hu1, hu2⟩ := h2.each i hi;rw [hu1] at c0;exact ⟨u, by rw [Nat.zero_add]; exact c0, Za6 S hu2⟩
 ·exact (Zfi (S := Zx S B) h3.row h3.len (fun i hi => (h3.each i hi).imp fun _ hu => ⟨hu.1, Za6 S hu.2⟩)).mono (fun b hb => hb.elim (fun x => x) .inr)
structure Dk.Fine (n : Nat) (d : Dk) : Prop where
 len : d.blocks.length = 12
 few : d.late.length ≤ n
 block : ∀ x ∈ d.blocks, x.length = 16
 late : ∀ x ∈ d.late, x.2.length = 16
 place : ∀ x ∈ d.late, 0 ≤ x.1 ∧ x.1 < 12
theorem Dk.Fine.mono {n m : Nat} {d : Dk} (h : d.Fine n) (hm : n ≤ m) : d.Fine m := ⟨h.len, Nat.le_trans h.few hm, h.block, h.late, h.place⟩
theorem Dk.Fine.b16 {n : Nat} {d : Dk} (h : d.Fine n) : ∀ x ∈ d.blocks, x.length ≤ 1000 := fun x hx => by rw [h.block x hx]; omega
theorem Dk.Fine.l16 {n : Nat} {d : Dk} (h : d.Fine n) : ∀ x ∈ d.late, x.2.length ≤ 1000 := fun x hx => by rw [h.late x hx]; omega
theorem Dk.Fine.pl {n : Nat} {d : Dk} (h : d.Fine n) : ∀ x ∈ d.late, 0 ≤ x.1 ∧ x.1 < (d.blocks.length : Int) := fun x hx => by rw [h.len]; exact h.place x hx
theorem Dk.Fine.pair {n : Nat} {d : Dk} (h : d.Fine n) (p : Int) (r : Rec) : (d.pairD p r).Fine (n + 2) := by
 unfold Dk.pairD;by_cases he : d.pairE p r = 0
 ·rw [if_pos he];unfold Dk.pairE at he;by_cases ho : p < 0 ∨ ((d.blocks.length / 2 : Nat) : Int) ≤ p
  ·rw [if_pos ho] at he; omega
  ·rw [if_neg ho] at he;have hl := (K4 he).2.2.2.2.2.2;have h12 := h.len;rw [h12] at ho;refine ⟨h.len, by show (d.late ++ [_, _]).length ≤ _; have := h.few; simp; omega, h.block, fun x hx => ?_, fun x hx => ?_⟩
   ·rcases List.mem_append.1 (show x ∈ d.late ++ [_, _] from hx) with h1 | h1
    ·exact h.late x h1
    ·rcases List.mem_cons.1 h1 with rfl | h2
     ·exact Qs r _ hl
     ·rw [List.mem_singleton.1 h2]; exact Qs r _ hl
   ·rcases List.mem_append.1 (show x ∈ d.late ++ [_, _] from hx) with h1 | h1
    ·exact h.place x h1
    ·rcases List.mem_cons.1 h1 with rfl | h2
     ·show 0 ≤ 2 * p ∧ 2 * p < 12; omega
     ·rw [List.mem_singleton.1 h2]; show 0 ≤ 2 * p + 1 ∧ 2 * p + 1 < 12; omega
 ·rw [if_neg he]; exact h.mono (by omega)
theorem Dk.Fine.mend {n : Nat} {d : Dk} (h : d.Fine n) (p : Int) : (d.mendD p).Fine (n + 2) := by
 unfold Dk.mendD;split
 ·exact h.pair p _
 ·exact h.mono (by omega)
theorem Dk.Fine.keep {n : Nat} {d : Dk} (h : d.Fine n) (on : Nat → Bool) : ∀ k, k ≤ d.late.length → ∀ x ∈ d.keepTo on k, x.length = 16
 | 0, _ => h.block
 | k + 1, hk => by
  have ih := keep h on k (by omega);show ∀ x ∈ (if on k = true then _ else _ : List (List UInt8)), x.length = 16;split
  ·intro x hx;rcases List.mem_or_eq_of_mem_set hx with h1 | h1
   ·exact ih x h1
   ·rw [h1, Vt _ _ _ (by omega)]; exact h.late _ (List.getElem_mem _)
  ·exact ih
theorem Dk.Fine.kept {n : Nat} {d : Dk} (h : d.Fine n) (bt : Int) : (d.keep bt).Fine 0 :=
 ⟨(d.keepTo_length _ _).trans h.len, Nat.le_refl _, h.keep _ _ (Nat.le_refl _), (fun x hx => by cases hx), (fun x hx => by cases hx)⟩
theorem Dk.Fine.flush {n : Nat} {d : Dk} (h : d.Fine n) : d.flush.Fine 0 :=
 ⟨(d.keepTo_length _ _).trans h.len, Nat.le_refl _, h.keep _ _ (Nat.le_refl _), (fun x hx => by cases hx), (fun x hx => by cases hx)⟩
theorem Dk.Fine.spoil {n : Nat} {d : Dk} (h : d.Fine n) (a k y : Int) : (d.spoil a k y).Fine n := by
 unfold Dk.spoil;split
 ·rename_i ha;refine ⟨by rw [List.length_set]; exact h.len, h.few, fun x hx => ?_, h.late, h.place⟩;rcases List.mem_or_eq_of_mem_set hx with h1 | h1
  ·exact h.block x h1
  ·rw [h1, Zbz, Vt _ _ _ (by omega)]; exact h.block _ (List.getElem_mem _)
 ·exact h
theorem Zfa : Dk.new.Fine 0 :=
 ⟨rfl, Nat.le_refl _, fun x hx => by
  obtain ⟨i, hi, rfl⟩ := List.mem_iff_getElem.1 hx;rw [Zl9 i hi]; exact Qs _ _ (by simp), (fun x hx => by cases hx), (fun x hx => by cases hx)⟩
theorem Dk.pairD_blocks (d : Dk) (p : Int) (r : Rec) : (d.pairD p r).blocks = d.blocks := by unfold Dk.pairD; split <;> rfl
theorem Dk.mendD_blocks (d : Dk) (p : Int) : (d.mendD p).blocks = d.blocks := by
 unfold Dk.mendD; split
 ·exact d.pairD_blocks p _
 ·rfl
theorem Ztt (s t : Dk) (v u : Value) (w : World) (hs : Q8 s v w) (ht : Q8 t u w) (hm : s.blocks.length ≤ 1000000) (hm2 : s.late.length ≤ 1000000) : Calls Tryz.prog 31 #[v, u] w fun e w' => e = .returned (.bool (s.same t)) ∧ Zp w w' := by
 obtain ⟨vb, vl, rfl, h1, h2⟩ := hs;obtain ⟨ub, ul, rfl, h3, h4⟩ := ht;exact Zh1 s t vb vl ub ul w h1 h2 h3 h4 (by omega) (by omega)
theorem Zd6 (d : Dk) (p : Int) (v : Value) (w : World) (hd : Q8 d v w) (hlen : d.blocks.length ≤ 256) (hm : d.late.length ≤ 999990) :
  Calls Tryz.prog 84 #[v, .int .i64 p] w fun e w' => ∃ dv, e = .returned (.tuple #[.int .i64 (d.how p), .agg #[.int .i64 (d.tell p).kind, .int .i64 (d.tell p).key, .int .i64 (d.tell p).ver, dv]]) ∧ w'.ownsRow w.heap.size 5 1 dv (d.tell p).data.length ((d.tell p).data.map bv) ∧ Zp w w' := by
 obtain ⟨vb, vl, rfl, h1, h2⟩ := hd;exact Zfe _ d p vb vl w h1.s h2.s hlen hm
theorem Zb8 (S : Nat → Prop) (d : Dk) (p k y n : Int) (l : List UInt8) (v u : Value) (w : World) (hS : ∀ b, S b → b < w.heap.size) (hd : Xm S d v w) (hu : Bytes w u l) (hlen : d.blocks.length ≤ 256) (hm : d.late.length ≤ 999990) :
  Calls Tryz.prog 40 #[v, .int .i64 p, .agg #[.int .i64 k, .int .i64 y, .int .i64 n, u]] w fun e w' => ∃ v', e = .returned (.tuple #[v', .int .i64 (d.pairE p ⟨k, y, n, l⟩)]) ∧ Xm (Zx S w.heap.size) (d.pairD p ⟨k, y, n, l⟩) v' w' ∧ Zp w w' := by
 obtain ⟨vb, vl, rfl, h1, h2⟩ := hd;refine (Zdq S d p k y n l vb vl u w hS h1.p h2 hu hlen hm).mono fun e w' ⟨vl', h3, h4, h5⟩ => ⟨_, h3, ⟨vb, vl', rfl, ?_, h4⟩, h5⟩
 rw [d.pairD_blocks]; exact (h1.grow h5).mono Vv
theorem Ztu (S : Nat → Prop) (d : Dk) (p : Int) (v : Value) (w : World) (hS : ∀ b, S b → b < w.heap.size) (hd : Xm S d v w) (hlen : d.blocks.length ≤ 256) (hm : d.late.length ≤ 999990) :
  Calls Tryz.prog 97 #[v, .int .i64 p] w fun e w' => ∃ v', e = .returned (.tuple #[v', .int .i64 (d.how p)]) ∧ Xm (Zx S w.heap.size) (d.mendD p) v' w' ∧ Zp w w' := by
 obtain ⟨vb, vl, rfl, h1, h2⟩ := hd;refine (Zrx S d p vb vl w hS h1 h2 hlen hm).mono fun e w' ⟨vl', h3, h4, h5⟩ => ⟨_, h3, ⟨vb, vl', rfl, ?_, h4⟩, h5⟩
 rw [d.mendD_blocks]; exact (h1.grow h5).mono Vv
theorem Zey (S : Nat → Prop) (n : Nat) (d : Dk) (v : Value) (w : World) (hS : ∀ b, S b → b < w.heap.size) (hd : Xm S d v w) (hF : d.Fine n) (hn : n ≤ 1000) :
  Calls Tryz.prog 49 #[v] w fun e w' => ∃ v', e = .returned v' ∧ Xm (Zx S w.heap.size) d.flush v' w' ∧ Zp w w' := by
 obtain ⟨vb, vl, rfl, h1, h2⟩ := hd;have h12 := hF.len;have hfw := hF.few;exact (Zpm S d vb vl w hS h1 h2 (by omega) (by omega) (fun x hx => (hF.place x hx).1)).mono fun e w' ⟨vb', h3, h4, h5⟩ => ⟨_, h3, ⟨vb', _, rfl, h4, .inl ⟨none, 0, rfl, rfl, fun _ => rfl⟩⟩, h5⟩
theorem Zh4 (S : Nat → Prop) (n : Nat) (d : Dk) (bt : Int) (v : Value) (w : World) (hS : ∀ b, S b → b < w.heap.size) (hd : Xm S d v w) (hF : d.Fine n) (hn : n ≤ 1000) :
  Calls Tryz.prog 30 #[v, .int .i64 bt] w fun e w' => ∃ v', e = .returned v' ∧ Xm (Zx S w.heap.size) (d.keep bt) v' w' ∧ Zp w w' := by
 obtain ⟨vb, vl, rfl, h1, h2⟩ := hd;have h12 := hF.len;have hfw := hF.few;exact (Zr6 S d bt vb vl w hS h1 h2 (by omega) (by omega) (by omega) hF.pl).mono fun e w' ⟨vb', h3, h4, h5⟩ => ⟨_, h3, ⟨vb', _, rfl, h4, .inl ⟨none, 0, rfl, rfl, fun _ => rfl⟩⟩, h5⟩
theorem Zq5 (S : Nat → Prop) (n : Nat) (d : Dk) (a k y : Int) (v : Value) (w : World) (hS : ∀ b, S b → b < w.heap.size) (hd : Xm S d v w) (hF : d.Fine n) :
  Calls Tryz.prog 60 #[v, .int .i64 a, .int .i64 k, .int .i64 y] w fun e w' => ∃ v', e = .returned v' ∧ Xm (Zx S w.heap.size) (d.spoil a k y) v' w' ∧ Zp w w' := by
 obtain ⟨vb, vl, rfl, h1, h2⟩ := hd;have h12 := hF.len;refine (Zoe S d a k y vb vl w hS h1 h2 (by omega) hF.b16).mono fun e w' ⟨vb', h3, h4, h5⟩ => ⟨_, h3, ⟨vb', vl, rfl, h4, ?_⟩, h5⟩
 rw [(d.spoil_len a k y).2]; exact (h2.grow h5).mono Vv
theorem Zu7 (S : Nat → Prop) (w : World) : Calls Tryz.prog 34 #[] w fun e w' => ∃ v, e = .returned v ∧ Xm (Zx S w.heap.size) Dk.new v w' ∧ Zp w w' :=
 (Zjw w).mono fun _ _ ⟨v, h1, h2, h3⟩ => ⟨v, h1, h2.s S, h3⟩
def Zwo : Prop := ∀ (S : Nat → Prop) (d : Dk) (p k y n : Int) (l : List UInt8) (v u : Value) (w : World), (∀ b, S b → b < w.heap.size) → d.Fine 900 → Xm S d v w → Bytes w u l →
 Calls Tryz.prog 38 #[v, .int .i64 p, .agg #[.int .i64 k, .int .i64 y, .int .i64 n, u]] w fun e w' => ∃ v', e = .returned (.tuple #[v', .int .i64 (d.pairE p ⟨k, y, n, l⟩)]) ∧ Xm (Zx S w.heap.size) (d.pairD p ⟨k, y, n, l⟩) v' w' ∧ Zp w w'
theorem Zc9 (d : Dk) (a : Int) (v : Value) (w : World) (hF : d.Fine 1000) (hd : Q8 d v w) (h0 : 0 ≤ a) (h1 : a < 12) :
  Calls Tryz.prog 118 #[v, .int .i64 a] w fun e w' => ∃ dv, e = .returned (.tuple #[.agg #[.int .i64 (Y4 (X6 d a) a).kind, .int .i64 (Y4 (X6 d a) a).key, .int .i64 (Y4 (X6 d a) a).ver, dv], .int .i64 (V4 d a)]) ∧ w'.ownsRow w.heap.size 5 1 dv (Y4 (X6 d a) a).data.length ((Y4 (X6 d a) a).data.map bv) ∧ Zp w w' := by
 obtain ⟨ab, cb, al, cl, rfl, hb, hl⟩ := hd.form;rw [show V4 d a = X4 (X6 d a) a from rfl];obtain ⟨r, hr⟩ : ∃ r, r = Y4 (X6 d a) a := ⟨_, rfl⟩;obtain ⟨E, hE⟩ : ∃ E, E = X4 (X6 d a) a := ⟨_, rfl⟩;rw [← hr, ← hE];have HR : Hid _ := hr;have HX : Hid _ := hE;clear hr hE;have HE : Hid (d.getE a = 0) := by show d.getE a = 0; unfold Dk.getE; rw [if_neg (by rw [hF.len]; omega)]
 have hb16 := hF.b16;have hl16 := hF.l16;have hm2 : d.late.length ≤ 999990 := by have := hF.few; omega
 have gW := Zv w (.cells #[.slice ab d.blocks.length cb, .slice al d.late.length cl] 30) (.cells #[.int .i64 0, .int .i64 0, .int .i64 0, .slice none 0 0] 51);have hz : ((w.alloc (.cells #[.slice ab d.blocks.length cb, .slice al d.late.length cl] 30)).alloc (.cells #[.int .i64 0, .int .i64 0, .int .i64 0, .slice none 0 0] 51)).heap[w.heap.size + 1]? = some (.cells #[.int .i64 0, .int .i64 0, .int .i64 0, .slice none 0 0] 51 (0, 0)) := by
  have h := Zn (w.alloc (.cells #[.slice ab d.blocks.length cb, .slice al d.late.length cl] 30)) #[.int .i64 0, .int .i64 0, .int .i64 0, .slice none 0 0] 51;rw [World.size_alloc] at h;exact h
 have hbW := hb.grow gW;have hlW := hl.grow gW;clear hd hF hb hl h0 h1;go_enter Tryz.func118, Tryz.ntmps118;go_wp2_with fail;refine (Zud d a _ _ _ hbW hlW hm2 hb16 hl16).mono ?_;rw [HE.out];rintro e w1 ⟨v1, rfl, ho, g1⟩;have hv : Bytes w1 v1 (X6 d a) := Qy ho;obtain ⟨a1, c1, rfl⟩ := Z8 ho;have hz1 := (g1.block _ (Zb hz)).trans hz;have gw1 := gW.trans g1;have hsz1 : w.heap.size + 1 < w1.heap.size := Zb hz1;clear ho g1 gW hz hbW hlW hb16 hl16 hm2 HE;go_wp2_with fail;refine (Zq9 (X6 d a) a _ _ hv).mono ?_;rw [← HR.out, ← HX.out];rintro e w2 ⟨dv, rfl, ho2, g2⟩;have hz2 := (g2.block _ (Zb hz1)).trans hz1;have gw2 := gw1.trans g2;obtain ⟨a2, c2, rfl⟩ := Z8 ho2;obtain ⟨hp1, hp2⟩ := Yn hz2 (.int .i64 r.kind) (.int .i64 r.key) (.int .i64 r.ver) (.slice a2 r.data.length c2);have gE := hp2.grow gw2 (by omega);have hoE := Ye (Kb hp2 (by omega) ho2) (base' := w.heap.size) (by omega);obtain ⟨y0, y1, y2, y3⟩ := Yb hz2 rfl rfl rfl rfl;obtain ⟨f0, f1, f2, f3⟩ := Yu hz2;have cs := Zy;clear hp1 hp2 hz1 hz2 gw1 gw2 g2 ho2 hv hsz1;go_wp2_with fail;exact bodyPost_ret (v := .tuple #[.agg #[.int .i64 r.kind, .int .i64 r.key, .int .i64 r.ver, .slice a2 r.data.length c2], .int .i64 E]) (by simp [results, Tryz.results118, go_sem, y0, y1, y2, y3, cs]) rfl ⟨_, rfl, hoE, gE⟩
theorem Zkj (K : Nat) (caps : Array Value) (p : Int) (w : World) (h : p < 0 ∨ 6 ≤ p) :
  Calls Tryz.prog 70 #[.int .i64 p, .func (.func K) #[] caps] w fun e w' => e = .returned (.int .i64 3) ∧ w = w' := by
 by_cases h0 : p < 0
 ·clear h;go_enter Tryz.func70, Tryz.ntmps70;go_wp2_with fail;go_ret;exact ⟨rfl, rfl⟩
 ·have h1 : 6 ≤ p := by omega
  have h2 : 0 ≤ p := by omega
  clear h h0;go_enter Tryz.func70, Tryz.ntmps70;go_wp2_with fail;go_ret;exact ⟨rfl, rfl⟩
theorem Zfw (K : Nat) (caps : Array Value) (p : Int) (w : World) (h0 : 0 ≤ p) (h1 : p < 6) (hK : ∀ (args : Array Value) (w : World), (callFunc K args).run Tryz.prog w = .ok (.enter K args) w) (I : Nat → World → Prop) (F : Int → World → Prop) (hI : I 0 w)
  (hc : ∀ (n : Nat) (w : World), n < 2 → I n w → Calls Tryz.prog K (#[.int .i64 (p * 2 + (n : Int))] ++ caps) w fun e w' => ∃ E : Int, e = .returned (.int .i64 E) ∧ (E = 0 → I (n + 1) w') ∧ (E ≠ 0 → F E w')) :
  Calls Tryz.prog 70 #[.int .i64 p, .func (.func K) #[] caps] w fun e w' => ∃ E : Int, e = .returned (.int .i64 E) ∧ (E = 0 → I 2 w') ∧ (E ≠ 0 → F E w') := by
 go_enter Tryz.func70, Tryz.ntmps70;go_wp2_with fail;go_loopw [13] (fun i wr => ∃ k : Nat, k ≤ 2 ∧ i = .int .i64 k ∧ I k wr) (fun i _ => 2 - (intOf i).toNat)
 case atStart => exact ⟨0, by omega, rfl, hI⟩
 case round =>
  obtain ⟨k, hk, rfl, hIk⟩ := hrel;by_cases hlt : k < 2
  ·go_wp2_with fail;refine (hc k _ hlt hIk).mono ?_;rintro e w1 ⟨E, rfl, hE0, hE1⟩;by_cases hE : E = 0
   ·subst hE;have hI1 := hE0 rfl;clear hE0 hE1;go_wp2_with fail;go_roundw
    case rel => exact ⟨k + 1, by omega, by go_num, hI1⟩
    case measure => simp [intOf]; omega
   ·have d0 : (E != 0) = true := by simp [hE]
    have hF := hE1 hE;clear hE0 hE1;go_wp2_with fail;go_ret;exact ⟨E, rfl, fun h => absurd h hE, fun _ => hF⟩
  ·have hk2 : k = 2 := by omega
   subst hk2;go_wp2_with fail;go_ret;exact ⟨0, rfl, fun _ => hIk, fun h => absurd rfl h⟩
end Go.Proofs.YtikhknkpndhakabGreat
