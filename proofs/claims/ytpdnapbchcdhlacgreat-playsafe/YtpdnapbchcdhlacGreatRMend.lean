import Derived.Test.YtpdnapbchcdhlacGreatRLook
import Derived.Test.YtpdnapbchcdhlacGreatDkLaw
set_option maxHeartbeats 8000000
namespace Go.Proofs.YtpdnapbchcdhlacGreat
set_option maxRecDepth 100000
open Go.RowKit
open Plain Reg
theorem Ztn (d : Dk) (p : Int) (ab al : Option Addr) (cb cl : Nat) (w : World) (hout : p < 0 ∨ ((d.blocks.length / 2 : Nat) : Int) ≤ p) (hlen : d.blocks.length ≤ 256) :
  Calls Tryz.prog 45 #[.agg #[.slice ab d.blocks.length cb, .slice al d.late.length cl], .int .i64 p] w fun e w' => e = .returned (.tuple #[.int .i64 4, .agg #[.int .i64 1, .int .i64 0, .int .i64 0, .slice none 0 0]]) ∧ Zn w w' := by
 have hq : (d.blocks.length : Int).tdiv 2 = ((d.blocks.length / 2 : Nat) : Int) := by rw [Int.tdiv_eq_ediv_of_nonneg (by omega)]; omega
 by_cases h0 : p < 0
 all_goals
  first | (have h1 : ((d.blocks.length / 2 : Nat) : Int) ≤ p := by omega) | skip
  clear hout;go_enter Tryz.func45, Tryz.ntmps45;go_wp2_with fail;refine (Zbu _).mono ?_;rintro e w1 ⟨rfl, g1⟩;have gw : Zn w w1 := ((Zp _ _ _).trans (Zb _ _)).trans g1;have hbZ : w1.heap[w.heap.size + 1]? = some (.cells #[.int .i64 0, .int .i64 0, .int .i64 0, .slice none 0 0] 61 (0, 0)) := by
   have h := Zg (w.alloc (.cells #[.slice ab d.blocks.length cb, .slice al d.late.length cl] 26)) #[.int .i64 0, .int .i64 0, .int .i64 0, .slice none 0 0] 61;rw [World.size_alloc] at h;exact (((Zb _ _).trans g1).block _ (by simp)).trans h
  clear g1;obtain ⟨y0, y1, y2, y3⟩ := Z4 hbZ rfl rfl rfl rfl;obtain ⟨f0, f1, f2, f3⟩ := Yr hbZ;have cs := Zr;have hp := (Yd hbZ (.int .i64 1) (.int .i64 0) (.int .i64 0) (.slice none 0 0)).2;go_wp2_with fail;refine bodyPost_ret (v := .tuple #[.int .i64 4, .agg #[.int .i64 1, .int .i64 0, .int .i64 0, .slice none 0 0]]) (by simp [results, Tryz.results45, go_sem, y0, y1, y2, y3, cs]) rfl ⟨rfl, ?_⟩;exact hp.grow gw (by omega)
theorem Zge (S : Nat → Prop) (d : Dk) (p : Int) (vb vl : Value) (w : World) (hb : Y0 S w vb d.blocks) (hl : Xl S w vl d.late) (hlen : d.blocks.length ≤ 256) (hm : d.late.length ≤ 999990) :
  Calls Tryz.prog 45 #[.agg #[vb, vl], .int .i64 p] w fun e w' => ∃ dv, e = .returned (.tuple #[.int .i64 (d.how p), .agg #[.int .i64 (d.tell p).kind, .int .i64 (d.tell p).key, .int .i64 (d.tell p).ver, dv]]) ∧ w'.ownsRow w.heap.size 5 1 dv (d.tell p).data.length ((d.tell p).data.map bv) ∧ Zn w w' := by
 obtain ⟨ab, cb, rfl⟩ := hb.p.form;obtain ⟨al, cl, rfl⟩ := hl.p.form;by_cases hout : p < 0 ∨ ((d.blocks.length / 2 : Nat) : Int) ≤ p
 ·have hn : d.noPair p = true := by unfold Dk.noPair; exact decide_eq_true hout
  have hh : d.how p = 4 := by unfold Dk.how; rw [if_pos hn]
  have ht : d.tell p = Rec.free := by unfold Dk.tell; rw [if_pos hn]
  rw [hh, ht];exact (Ztn d p ab al cb cl w hout hlen).mono fun e w' ⟨h1, h2⟩ => ⟨_, h1, ⟨rfl, .inl ⟨rfl, rfl⟩⟩, h2⟩
 ·exact Zv3 S d p ab al cb cl w hb hl (by omega) (by omega) hlen hm
def Dk.mendD (d : Dk) (p : Int) : Dk := if 2 ≤ d.how p then d.pairD p (d.tell p) else d
theorem Ztg (S : Nat → Prop) (d : Dk) (p : Int) (vb vl : Value) (w : World) (hS : ∀ b, S b → b < w.heap.size) (hb : Y0 S w vb d.blocks) (hl : Xl S w vl d.late) (hlen : d.blocks.length ≤ 256) (hm : d.late.length ≤ 999990) :
  Calls Tryz.prog 41 #[.agg #[vb, vl], .int .i64 p] w fun e w' => ∃ vl', e = .returned (.tuple #[.agg #[vb, vl'], .int .i64 (d.how p)]) ∧ Xl (Zs S w.heap.size) w' vl' (d.mendD p).late ∧ Zn w w' := by
 obtain ⟨ab, cb, rfl⟩ := hb.p.form;obtain ⟨al, cl, rfl⟩ := hl.p.form;have HD : Hid (d.mendD p = if 2 ≤ d.how p then d.pairD p (d.tell p) else d) := rfl;go_enter Tryz.func41, Tryz.ntmps41;go_wp2_with fail;refine (Zge S d p _ _ _ (by exact hb.grow (Zp _ _ _)) (by exact hl.grow (Zp _ _ _)) hlen hm).mono ?_;rintro e w1 ⟨dv, rfl, ho, g1⟩;have gw : Zn w w1 := (Zp _ _ _).trans g1;have hbD : w1.heap[w.heap.size]? = some (.cells #[.slice ab d.blocks.length cb, .slice al d.late.length cl] 26 (0, 0)) :=
  (((Zb _ _).trans g1).block _ (by simp)).trans (Zg _ _ _)
 have hbZ : w1.heap[w.heap.size + 1]? = some (.cells #[.slice none 0 0, .slice none 0 0] 26 (0, 0)) := by
  have h := Zg (w.alloc (.cells #[.slice ab d.blocks.length cb, .slice al d.late.length cl] 26)) #[.slice none 0 0, .slice none 0 0] 26;rw [World.size_alloc] at h;exact (g1.block _ (by simp)).trans h
 obtain ⟨a1, c1, rfl⟩ := Yc ho;have hv := Qk ho;clear g1 ho;generalize d.tell p = r at *;have HW : Hid (d.how p = d.how p) := rfl;generalize hhow : d.how p = how at *;replace HW : Hid (d.how p = how) := hhow;clear hhow;obtain ⟨k, y, n, l⟩ := r;have g2 := Zb w1 (.cells #[.int .i64 k, .int .i64 y, .int .i64 n, .slice a1 l.length c1] 61);have hR2 := Zg w1 #[.int .i64 k, .int .i64 y, .int .i64 n, .slice a1 l.length c1] 61;have hD2 := (g2.block _ (Za hbD)).trans hbD;have hZ2 := (g2.block _ (Za hbZ)).trans hbZ;obtain ⟨x0, x1⟩ := Y9 hD2 rfl rfl;obtain ⟨r0, r1, r2, r3⟩ := Z4 hR2 rfl rfl rfl rfl;have cs := Zr;have gw2 := gw.trans g2;have hv2 := Z1 hv g2;have hb2 := hb.grow gw2;have hl2 := hl.grow gw2;have hnZ : ¬ S (w.heap.size + 1) := fun h => by have := hS _ h; omega
 have hnD : ¬ S w.heap.size := fun h => by have := hS _ h; omega
 have hsz : w.heap.size + 1 < w1.heap.size := Za hbZ;clear hbD hbZ g2 hb hl gw hv hR2;by_cases h2 : 2 ≤ how
 ·have hD : d.mendD p = d.pairD p ⟨k, y, n, l⟩ := by rw [HD.out, if_pos h2]
  go_wp2_with fail;refine (Zer S d p k y n l _ _ _ _ (fun b h => by have := hS b h; simp; omega) hb2.p hl2 hv2 hlen hm).mono ?_;rintro e w3 ⟨vl', rfl, hl3, g3⟩;obtain ⟨al3, cl3, rfl⟩ := hl3.p.form;have hD3 := (g3.block _ (Za hD2)).trans hD2;have hZ3 := (g3.block _ (Za hZ2)).trans hZ2;have gw3 := gw2.trans g3;rw [World.size_alloc] at hl3;clear g3 x0 x1 r0 r1 r2 r3 hD2 hZ2 gw2 hb2 hl2 hv2;obtain ⟨x0, x1⟩ := Y9 hD3 rfl rfl;have f0 := Zi hD3 0;have f1 := Zi hD3 1;obtain ⟨y0, y1⟩ := Y9 hZ3 rfl rfl;have e0 := Zi hZ3 0;have e1 := Zi hZ3 1;obtain ⟨hp1, hp2⟩ := Xs hD3 (.slice ab d.blocks.length cb) (.slice al3 (d.pairD p ⟨k, y, n, l⟩).late.length cl3);have hZ4 := (hp2.block _ (Za hZ3) (by omega)).trans hZ3;obtain ⟨hq1, hq2⟩ := Xs hZ4 (.slice ab d.blocks.length cb) (.slice al3 (d.pairD p ⟨k, y, n, l⟩).late.length cl3);have gE := hq2.grow (hp2.grow gw3 (by omega)) (by omega);have hnD' : ¬ Zs S (w1.heap.size + 1) w.heap.size := fun h => h.elim hnD (fun h => by omega)
  have hnZ' : ¬ Zs S (w1.heap.size + 1) (w.heap.size + 1) := fun h => h.elim hnZ (fun h => by omega)
  have hlE := (hl3.but hp2 hnD').but hq2 hnZ';replace hlE := hlE.mono (Zw (B := w.heap.size) (by omega));clear hp1 hp2 hq1 hq2 hZ4 hZ3 hD3 hl3 gw3 HD h2;go_wp2_with fail;exact bodyPost_ret (v := .tuple #[.agg #[.slice ab d.blocks.length cb, .slice al3 (d.pairD p ⟨k, y, n, l⟩).late.length cl3], .int .i64 how]) (by simp [results, Tryz.results41, go_sem, cs, y0, y1]) rfl ⟨_, by rw [HW.out], by rw [hD]; exact hlE, gE⟩
 ·have hD : d.mendD p = d := by rw [HD.out, if_neg h2]
  obtain ⟨y0, y1⟩ := Y9 hZ2 rfl rfl;have e0 := Zi hZ2 0;have e1 := Zi hZ2 1;obtain ⟨hq1, hq2⟩ := Xs hZ2 (.slice ab d.blocks.length cb) (.slice al d.late.length cl);have gE := hq2.grow gw2 (by omega);have hlE := (hl2.but hq2 hnZ).mono (V2 (B := w.heap.size));have h2' : how < 2 := by omega
  clear hq1 hq2 hZ2 hD2 hl2 gw2 hv2 hb2 h2 hsz;go_wp2_with fail;exact bodyPost_ret (v := .tuple #[.agg #[.slice ab d.blocks.length cb, .slice al d.late.length cl], .int .i64 how]) (by simp [results, Tryz.results41, go_sem, cs, y0, y1]) rfl ⟨_, by rw [HW.out], by rw [hD]; exact hlE, gE⟩
def Z3 (d : Dk) : Nat → List Ent
 | 0 => []
 | n + 1 => if (d.tell (n : Int)).kind = 1 then Z3 d n else Xw ⟨d.tell (n : Int), (n : Int)⟩ (Z3 d n)
theorem Zk0 (e : Ent) (l : List Ent) : (Q7 e l).1.length = l.length + (if (Q7 e l).2 = true then 1 else 0) := by
 have key : ∀ (l : List Ent) (st : List Ent × Bool), (l.foldl (X0 e) st).1.length + (if st.2 = true then 1 else 0) = st.1.length + l.length + (if (l.foldl (X0 e) st).2 = true then 1 else 0) := by
  intro l
  induction l with
  | nil => rintro ⟨a, b⟩; cases b <;> simp
  | cons x l ih =>
   intro st;rw [List.foldl_cons, List.length_cons];have h1 := ih (X0 e st x);have h2 : (X0 e st x).1.length + (if st.2 = true then 1 else 0) = st.1.length + 1 + (if (X0 e st x).2 = true then 1 else 0) := by
    unfold X0;by_cases hc : st.2 = false ∧ Y2 e x = true
    ·rw [if_pos hc, hc.1]; simp
    ·rw [if_neg hc]; simp
   omega
 have := key l ([], false);unfold Q7;simpa using this
theorem Zhe (e : Ent) (l : List Ent) : (Xw e l).length = l.length + 1 := by
 have h := Zk0 e l;unfold Xw;by_cases hd : (Q7 e l).2 = true
 ·rw [if_pos hd] at h ⊢; exact h
 ·rw [if_neg hd] at h ⊢; simp [h]
theorem Zhq (d : Dk) : ∀ n, (Z3 d n).length ≤ n
 | 0 => by simp [Z3]
 | n + 1 => by
  have ih := Zhq d n;unfold Z3;split
  ·omega
  ·rw [Zhe]; omega
theorem Zht (S : Nat → Prop) (d : Dk) (vb vl : Value) (w : World) (hb : Y0 S w vb d.blocks) (hl : Xl S w vl d.late) (hlen : d.blocks.length ≤ 256) (hm : d.late.length ≤ 999990) :
  Calls Tryz.prog 27 #[.agg #[vb, vl]] w fun r w' => ∃ v', r = .returned v' ∧ Ys (Zs S w.heap.size) w' v' (Z3 d (d.blocks.length / 2)) ∧ Zn w w' := by
 obtain ⟨ab, cb, rfl⟩ := hb.p.form;obtain ⟨al, cl, rfl⟩ := hl.p.form;have g0 := Zb w (.cells #[.slice ab d.blocks.length cb, .slice al d.late.length cl] 26);have hD0 := Zg w #[.slice ab d.blocks.length cb, .slice al d.late.length cl] 26;have hq : (d.blocks.length : Int).tdiv 2 = ((d.blocks.length / 2 : Nat) : Int) := by rw [Int.tdiv_eq_ediv_of_nonneg (by omega)]; omega
 obtain ⟨N, hN⟩ : ∃ N, N = d.blocks.length / 2 := ⟨_, rfl⟩;rw [← hN] at hq ⊢;have hN2 : N ≤ 128 := by omega
 clear hN;go_enter Tryz.func27, Tryz.ntmps27;go_wp2_with fail;generalize World.alloc w _ = W at *;go_loopw [3, 11] (fun o i wr => ∃ k : Nat, k ≤ N ∧ i = .int .i64 k ∧ Ys (fun b => Zs S (w.heap.size + 1) b ∧ b < wr.heap.size) wr o (Z3 d k) ∧ Zn w wr ∧ wr.heap[w.heap.size]? = some (.cells #[.slice ab d.blocks.length cb, .slice al d.late.length cl] 26 (0, 0))) (fun _ i _ => N - (intOf i).toNat)
 case atStart => exact ⟨0, Nat.zero_le _, rfl, Z7.nil _ _ _, g0, hD0⟩
 case round =>
  clear g0 hD0;obtain ⟨k, hk, rfl, hO, hg, hD⟩ := hrel;by_cases hlt : k < N
  ·have hsc := Zhq d k;have HN : Hid (Z3 d (k + 1) = if (d.tell (k : Int)).kind = 1 then Z3 d k else Xw ⟨d.tell (k : Int), (k : Int)⟩ (Z3 d k)) := rfl;obtain ⟨a0, c0, rfl⟩ := hO.form;obtain ⟨x0, x1⟩ := Y9 hD rfl rfl;go_wp2_with fail;refine (Zge _ d (k : Int) _ _ _ (hb.grow hg) (hl.grow hg) hlen hm).mono ?_;rintro e w1 ⟨dv, rfl, ho, g1⟩;obtain ⟨a1, c1, rfl⟩ := Yc ho;generalize d.tell (k : Int) = r at *;generalize d.how (k : Int) = how at *;have g2 := Zb w1 (.cells #[.int .i64 r.kind, .int .i64 r.key, .int .i64 r.ver, .slice a1 r.data.length c1] 61);have hR2 := Zg w1 #[.int .i64 r.kind, .int .i64 r.key, .int .i64 r.ver, .slice a1 r.data.length c1] 61;have hD2 := ((g1.trans g2).block _ (Za hD)).trans hD;have hwr : w.heap.size + 1 ≤ wr.heap.size := Za hD;have hB2 : Z0 (fun b => Zs S (w.heap.size + 1) b ∧ b < w1.heap.size + 1) (w1.alloc (.cells #[.int .i64 r.kind, .int .i64 r.key, .int .i64 r.ver, .slice a1 r.data.length c1] 61)) (.slice a1 r.data.length c1) r.data := by
    have h := ((Zcl S (Yk ho hwr)).grow g2).caps;rw [World.size_alloc] at h;exact h
   have hO2 : Ys (fun b => Zs S (w.heap.size + 1) b ∧ b < w1.heap.size + 1) (w1.alloc (.cells #[.int .i64 r.kind, .int .i64 r.key, .int .i64 r.ver, .slice a1 r.data.length c1] 61)) (.slice a0 (Z3 d k).length c0) (Z3 d k) := (hO.grow (g1.trans g2)).mono fun b h => ⟨h.1, by have := g1.size; omega⟩
   have gw2 := hg.trans (g1.trans g2);obtain ⟨r0, r1, r2, r3⟩ := Z4 hR2 rfl rfl rfl rfl;have HSZ : Hid (w.heap.size + 1 ≤ w1.heap.size) := Nat.le_trans hwr g1.size;clear x0 x1 hO hg hD g1 g2 ho hR2 hwr;by_cases hk1 : r.kind = 1
   ·have HN2 : Hid (Z3 d (k + 1) = Z3 d k) := by show _ = _; rw [HN.out, if_pos hk1]
    have d1 : (r.kind != 1) = false := by simp [hk1]
    clear hk1 HN;have hsz := World.size_alloc w1 (.cells #[.int .i64 r.kind, .int .i64 r.key, .int .i64 r.ver, .slice a1 r.data.length c1] 61);have hO3 := hO2.mono (S' := fun b => Zs S (w.heap.size + 1) b ∧ b < (w1.alloc (.cells #[.int .i64 r.kind, .int .i64 r.key, .int .i64 r.ver, .slice a1 r.data.length c1] 61)).heap.size) (fun b h => ⟨h.1, by rw [hsz]; exact h.2⟩);clear hO2 hB2 hsz;go_wp2_with fail;go_roundw
    case rel => exact ⟨k + 1, by omega, by go_num, by rw [HN2.out]; exact hO3, gw2, hD2⟩
    case measure => simp [intOf]; omega
   ·have HN2 : Hid (Z3 d (k + 1) = Xw ⟨r, (k : Int)⟩ (Z3 d k)) := by show _ = _; rw [HN.out, if_neg hk1]
    have d1 : (r.kind != 1) = true := by simp [hk1]
    clear hk1 HN;go_wp2_with fail;refine (Zep _ (Z3 d k) ⟨r, (k : Int)⟩ _ a1 c1 _ (fun b h => by rw [World.size_alloc]; exact h.2) hO2 hB2 (by omega)).mono ?_;rintro e w3 ⟨v3, rfl, hO3, g3⟩;rw [← HN2.out] at hO3;have hO4 : Ys (fun b => Zs S (w.heap.size + 1) b ∧ b < w3.heap.size) w3 v3 (Z3 d (k + 1)) := (hO3.caps (by decide)).mono fun b h => ⟨h.1.elim (fun x => x.1) (fun x => .inr (by have := HSZ.out; rw [World.size_alloc] at x; omega)), h.2⟩
    have hD3 := (g3.block _ (Za hD2)).trans hD2;have gw3 := gw2.trans g3;clear hO2 hO3 hB2 hD2 gw2 g3 r0 r1 r2 r3;go_wp2_with fail;go_roundw
    case rel => exact ⟨k + 1, by omega, by go_num, hO4, gw3, hD3⟩
    case measure => simp [intOf]; omega
  ·have hk' : k = N := by omega
   subst hk';have hfin := hO.mono (S' := Zs S w.heap.size) (fun b h => Zw (B := w.heap.size) (by omega) b h.1);obtain ⟨a0, c0, rfl⟩ := hO.form;clear hO;go_wp2_with fail;go_ret;exact ⟨_, rfl, hfin, hg⟩
def Zbr (pre : List Ent) (e : Ent) : Bool := match pre.getLast? with | none => true | some x => Y2 x e
def okE (pre : List Ent) (e : Ent) : Bool := decide (Z9 e.rc = 0 ∧ e.rc.kind ≠ 1 ∧ 0 ≤ e.pair ∧ e.pair ≤ 1000) && Zbr pre e && pre.all (fun x => decide (x.pair ≠ e.pair))
def Zag (pre : List Ent) : List Ent → Bool
 | [] => true
 | e :: l => okE pre e && Zag (pre ++ [e]) l
def Qz (l : List Ent) : Bool := Zag [] l
theorem Zi2 (c : UInt8) : lo (c.toNat : Int) = c := by
 refine UInt8.toNat_inj.1 ?_;have := Kk (c.toNat : Int);have hc : c.toNat < 256 := UInt8.toNat_lt _;omega
theorem Zam (n : Int) (h0 : 0 ≤ n) (h1 : n ≤ 255) : ((lo n).toNat : Int) = n := by rw [Kk]; omega
theorem Zw0 (x y : UInt8) : hi ((x.toNat : Int) * 256 + (y.toNat : Int)) = x := by
 have hx : x.toNat < 256 := UInt8.toNat_lt _;have hy : y.toNat < 256 := UInt8.toNat_lt _;exact ((Zct x y _ (by omega) (by omega)).1 rfl).1
theorem Zwz (x y : UInt8) : lo ((x.toNat : Int) * 256 + (y.toNat : Int)) = y := by
 have hx : x.toNat < 256 := UInt8.toNat_lt _;have hy : y.toNat < 256 := UInt8.toNat_lt _;exact ((Zct x y _ (by omega) (by omega)).1 rfl).2
theorem Zwl (r : Rec) (a : Int) : at' (blk r a) 0 = lo r.kind := rfl
theorem Zwk (r : Rec) (a : Int) : at' (blk r a) 1 = lo a := rfl
theorem Zwj (r : Rec) (a : Int) : at' (blk r a) 2 = lo r.key := rfl
theorem Zwi (r : Rec) (a : Int) : at' (blk r a) 3 = hi r.ver := rfl
theorem Zwh (r : Rec) (a : Int) : at' (blk r a) 4 = lo r.ver := rfl
theorem Zje (r : Rec) (a : Int) : at' (blk r a) 5 = lo (r.data.length : Int) := rfl
theorem Zlm (r : Rec) (a : Int) : (blk r a).drop 6 = r.data ++ (List.replicate (8 - r.data.length) 0 ++ [hi (Xf (Zat r a)), lo (Xf (Zat r a))]) := by
 show (r.data ++ List.replicate (8 - r.data.length) 0) ++ _ = _;rw [List.append_assoc]
theorem Zot (r : Rec) (a : Int) (h : Z9 r = 0) : Yz (blk r a) = r := by
 obtain ⟨k0, k1, y0, y1, n0, n1, hl⟩ := Vr h;unfold Yz;rw [Zwl, Zwj, Zwi, Zwh, Zje, Zlm];have e1 := Zam r.kind (by omega) (by omega);have e2 := Zam r.key (by omega) (by omega);have e3 := Zam (r.data.length : Int) (by omega) (by omega);have e4 : ((hi r.ver).toNat : Int) * 256 + ((lo r.ver).toNat : Int) = r.ver := by rw [Zgo, Kk]; omega
 have e5 : (lo (r.data.length : Int)).toNat = r.data.length := by omega
 rw [e1, e2, e4, e5, List.take_left' rfl]
theorem Zsl (r : Rec) (a : Int) (h : Z9 r = 0) : Y7 (Ve (blk r a)) = true := by
 obtain ⟨k0, k1, y0, y1, n0, n1, hl⟩ := Vr h;have e3 := Zam (r.data.length : Int) (by omega) (by omega);have e5 : (lo (r.data.length : Int)).toNat = r.data.length := by omega
 unfold Ve;rw [Zje, e5, ← List.drop_drop, Zlm, List.drop_left' rfl, List.take_left' (by simp)];unfold Y7;rw [List.all_eq_true];intro c hc;simp [List.eq_of_mem_replicate hc]
theorem Zl9 (r : Rec) (a : Int) (h : Z9 r = 0) (h0 : 0 ≤ a) (h1 : a ≤ 255) : spoilt (blk r a) a = 0 := by
 obtain ⟨k0, k1, y0, y1, n0, n1, hl⟩ := Vr h;have e1 := Zam a h0 h1;have e3 := Zam (r.data.length : Int) (by omega) (by omega);unfold spoilt;rw [if_neg (by rw [Qm r a hl]; simp), if_neg (by unfold blk; rw [Zfq]; simp), if_neg (by rw [Zwk, e1]; simp), if_neg (by rw [Zje]; omega), if_neg (by rw [Zsl r a h]; simp)]
theorem Zkd (r : Rec) (a : Int) (h : Z9 r = 0) (h0 : 0 ≤ a) (h1 : a ≤ 255) : X3 (blk r a) a = 0 ∧ Y3 (blk r a) a = r := by
 have e : X3 (blk r a) a = 0 := by unfold X3; rw [if_pos (Zl9 r a h h0 h1), Zot r a h]; exact h
 refine ⟨e, ?_⟩;unfold Y3;rw [if_pos e, Zot r a h]
theorem Zmu {b : List UInt8} {a : Int} (h : X3 b a = 0) : spoilt b a = 0 ∧ Z9 (Yz b) = 0 ∧ Y3 b a = Yz b := by
 have hr : Y3 b a = Yz b := by unfold Y3; rw [if_pos h]
 unfold X3 at h;by_cases hs : spoilt b a = 0
 ·rw [if_pos hs] at h; exact ⟨hs, h, hr⟩
 ·rw [if_neg hs] at h; exact absurd h hs
theorem Zw2 (b : List UInt8) (a : Int) (hs : spoilt b a = 0) : b.take 14 = Zat (Yz b) a := by
 obtain ⟨hl, hsl, hp, h8, hn⟩ := Ju hs;have hlen : ((b.drop 6).take (at' b 5).toNat).length = (at' b 5).toNat := by simp; omega
 have hz : Ve b = List.replicate (8 - (at' b 5).toNat) 0 := by
  refine List.eq_replicate_iff.2 ⟨by unfold Ve; simp; omega, fun c hc => ?_⟩;unfold Y7 at hn;have := (List.all_eq_true.1 hn) c hc;simpa using this
 unfold Zat Yz;simp only [];rw [hlen, Zi2, Zi2, Zw0, Zwz, Zi2, ← hp, Zi2, ← hz];have e : b.take 14 = [at' b 0, at' b 1, at' b 2, at' b 3, at' b 4, at' b 5] ++ (b.drop 6).take 8 := by
  match b, hl with
  | [x0, x1, x2, x3, x4, x5, x6, x7, x8, x9, x10, x11, x12, x13, x14, x15], _ => rfl
 rw [e]
 congr 1
 unfold Ve;rw [← List.drop_drop, ← List.take_add]
 congr 1
 omega
theorem Zg2 (b : List UInt8) (a : Int) (h : X3 b a = 0) : Z9 (Y3 b a) = 0 ∧ blk (Y3 b a) a = b := by
 obtain ⟨hs, hw, hr⟩ := Zmu h;obtain ⟨hl, hsl, -, -, -⟩ := Ju hs;rw [hr];refine ⟨hw, ?_⟩;unfold blk;rw [← Zw2 b a hs];have := Zfr b (by omega);rw [hsl, hl] at this;exact beq_iff_eq.1 this
theorem Zkc (r : Rec) (a : Int) (n : Nat) (c : UInt8) (h : Z9 r = 0) (hn : n < (blk r a).length) (hne : (blk r a)[n] ≠ c) : X3 ((blk r a).set n c) a = 7 := by
 obtain ⟨k0, k1, y0, y1, n0, n1, hl⟩ := Vr h;have e : spoilt ((blk r a).set n c) a = 7 := by
  have hse : Xi ((blk r a).set n c) = false := Zjx (Zat r a) n c hn hne;unfold spoilt;rw [if_neg (by rw [List.length_set, Qm r a hl]; simp), if_pos hse]
 unfold X3;rw [e]; rfl
end Go.Proofs.YtpdnapbchcdhlacGreat
namespace Go.Proofs.YtpdnapbchcdhlacGreat
set_option maxRecDepth 100000
open Plain
variable {a : Int} {d : Dk} {r : Rec}
theorem Q3 : Z9 Rec.free = 0 := by decide
theorem Zcu (d : Dk) (a : Int) : Z9 (Z5 d a) = 0 := by
 unfold Z5;split
 ·next h => exact (Zg2 _ _ h).1
 ·exact Q3
theorem Xt (d : Dk) (p : Int) : Z9 (d.tell p) = 0 := by
 unfold Dk.tell;split
 ·exact Q3
 ·split
  ·exact Q3
  ·unfold K2; split
   ·exact Zcu _ _
   ·exact Zcu _ _
theorem Zfn (h : d.get a = some (blk r a)) (hr : Z9 r = 0) (h0 : 0 ≤ a) (h1 : a ≤ 255) : Z5 d a = r ∧ Y5 d a = 0 := by
 have hb : Yp d a = blk r a := by unfold Yp; rw [h]; rfl
 obtain ⟨he, hR⟩ := Zkd r a hr h0 h1;unfold Y5 Z5 Qa;rw [hb, if_pos he, if_pos he]; exact ⟨hR, rfl⟩
theorem Zfo (h : Qa d a ≠ 0) : Z5 d a = Rec.free ∧ Y5 d a = 1 := by
 unfold Y5 Z5;rw [if_neg h, if_neg h]; exact ⟨rfl, rfl⟩
theorem Qc (h : (Z5 d a).kind = 1) : Yt d a = 0 := by unfold Yt; rw [if_pos h]
theorem Kg (h : (Z5 d a).kind ≠ 1) : Yt d a = 1 := by unfold Yt; rw [if_neg h]
theorem Vs {p : Int} (hn : d.noPair p = false) (h0 : Z5 d (2 * p) = r) (h1 : Z5 d (2 * p + 1) = r) (hr : r.kind ≠ 1) : d.how p = 1 ∧ d.tell p = r := by
 have s0 : Yt d (2 * p) = 1 := Kg (by rw [h0]; exact hr);have s1 : Yt d (2 * p + 1) = 1 := Kg (by rw [h1]; exact hr);have hs : Q6 r r = true := by rw [Zae]
 unfold Dk.how Dk.tell K2;rw [hn, s0, s1, h0, h1, if_neg hr];simp [hs]
theorem Zgm {p : Int} (hn : d.noPair p = false) (h0 : (Z5 d (2 * p)).kind = 1) (h1 : (Z5 d (2 * p + 1)).kind = 1) (b0 : Y5 d (2 * p) = 0) (b1 : Y5 d (2 * p + 1) = 0) : d.how p = 0 ∧ d.tell p = Rec.free := by
 have s0 := Qc h0;have s1 := Qc h1;unfold Dk.how Dk.tell;rw [hn, s0, s1, b0, b1];simp
theorem Vz {p : Int} (hn : d.noPair p = false) (hr : r.kind ≠ 1) (h : Z5 d (2 * p) = r ∧ (Z5 d (2 * p + 1)).kind = 1 ∨ Z5 d (2 * p + 1) = r ∧ (Z5 d (2 * p)).kind = 1) : d.how p = 2 ∧ d.tell p = r := by
 rcases h with ⟨h0, h1⟩ | ⟨h0, h1⟩
 ·have s0 : Yt d (2 * p) = 1 := Kg (by rw [h0]; exact hr);have s1 := Qc h1;unfold Dk.how Dk.tell K2;rw [hn, s0, s1, h0, if_neg hr];simp
 ·have s1 : Yt d (2 * p + 1) = 1 := Kg (by rw [h0]; exact hr);have s0 := Qc h1;unfold Dk.how Dk.tell K2;rw [hn, s0, s1, h0, if_pos h1];simp
theorem Zh0 {p : Int} (h0 : 0 ≤ p) (h1 : 2 * p + 1 < (d.blocks.length : Int)) : (d.pairW p r).get (2 * p) = some (blk r (2 * p)) ∧ (d.pairW p r).get (2 * p + 1) = some (blk r (2 * p + 1)) := by
 have e : d.pairW p r = (d.put (2 * p) (blk r (2 * p))).put (2 * p + 1) (blk r (2 * p + 1)) := by simp [Dk.pairW, Dk.put]
 rw [e];refine ⟨?_, Dk.put_get _ _ _ (by omega) h1⟩;rw [Dk.put_other _ _ _ _ (by omega)];exact Dk.put_get _ _ _ (by omega) (by omega)
theorem Zea {p : Int} (h0 : 0 ≤ p) (h1 : 2 * p + 1 < (d.blocks.length : Int)) : d.noPair p = false := by
 unfold Dk.noPair; exact decide_eq_false (by omega)
theorem Zdd {p : Int} (h0 : 0 ≤ p) (h1 : 2 * p + 1 < (d.blocks.length : Int)) : d.pairE p r = Z9 r := by
 unfold Dk.pairE; rw [if_neg (by omega)]
theorem Znd (d : Dk) (p : Int) (h0 : 0 ≤ p) (h1 : 2 * p + 1 < (d.blocks.length : Int)) (hlen : d.blocks.length ≤ 256) :
  (d.mendD p).how p = (if (d.tell p).kind = 1 then 0 else 1) ∧ (d.mendD p).tell p = d.tell p ∧ (d.mendD p).mendD p = d.mendD p := by
 have key : (d.mendD p).how p = (if (d.tell p).kind = 1 then 0 else 1) ∧ (d.mendD p).tell p = d.tell p := by
  have hn := Zea h0 h1;by_cases h2 : 2 ≤ d.how p
  ·have hd : d.mendD p = d.pairW p (d.tell p) := by
    unfold Dk.mendD Dk.pairD;rw [if_pos h2, Zdd h0 h1, Xt, if_pos rfl]
   rw [hd];obtain ⟨g0, g1⟩ := Zh0 (d := d) (r := d.tell p) h0 h1;obtain ⟨r0, b0⟩ := Zfn g0 (Xt d p) (by omega) (by omega);obtain ⟨r1, b1⟩ := Zfn g1 (Xt d p) (by omega) (by omega);have hn' : (d.pairW p (d.tell p)).noPair p = false := Zea h0 h1;by_cases hk : (d.tell p).kind = 1
   ·have hf : d.tell p = Rec.free := by
     by_cases hs : Yt d (2 * p) + Yt d (2 * p + 1) = 0
     ·unfold Dk.tell; rw [hn, if_neg (by decide), if_pos hs]
     ·exfalso;have ht : d.tell p = K2 d p := by unfold Dk.tell; rw [hn, if_neg (by decide), if_neg hs]
      rw [ht] at hk;unfold K2 at hk;by_cases hk0 : (Z5 d (2 * p)).kind = 1
      ·rw [if_pos hk0] at hk;rw [Qc hk0, Qc hk] at hs; exact hs rfl
      ·rw [if_neg hk0] at hk; exact hk0 hk
    rw [if_pos hk];obtain ⟨a, b⟩ := Zgm hn' (by rw [r0]; exact hk) (by rw [r1]; exact hk) b0 b1;exact ⟨a, by rw [b, hf]⟩
   ·rw [if_neg hk];exact Vs hn' r0 r1 hk
  ·have hd : d.mendD p = d := by unfold Dk.mendD; rw [if_neg h2]
   rw [hd];refine ⟨?_, rfl⟩;unfold Dk.how at h2 ⊢;unfold Dk.tell;rw [hn] at h2 ⊢;simp only [Bool.false_eq_true, if_false] at h2 ⊢;have e0 := Zbn d (2 * p);have e1 := Zbn d (2 * p + 1);by_cases hs : Yt d (2 * p) + Yt d (2 * p + 1) = 2
   ·rw [if_pos hs] at h2 ⊢;have hk : (Z5 d (2 * p)).kind ≠ 1 := fun h => by have := Qc h; omega
    have hz : ¬ (Yt d (2 * p) + Yt d (2 * p + 1) = 0) := by omega
    rw [if_neg hz];by_cases hsm : Q6 (Z5 d (2 * p)) (Z5 d (2 * p + 1)) = true
    ·unfold K2; rw [if_pos hsm, if_neg hk, if_neg hk]
    ·rw [if_neg hsm] at h2; omega
   ·rw [if_neg hs] at h2 ⊢;by_cases hs1 : Yt d (2 * p) + Yt d (2 * p + 1) = 1
    ·rw [if_pos hs1] at h2; omega
    ·rw [if_neg hs1] at h2 ⊢;have hz : Yt d (2 * p) + Yt d (2 * p + 1) = 0 := by omega
     rw [if_pos hz, if_pos (show Rec.free.kind = 1 from rfl)];by_cases hb0 : Y5 d (2 * p) + Y5 d (2 * p + 1) = 0
     ·rw [if_pos hb0]
     ·rw [if_neg hb0] at h2; split at h2 <;> omega
 refine ⟨key.1, key.2, ?_⟩;show (if 2 ≤ (d.mendD p).how p then _ else _) = _;rw [if_neg (by rw [key.1]; split <;> omega)]
theorem Zjf (r : Rec) (a : Int) (h : Z9 r = 0) : (blk r a).length = 16 := Qm r a (Vr h).2.2.2.2.2.2
theorem Zjw {n y : Int} (h : d.get a = some (X2 (blk r a) n y)) (hr : Z9 r = 0) (hn0 : 0 ≤ n) (hn1 : n < ((blk r a).length : Int)) (hy : y % 256 ≠ 0) : Z5 d a = Rec.free ∧ Y5 d a = 1 := by
 refine Zfo ?_;unfold Qa;have hb : Yp d a = X2 (blk r a) n y := by unfold Yp; rw [h]; rfl
 rw [hb];unfold X2;rw [if_pos ⟨hn0, hn1⟩, Qp _ _ _ (by omega)];rw [Zkc r a n.toNat _ hr (by omega) ?_]
 ·decide
 ·intro hE;have h1 : lo y = 0 := by
   have h2 : (blk r a)[n.toNat] ^^^ ((blk r a)[n.toNat] ^^^ lo y) = (blk r a)[n.toNat] ^^^ (blk r a)[n.toNat] := by rw [← hE]
   rw [← UInt8.xor_assoc, UInt8.xor_self, UInt8.zero_xor] at h2;exact h2
  have h3 := Kk y;rw [h1] at h3;exact hy h3.symm
theorem Zvz (a : Int) (h0 : 0 ≤ a) (h1 : a < 12) : (Dk.new.blocks).getD a.toNat [] = blk Rec.free a := by
 unfold Dk.new;rw [Qp _ _ _ (by simp; omega), List.getElem_map, List.getElem_range, show ((a.toNat : Nat) : Int) = a from by omega]; rfl
variable {a b e : Ent} {l : List Ent}
def Zbt (e : Ent) : List Ent → List Ent
 | [] => [e]
 | x :: l => if Y2 e x = true then e :: x :: l else x :: Zbt e l
theorem Zgl (e : Ent) : ∀ (l pre : List Ent), l.foldl (X0 e) (pre, true) = (pre ++ l, true)
 | [], pre => by simp
 | x :: l, pre => by
  rw [List.foldl_cons, show X0 e (pre, true) x = (pre ++ [x], true) from by simp [X0], Zgl e l];simp
theorem Zh5 (e : Ent) : ∀ (l pre : List Ent), (if (l.foldl (X0 e) (pre, false)).2 = true then (l.foldl (X0 e) (pre, false)).1 else (l.foldl (X0 e) (pre, false)).1 ++ [e]) = pre ++ Zbt e l
 | [], pre => by simp [Zbt]
 | x :: l, pre => by
  rw [List.foldl_cons];by_cases h : Y2 e x = true
  ·rw [show X0 e (pre, false) x = (pre ++ [e] ++ [x], true) from by simp [X0, h], Zgl];simp [Zbt, h]
  ·rw [show X0 e (pre, false) x = (pre ++ [x], false) from by simp [X0, h], Zh5 e l];simp [Zbt, h]
theorem Jz (e : Ent) (l : List Ent) : Xw e l = Zbt e l := by
 have := Zh5 e l [];unfold Xw Q7;simpa using this
theorem Zdi (e x : Ent) : ∀ l : List Ent, x ∈ Zbt e l ↔ x = e ∨ x ∈ l
 | [] => by simp [Zbt]
 | y :: l => by
  have ih := Zdi e x l;unfold Zbt;split
  ·simp
  ·simp [ih];constructor
   ·rintro (h | h | h)
    ·exact .inr (.inl h)
    ·exact .inl h
    ·exact .inr (.inr h)
   ·rintro (h | h | h)
    ·exact .inr (.inl h)
    ·exact .inl h
    ·exact .inr (.inr h)
theorem V6 (e x : Ent) (l : List Ent) : x ∈ Xw e l ↔ x = e ∨ x ∈ l := by rw [Jz]; exact Zdi e x l
theorem Jh {c : Ent} (h1 : Y2 a b = true) (h2 : Y2 b c = true) : Y2 a c = true := by
 unfold Y2 at h1 h2 ⊢;split at h1 <;> split at h2 <;> split <;> try split at h1 <;> try split at h2 <;> try split
 all_goals simp only [decide_eq_true_eq] at *
 all_goals first | omega | (split at h2 <;> simp only [decide_eq_true_eq] at * <;> first | omega | (split <;> simp only [decide_eq_true_eq] at * <;> omega)) | (split <;> simp only [decide_eq_true_eq] at * <;> omega)
theorem Zcy (h : ¬ Y2 a b = true) (hp : a.pair ≠ b.pair) : Y2 b a = true := by
 unfold Y2 at h ⊢;by_cases hk : a.rc.key = b.rc.key
 ·rw [if_pos hk] at h;rw [if_pos hk.symm];by_cases hv : a.rc.ver = b.rc.ver
  ·rw [if_pos hv] at h;rw [if_pos hv.symm];simp only [decide_eq_true_eq] at *; omega
  ·rw [if_neg hv] at h;rw [if_neg (fun e => hv e.symm)];simp only [decide_eq_true_eq] at *; omega
 ·rw [if_neg hk] at h;rw [if_neg (fun e => hk e.symm)];simp only [decide_eq_true_eq] at *; omega
def Good (e : Ent) : Prop := Z9 e.rc = 0 ∧ e.rc.kind ≠ 1 ∧ 0 ≤ e.pair ∧ e.pair ≤ 1000
def Ups (a b : Ent) : Prop := Y2 a b = true ∧ a.pair ≠ b.pair
theorem Zvw (pre : List Ent) (e : Ent) : okE pre e = true ↔ Good e ∧ Zbr pre e = true ∧ ∀ x ∈ pre, x.pair ≠ e.pair := by
 unfold okE Good;simp only [Bool.and_eq_true, decide_eq_true_eq, List.all_eq_true];exact ⟨fun ⟨⟨h1, h2⟩, h3⟩ => ⟨h1, h2, h3⟩, fun ⟨h1, h2, h3⟩ => ⟨⟨h1, h2⟩, h3⟩⟩
theorem Ztq : ∀ pre : List Ent, pre.Pairwise Ups → Zbr pre e = true → ∀ x ∈ pre, Y2 x e = true := by
 intro pre hp hl x hx;have h : pre ≠ [] := by rintro rfl; cases hx
 obtain ⟨pre', y, rfl⟩ : ∃ pre' y, pre = pre' ++ [y] := ⟨pre.dropLast, pre.getLast h, (List.dropLast_concat_getLast h).symm⟩;have hy : Y2 y e = true := by
  unfold Zbr at hl;rw [List.getLast?_append] at hl;simpa using hl
 rcases List.mem_append.1 hx with h1 | h1
 ·have := (List.pairwise_append.1 hp).2.2 x h1 y (by simp);exact Jh this.1 hy
 ·rw [List.mem_singleton.1 h1]; exact hy
theorem J7 : ∀ (l pre : List Ent), pre.Pairwise Ups → (Zag pre l = true ↔ (pre ++ l).Pairwise Ups ∧ ∀ x ∈ l, Good x)
 | [], pre, hp => by simp [Zag, hp]
 | e :: l, pre, hp => by
  unfold Zag;rw [Bool.and_eq_true, Zvw];constructor
  ·rintro ⟨⟨h1, h2, h3⟩, h4⟩;have hp2 : (pre ++ [e]).Pairwise Ups := List.pairwise_append.2 ⟨hp, by simp, fun x hx y hy => by
    rw [List.mem_singleton.1 hy]; exact ⟨Ztq pre hp h2 x hx, h3 x hx⟩⟩
   obtain ⟨h5, h6⟩ := (J7 l (pre ++ [e]) hp2).1 h4;refine ⟨by simpa using h5, fun x hx => ?_⟩;rcases List.mem_cons.1 hx with rfl | hx
   ·exact h1
   ·exact h6 x hx
  ·rintro ⟨h1, h2⟩;have hp2 : (pre ++ [e]).Pairwise Ups := by
    have : (pre ++ [e] ++ l).Pairwise Ups := by simpa using h1
    exact (List.pairwise_append.1 this).1
   have hq := (List.pairwise_append.1 hp2).2.2;refine ⟨⟨h2 e (by simp), ?_, fun x hx => (hq x hx e (by simp)).2⟩, (J7 l (pre ++ [e]) hp2).2 ⟨by simpa using h1, fun x hx => h2 x (by simp [hx])⟩⟩;unfold Zbr;cases hg : pre.getLast? with
   | none => rfl
   | some y => exact (hq y (List.mem_of_getLast? hg) e (by simp)).1
theorem Xp (l : List Ent) : Qz l = true ↔ l.Pairwise Ups ∧ ∀ x ∈ l, Good x := by
 have := J7 l [] (by simp);simpa [Qz] using this
theorem Zk1 (e : Ent) : ∀ l : List Ent, l.Pairwise Ups → (∀ x ∈ l, x.pair ≠ e.pair) → (Zbt e l).Pairwise Ups
 | [], _, _ => by simp [Zbt]
 | x :: l, hp, hne => by
  obtain ⟨h1, h2⟩ := List.pairwise_cons.1 hp;unfold Zbt;by_cases h : Y2 e x = true
  ·rw [if_pos h];refine List.pairwise_cons.2 ⟨fun y hy => ?_, hp⟩;rcases List.mem_cons.1 hy with rfl | hy
   ·exact ⟨h, fun e' => hne y (by simp) e'.symm⟩
   ·exact ⟨Jh h (h1 y hy).1, fun e' => hne y (by simp [hy]) e'.symm⟩
  ·rw [if_neg h];refine List.pairwise_cons.2 ⟨fun y hy => ?_, Zk1 e l h2 fun y hy => hne y (by simp [hy])⟩;rcases (Zdi e y l).1 hy with rfl | hy
   ·exact ⟨Zcy h fun e' => hne x (by simp) e'.symm, hne x (by simp)⟩
   ·exact h1 y hy
theorem J8 (h : Qz l = true) (he : Good e) (hne : ∀ x ∈ l, x.pair ≠ e.pair) : Qz (Xw e l) = true := by
 obtain ⟨h1, h2⟩ := (Xp l).1 h;rw [Xp, Jz];refine ⟨Zk1 e l h1 hne, fun x hx => ?_⟩;rcases (Zdi e x l).1 hx with rfl | hx
 ·exact he
 ·exact h2 x hx
def Zbc (l : List Ent) (key ver : Int) : Option Ent := l.find? fun x => decide (x.rc.key = key ∧ x.rc.ver = ver)
def Q2 (l : List Ent) (p : Int) : List Ent := l.filter fun x => decide (x.pair ≠ p)
def Jp (l : List Ent) (f : Nat) : Prop := (∀ n : Nat, n < f → ∃ x ∈ l, x.pair = (n : Int)) ∧ ∀ x ∈ l, x.pair ≠ (f : Int)
def Zob (l : List Ent) (pairs r : Int) : Prop := ∃ f : Nat, Jp l f ∧ ((f : Int) < pairs ∧ r = (f : Int) ∨ pairs ≤ (f : Int) ∧ r = -1)
theorem Zqp {f g : Nat} (h1 : Jp l f) (h2 : Jp l g) : f = g := by
 rcases Nat.lt_trichotomy f g with h | h | h
 ·obtain ⟨x, hx, hp⟩ := h2.1 f h;exact absurd hp (h1.2 x hx)
 ·exact h
 ·obtain ⟨x, hx, hp⟩ := h1.1 g h;exact absurd hp (h2.2 x hx)
theorem Zqx {key ver : Int} (h : ∀ x ∈ l, ¬ (x.rc.key = key ∧ x.rc.ver = ver)) : Zbc l key ver = none := by
 unfold Zbc;rw [List.find?_eq_none];exact fun x hx => by simpa using h x hx
theorem Vq (d : Dk) (x : Ent) : ∀ n, x ∈ Z3 d n ↔ ∃ p : Nat, p < n ∧ (d.tell (p : Int)).kind ≠ 1 ∧ x = ⟨d.tell (p : Int), (p : Int)⟩
 | 0 => by simp [Z3]
 | n + 1 => by
  have ih := Vq d x n;unfold Z3;by_cases h : (d.tell (n : Int)).kind = 1
  ·rw [if_pos h, ih];constructor
   ·rintro ⟨p, h1, h2⟩; exact ⟨p, by omega, h2⟩
   ·rintro ⟨p, h1, h2, h3⟩;refine ⟨p, ?_, h2, h3⟩;rcases Nat.lt_succ_iff_lt_or_eq.1 h1 with h4 | rfl
    ·exact h4
    ·exact absurd h h2
  ·rw [if_neg h, V6, ih];constructor
   ·rintro (rfl | ⟨p, h1, h2⟩)
    ·exact ⟨n, by omega, h, rfl⟩
    ·exact ⟨p, by omega, h2⟩
   ·rintro ⟨p, h1, h2, h3⟩;rcases Nat.lt_succ_iff_lt_or_eq.1 h1 with h4 | rfl
    ·exact .inr ⟨p, h4, h2, h3⟩
    ·exact .inl h3
theorem V3 (d : Dk) : ∀ n, n ≤ 1000 → Qz (Z3 d n) = true
 | 0, _ => rfl
 | n + 1, hn => by
  have ih := V3 d n (by omega);unfold Z3;split
  ·exact ih
  ·rename_i h;refine J8 ih ⟨Xt d _, h, by show (0 : Int) ≤ (n : Int); omega, by show (n : Int) ≤ 1000; omega⟩ fun x hx => ?_;obtain ⟨p, h1, _, rfl⟩ := (Vq d x n).1 hx;show (p : Int) ≠ (n : Int);omega
end Go.Proofs.YtpdnapbchcdhlacGreat
