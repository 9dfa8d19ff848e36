import Derived.Test.YtgaecpdokgklpacGreatRLook
import Derived.Test.YtgaecpdokgklpacGreatArg4
set_option maxHeartbeats 8000000
namespace Go.Proofs.YtgaecpdokgklpacGreat
set_option maxRecDepth 100000
open Go.RowKit
open Plain Reg
theorem Ztk (d : Dk) (p : Int) (ab al : Option Addr) (cb cl : Nat) (w : World) (hout : p < 0 ∨ ((d.blocks.length / 2 : Nat) : Int) ≤ p) (hlen : d.blocks.length ≤ 256) :
  Calls Tryz.prog 35 #[.agg #[.slice ab d.blocks.length cb, .slice al d.late.length cl], .int .i64 p] w fun e w' => e = .returned (.tuple #[.int .i64 4, .agg #[.int .i64 1, .int .i64 0, .int .i64 0, .slice none 0 0]]) ∧ Zn w w' := by
 have hq : (d.blocks.length : Int).tdiv 2 = ((d.blocks.length / 2 : Nat) : Int) := by rw [Int.tdiv_eq_ediv_of_nonneg (by omega)]; omega
 by_cases h0 : p < 0
 all_goals
  first | (have h1 : ((d.blocks.length / 2 : Nat) : Int) ≤ p := by omega) | skip
  clear hout;go_enter Tryz.func35, Tryz.ntmps35;go_wp2_with fail;refine (Zbv _).mono ?_;rintro e w1 ⟨rfl, g1⟩;have gw : Zn w w1 := ((Zp _ _ _).trans (Zb _ _)).trans g1;have hbZ : w1.heap[w.heap.size + 1]? = some (.cells #[.int .i64 0, .int .i64 0, .int .i64 0, .slice none 0 0] 61 (0, 0)) := by
   have h := Zg (w.alloc (.cells #[.slice ab d.blocks.length cb, .slice al d.late.length cl] 26)) #[.int .i64 0, .int .i64 0, .int .i64 0, .slice none 0 0] 61;rw [World.size_alloc] at h;exact (((Zb _ _).trans g1).block _ (by simp)).trans h
  clear g1;obtain ⟨y0, y1, y2, y3⟩ := Z5 hbZ rfl rfl rfl rfl;obtain ⟨f0, f1, f2, f3⟩ := Ys hbZ;have cs := Zr;have hp := (Yf hbZ (.int .i64 1) (.int .i64 0) (.int .i64 0) (.slice none 0 0)).2;go_wp2_with fail;refine bodyPost_ret (v := .tuple #[.int .i64 4, .agg #[.int .i64 1, .int .i64 0, .int .i64 0, .slice none 0 0]]) (by simp [results, Tryz.results35, go_sem, y0, y1, y2, y3, cs]) rfl ⟨rfl, ?_⟩;exact hp.grow gw (by omega)
theorem Zge (S : Nat → Prop) (d : Dk) (p : Int) (vb vl : Value) (w : World) (hb : Y2 S w vb d.blocks) (hl : Xo S w vl d.late) (hlen : d.blocks.length ≤ 256) (hm : d.late.length ≤ 999990) :
  Calls Tryz.prog 35 #[.agg #[vb, vl], .int .i64 p] w fun e w' => ∃ dv, e = .returned (.tuple #[.int .i64 (d.how p), .agg #[.int .i64 (d.tell p).kind, .int .i64 (d.tell p).key, .int .i64 (d.tell p).ver, dv]]) ∧ w'.ownsRow w.heap.size 5 1 dv (d.tell p).data.length ((d.tell p).data.map bv) ∧ Zn w w' := by
 obtain ⟨ab, cb, rfl⟩ := hb.p.form;obtain ⟨al, cl, rfl⟩ := hl.p.form;by_cases hout : p < 0 ∨ ((d.blocks.length / 2 : Nat) : Int) ≤ p
 ·have hn : d.noPair p = true := by unfold Dk.noPair; exact decide_eq_true hout
  have hh : d.how p = 4 := by unfold Dk.how; rw [if_pos hn]
  have ht : d.tell p = Rec.free := by unfold Dk.tell; rw [if_pos hn]
  rw [hh, ht];exact (Ztk d p ab al cb cl w hout hlen).mono fun e w' ⟨h1, h2⟩ => ⟨_, h1, ⟨rfl, .inl ⟨rfl, rfl⟩⟩, h2⟩
 ·exact Zvx S d p ab al cb cl w hb hl (by omega) (by omega) hlen hm
def Dk.mendD (d : Dk) (p : Int) : Dk := if 2 ≤ d.how p then d.pairD p (d.tell p) else d
theorem Ztd (S : Nat → Prop) (d : Dk) (p : Int) (vb vl : Value) (w : World) (hS : ∀ b, S b → b < w.heap.size) (hb : Y2 S w vb d.blocks) (hl : Xo S w vl d.late) (hlen : d.blocks.length ≤ 256) (hm : d.late.length ≤ 999990) :
  Calls Tryz.prog 31 #[.agg #[vb, vl], .int .i64 p] w fun e w' => ∃ vl', e = .returned (.tuple #[.agg #[vb, vl'], .int .i64 (d.how p)]) ∧ Xo (Zs S w.heap.size) w' vl' (d.mendD p).late ∧ Zn w w' := by
 obtain ⟨ab, cb, rfl⟩ := hb.p.form;obtain ⟨al, cl, rfl⟩ := hl.p.form;have HD : Hid (d.mendD p = if 2 ≤ d.how p then d.pairD p (d.tell p) else d) := rfl;go_enter Tryz.func31, Tryz.ntmps31;go_wp2_with fail;refine (Zge S d p _ _ _ (by exact hb.grow (Zp _ _ _)) (by exact hl.grow (Zp _ _ _)) hlen hm).mono ?_;rintro e w1 ⟨dv, rfl, ho, g1⟩;have gw : Zn w w1 := (Zp _ _ _).trans g1;have hbD : w1.heap[w.heap.size]? = some (.cells #[.slice ab d.blocks.length cb, .slice al d.late.length cl] 26 (0, 0)) :=
  (((Zb _ _).trans g1).block _ (by simp)).trans (Zg _ _ _)
 have hbZ : w1.heap[w.heap.size + 1]? = some (.cells #[.slice none 0 0, .slice none 0 0] 26 (0, 0)) := by
  have h := Zg (w.alloc (.cells #[.slice ab d.blocks.length cb, .slice al d.late.length cl] 26)) #[.slice none 0 0, .slice none 0 0] 26;rw [World.size_alloc] at h;exact (g1.block _ (by simp)).trans h
 obtain ⟨a1, c1, rfl⟩ := Ye ho;have hv := Ql ho;clear g1 ho;generalize d.tell p = r at *;have HW : Hid (d.how p = d.how p) := rfl;generalize hhow : d.how p = how at *;replace HW : Hid (d.how p = how) := hhow;clear hhow;obtain ⟨k, y, n, l⟩ := r;have g2 := Zb w1 (.cells #[.int .i64 k, .int .i64 y, .int .i64 n, .slice a1 l.length c1] 61);have hR2 := Zg w1 #[.int .i64 k, .int .i64 y, .int .i64 n, .slice a1 l.length c1] 61;have hD2 := (g2.block _ (Za hbD)).trans hbD;have hZ2 := (g2.block _ (Za hbZ)).trans hbZ;obtain ⟨x0, x1⟩ := Xb hD2 rfl rfl;obtain ⟨r0, r1, r2, r3⟩ := Z5 hR2 rfl rfl rfl rfl;have cs := Zr;have gw2 := gw.trans g2;have hv2 := Z2 hv g2;have hb2 := hb.grow gw2;have hl2 := hl.grow gw2;have hnZ : ¬ S (w.heap.size + 1) := fun h => by have := hS _ h; omega
 have hnD : ¬ S w.heap.size := fun h => by have := hS _ h; omega
 have hsz : w.heap.size + 1 < w1.heap.size := Za hbZ;clear hbD hbZ g2 hb hl gw hv hR2;by_cases h2 : 2 ≤ how
 ·have hD : d.mendD p = d.pairD p ⟨k, y, n, l⟩ := by rw [HD.out, if_pos h2]
  go_wp2_with fail;refine (Zer S d p k y n l _ _ _ _ (fun b h => by have := hS b h; simp; omega) hb2.p hl2 hv2 hlen hm).mono ?_;rintro e w3 ⟨vl', rfl, hl3, g3⟩;obtain ⟨al3, cl3, rfl⟩ := hl3.p.form;have hD3 := (g3.block _ (Za hD2)).trans hD2;have hZ3 := (g3.block _ (Za hZ2)).trans hZ2;have gw3 := gw2.trans g3;rw [World.size_alloc] at hl3;clear g3 x0 x1 r0 r1 r2 r3 hD2 hZ2 gw2 hb2 hl2 hv2;obtain ⟨x0, x1⟩ := Xb hD3 rfl rfl;have f0 := Zi hD3 0;have f1 := Zi hD3 1;obtain ⟨y0, y1⟩ := Xb hZ3 rfl rfl;have e0 := Zi hZ3 0;have e1 := Zi hZ3 1;obtain ⟨hp1, hp2⟩ := Xt hD3 (.slice ab d.blocks.length cb) (.slice al3 (d.pairD p ⟨k, y, n, l⟩).late.length cl3);have hZ4 := (hp2.block _ (Za hZ3) (by omega)).trans hZ3;obtain ⟨hq1, hq2⟩ := Xt hZ4 (.slice ab d.blocks.length cb) (.slice al3 (d.pairD p ⟨k, y, n, l⟩).late.length cl3);have gE := hq2.grow (hp2.grow gw3 (by omega)) (by omega);have hnD' : ¬ Zs S (w1.heap.size + 1) w.heap.size := fun h => h.elim hnD (fun h => by omega)
  have hnZ' : ¬ Zs S (w1.heap.size + 1) (w.heap.size + 1) := fun h => h.elim hnZ (fun h => by omega)
  have hlE := (hl3.but hp2 hnD').but hq2 hnZ';replace hlE := hlE.mono (Zx (B := w.heap.size) (by omega));clear hp1 hp2 hq1 hq2 hZ4 hZ3 hD3 hl3 gw3 HD h2;go_wp2_with fail;exact bodyPost_ret (v := .tuple #[.agg #[.slice ab d.blocks.length cb, .slice al3 (d.pairD p ⟨k, y, n, l⟩).late.length cl3], .int .i64 how]) (by simp [results, Tryz.results31, go_sem, cs, y0, y1]) rfl ⟨_, by rw [HW.out], by rw [hD]; exact hlE, gE⟩
 ·have hD : d.mendD p = d := by rw [HD.out, if_neg h2]
  obtain ⟨y0, y1⟩ := Xb hZ2 rfl rfl;have e0 := Zi hZ2 0;have e1 := Zi hZ2 1;obtain ⟨hq1, hq2⟩ := Xt hZ2 (.slice ab d.blocks.length cb) (.slice al d.late.length cl);have gE := hq2.grow gw2 (by omega);have hlE := (hl2.but hq2 hnZ).mono (V1 (B := w.heap.size));have h2' : how < 2 := by omega
  clear hq1 hq2 hZ2 hD2 hl2 gw2 hv2 hb2 h2 hsz;go_wp2_with fail;exact bodyPost_ret (v := .tuple #[.agg #[.slice ab d.blocks.length cb, .slice al d.late.length cl], .int .i64 how]) (by simp [results, Tryz.results31, go_sem, cs, y0, y1]) rfl ⟨_, by rw [HW.out], by rw [hD]; exact hlE, gE⟩
def Z4 (d : Dk) : Nat → List Ent
 | 0 => []
 | n + 1 => if (d.tell (n : Int)).kind = 1 then Z4 d n else Xx ⟨d.tell (n : Int), (n : Int)⟩ (Z4 d n)
theorem Zkz (e : Ent) (l : List Ent) : (Q9 e l).1.length = l.length + (if (Q9 e l).2 = true then 1 else 0) := by
 have key : ∀ (l : List Ent) (st : List Ent × Bool), (l.foldl (X1 e) st).1.length + (if st.2 = true then 1 else 0) = st.1.length + l.length + (if (l.foldl (X1 e) st).2 = true then 1 else 0) := by
  intro l
  induction l with
  | nil => rintro ⟨a, b⟩; cases b <;> simp
  | cons x l ih =>
   intro st;rw [List.foldl_cons, List.length_cons];have h1 := ih (X1 e st x);have h2 : (X1 e st x).1.length + (if st.2 = true then 1 else 0) = st.1.length + 1 + (if (X1 e st x).2 = true then 1 else 0) := by
    unfold X1;by_cases hc : st.2 = false ∧ Y4 e x = true
    ·rw [if_pos hc, hc.1]; simp
    ·rw [if_neg hc]; simp
   omega
 have := key l ([], false);unfold Q9;simpa using this
theorem Zhe (e : Ent) (l : List Ent) : (Xx e l).length = l.length + 1 := by
 have h := Zkz e l;unfold Xx;by_cases hd : (Q9 e l).2 = true
 ·rw [if_pos hd] at h ⊢; exact h
 ·rw [if_neg hd] at h ⊢; simp [h]
theorem Zhp (d : Dk) : ∀ n, (Z4 d n).length ≤ n
 | 0 => by simp [Z4]
 | n + 1 => by
  have ih := Zhp d n;unfold Z4;split
  ·omega
  ·rw [Zhe]; omega
theorem Zhs (S : Nat → Prop) (d : Dk) (vb vl : Value) (w : World) (hb : Y2 S w vb d.blocks) (hl : Xo S w vl d.late) (hlen : d.blocks.length ≤ 256) (hm : d.late.length ≤ 999990) :
  Calls Tryz.prog 24 #[.agg #[vb, vl]] w fun r w' => ∃ v', r = .returned v' ∧ Yu (Zs S w.heap.size) w' v' (Z4 d (d.blocks.length / 2)) ∧ Zn w w' := by
 obtain ⟨ab, cb, rfl⟩ := hb.p.form;obtain ⟨al, cl, rfl⟩ := hl.p.form;have g0 := Zb w (.cells #[.slice ab d.blocks.length cb, .slice al d.late.length cl] 26);have hD0 := Zg w #[.slice ab d.blocks.length cb, .slice al d.late.length cl] 26;have hq : (d.blocks.length : Int).tdiv 2 = ((d.blocks.length / 2 : Nat) : Int) := by rw [Int.tdiv_eq_ediv_of_nonneg (by omega)]; omega
 obtain ⟨N, hN⟩ : ∃ N, N = d.blocks.length / 2 := ⟨_, rfl⟩;rw [← hN] at hq ⊢;have hN2 : N ≤ 128 := by omega
 clear hN;go_enter Tryz.func24, Tryz.ntmps24;go_wp2_with fail;generalize World.alloc w _ = W at *;go_loopw [3, 11] (fun o i wr => ∃ k : Nat, k ≤ N ∧ i = .int .i64 k ∧ Yu (fun b => Zs S (w.heap.size + 1) b ∧ b < wr.heap.size) wr o (Z4 d k) ∧ Zn w wr ∧ wr.heap[w.heap.size]? = some (.cells #[.slice ab d.blocks.length cb, .slice al d.late.length cl] 26 (0, 0))) (fun _ i _ => N - (intOf i).toNat)
 case atStart => exact ⟨0, Nat.zero_le _, rfl, Z8.nil _ _ _, g0, hD0⟩
 case round =>
  clear g0 hD0;obtain ⟨k, hk, rfl, hO, hg, hD⟩ := hrel;by_cases hlt : k < N
  ·have hsc := Zhp d k;have HN : Hid (Z4 d (k + 1) = if (d.tell (k : Int)).kind = 1 then Z4 d k else Xx ⟨d.tell (k : Int), (k : Int)⟩ (Z4 d k)) := rfl;obtain ⟨a0, c0, rfl⟩ := hO.form;obtain ⟨x0, x1⟩ := Xb hD rfl rfl;go_wp2_with fail;refine (Zge _ d (k : Int) _ _ _ (hb.grow hg) (hl.grow hg) hlen hm).mono ?_;rintro e w1 ⟨dv, rfl, ho, g1⟩;obtain ⟨a1, c1, rfl⟩ := Ye ho;generalize d.tell (k : Int) = r at *;generalize d.how (k : Int) = how at *;have g2 := Zb w1 (.cells #[.int .i64 r.kind, .int .i64 r.key, .int .i64 r.ver, .slice a1 r.data.length c1] 61);have hR2 := Zg w1 #[.int .i64 r.kind, .int .i64 r.key, .int .i64 r.ver, .slice a1 r.data.length c1] 61;have hD2 := ((g1.trans g2).block _ (Za hD)).trans hD;have hwr : w.heap.size + 1 ≤ wr.heap.size := Za hD;have hB2 : Zz (fun b => Zs S (w.heap.size + 1) b ∧ b < w1.heap.size + 1) (w1.alloc (.cells #[.int .i64 r.kind, .int .i64 r.key, .int .i64 r.ver, .slice a1 r.data.length c1] 61)) (.slice a1 r.data.length c1) r.data := by
    have h := ((Zcm S (Ym ho hwr)).grow g2).caps;rw [World.size_alloc] at h;exact h
   have hO2 : Yu (fun b => Zs S (w.heap.size + 1) b ∧ b < w1.heap.size + 1) (w1.alloc (.cells #[.int .i64 r.kind, .int .i64 r.key, .int .i64 r.ver, .slice a1 r.data.length c1] 61)) (.slice a0 (Z4 d k).length c0) (Z4 d k) := (hO.grow (g1.trans g2)).mono fun b h => ⟨h.1, by have := g1.size; omega⟩
   have gw2 := hg.trans (g1.trans g2);obtain ⟨r0, r1, r2, r3⟩ := Z5 hR2 rfl rfl rfl rfl;have HSZ : Hid (w.heap.size + 1 ≤ w1.heap.size) := Nat.le_trans hwr g1.size;clear x0 x1 hO hg hD g1 g2 ho hR2 hwr;by_cases hk1 : r.kind = 1
   ·have HN2 : Hid (Z4 d (k + 1) = Z4 d k) := by show _ = _; rw [HN.out, if_pos hk1]
    have d1 : (r.kind != 1) = false := by simp [hk1]
    clear hk1 HN;have hsz := World.size_alloc w1 (.cells #[.int .i64 r.kind, .int .i64 r.key, .int .i64 r.ver, .slice a1 r.data.length c1] 61);have hO3 := hO2.mono (S' := fun b => Zs S (w.heap.size + 1) b ∧ b < (w1.alloc (.cells #[.int .i64 r.kind, .int .i64 r.key, .int .i64 r.ver, .slice a1 r.data.length c1] 61)).heap.size) (fun b h => ⟨h.1, by rw [hsz]; exact h.2⟩);clear hO2 hB2 hsz;go_wp2_with fail;go_roundw
    case rel => exact ⟨k + 1, by omega, by go_num, by rw [HN2.out]; exact hO3, gw2, hD2⟩
    case measure => simp [intOf]; omega
   ·have HN2 : Hid (Z4 d (k + 1) = Xx ⟨r, (k : Int)⟩ (Z4 d k)) := by show _ = _; rw [HN.out, if_neg hk1]
    have d1 : (r.kind != 1) = true := by simp [hk1]
    clear hk1 HN;go_wp2_with fail;refine (Zep _ (Z4 d k) ⟨r, (k : Int)⟩ _ a1 c1 _ (fun b h => by rw [World.size_alloc]; exact h.2) hO2 hB2 (by omega)).mono ?_;rintro e w3 ⟨v3, rfl, hO3, g3⟩;rw [← HN2.out] at hO3;have hO4 : Yu (fun b => Zs S (w.heap.size + 1) b ∧ b < w3.heap.size) w3 v3 (Z4 d (k + 1)) := (hO3.caps (by decide)).mono fun b h => ⟨h.1.elim (fun x => x.1) (fun x => .inr (by have := HSZ.out; rw [World.size_alloc] at x; omega)), h.2⟩
    have hD3 := (g3.block _ (Za hD2)).trans hD2;have gw3 := gw2.trans g3;clear hO2 hO3 hB2 hD2 gw2 g3 r0 r1 r2 r3;go_wp2_with fail;go_roundw
    case rel => exact ⟨k + 1, by omega, by go_num, hO4, gw3, hD3⟩
    case measure => simp [intOf]; omega
  ·have hk' : k = N := by omega
   subst hk';have hfin := hO.mono (S' := Zs S w.heap.size) (fun b h => Zx (B := w.heap.size) (by omega) b h.1);obtain ⟨a0, c0, rfl⟩ := hO.form;clear hO;go_wp2_with fail;go_ret;exact ⟨_, rfl, hfin, hg⟩
def Zbs (pre : List Ent) (e : Ent) : Bool := match pre.getLast? with | none => true | some x => Y4 x e
def okE (pre : List Ent) (e : Ent) : Bool := decide (Ya e.rc = 0 ∧ e.rc.kind ≠ 1 ∧ 0 ≤ e.pair ∧ e.pair ≤ 1000) && Zbs pre e && pre.all (fun x => decide (x.pair ≠ e.pair))
def Zah (pre : List Ent) : List Ent → Bool
 | [] => true
 | e :: l => okE pre e && Zah (pre ++ [e]) l
def Qz (l : List Ent) : Bool := Zah [] l
theorem Zi1 (c : UInt8) : lo (c.toNat : Int) = c := by
 refine UInt8.toNat_inj.1 ?_;have := Kl (c.toNat : Int);have hc : c.toNat < 256 := UInt8.toNat_lt _;omega
theorem Zan (n : Int) (h0 : 0 ≤ n) (h1 : n ≤ 255) : ((lo n).toNat : Int) = n := by rw [Kl]; omega
theorem Zwv (x y : UInt8) : hi ((x.toNat : Int) * 256 + (y.toNat : Int)) = x := by
 have hx : x.toNat < 256 := UInt8.toNat_lt _;have hy : y.toNat < 256 := UInt8.toNat_lt _;exact ((Zct x y _ (by omega) (by omega)).1 rfl).1
theorem Zwu (x y : UInt8) : lo ((x.toNat : Int) * 256 + (y.toNat : Int)) = y := by
 have hx : x.toNat < 256 := UInt8.toNat_lt _;have hy : y.toNat < 256 := UInt8.toNat_lt _;exact ((Zct x y _ (by omega) (by omega)).1 rfl).2
theorem Zwf (r : Rec) (a : Int) : at' (blk r a) 0 = lo r.kind := rfl
theorem Zwe (r : Rec) (a : Int) : at' (blk r a) 1 = lo a := rfl
theorem Zwd (r : Rec) (a : Int) : at' (blk r a) 2 = lo r.key := rfl
theorem Zwc (r : Rec) (a : Int) : at' (blk r a) 3 = hi r.ver := rfl
theorem Zwb (r : Rec) (a : Int) : at' (blk r a) 4 = lo r.ver := rfl
theorem Zjd (r : Rec) (a : Int) : at' (blk r a) 5 = lo (r.data.length : Int) := rfl
theorem Zll (r : Rec) (a : Int) : (blk r a).drop 6 = r.data ++ (List.replicate (8 - r.data.length) 0 ++ [hi (Xd (Zau r a)), lo (Xd (Zau r a))]) := by
 show (r.data ++ List.replicate (8 - r.data.length) 0) ++ _ = _;rw [List.append_assoc]
theorem Zor (r : Rec) (a : Int) (h : Ya r = 0) : Yy (blk r a) = r := by
 obtain ⟨k0, k1, y0, y1, n0, n1, hl⟩ := Vp h;unfold Yy;rw [Zwf, Zwd, Zwc, Zwb, Zjd, Zll];have e1 := Zan r.kind (by omega) (by omega);have e2 := Zan r.key (by omega) (by omega);have e3 := Zan (r.data.length : Int) (by omega) (by omega);have e4 : ((hi r.ver).toNat : Int) * 256 + ((lo r.ver).toNat : Int) = r.ver := by rw [Zgo, Kl]; omega
 have e5 : (lo (r.data.length : Int)).toNat = r.data.length := by omega
 rw [e1, e2, e4, e5, List.take_left' rfl]
theorem Zsi (r : Rec) (a : Int) (h : Ya r = 0) : Y9 (Ve (blk r a)) = true := by
 obtain ⟨k0, k1, y0, y1, n0, n1, hl⟩ := Vp h;have e3 := Zan (r.data.length : Int) (by omega) (by omega);have e5 : (lo (r.data.length : Int)).toNat = r.data.length := by omega
 unfold Ve;rw [Zjd, e5, ← List.drop_drop, Zll, List.drop_left' rfl, List.take_left' (by simp)];unfold Y9;rw [List.all_eq_true];intro c hc;simp [List.eq_of_mem_replicate hc]
theorem Zl8 (r : Rec) (a : Int) (h : Ya r = 0) (h0 : 0 ≤ a) (h1 : a ≤ 255) : spoilt (blk r a) a = 0 := by
 obtain ⟨k0, k1, y0, y1, n0, n1, hl⟩ := Vp h;have e1 := Zan a h0 h1;have e3 := Zan (r.data.length : Int) (by omega) (by omega);unfold spoilt;rw [if_neg (by rw [Qn r a hl]; simp), if_neg (by unfold blk; rw [Zfq]; simp), if_neg (by rw [Zwe, e1]; simp), if_neg (by rw [Zjd]; omega), if_neg (by rw [Zsi r a h]; simp)]
theorem Zkc (r : Rec) (a : Int) (h : Ya r = 0) (h0 : 0 ≤ a) (h1 : a ≤ 255) : X4 (blk r a) a = 0 ∧ Y5 (blk r a) a = r := by
 have e : X4 (blk r a) a = 0 := by unfold X4; rw [if_pos (Zl8 r a h h0 h1), Zor r a h]; exact h
 refine ⟨e, ?_⟩;unfold Y5;rw [if_pos e, Zor r a h]
theorem Zmt {b : List UInt8} {a : Int} (h : X4 b a = 0) : spoilt b a = 0 ∧ Ya (Yy b) = 0 ∧ Y5 b a = Yy b := by
 have hr : Y5 b a = Yy b := by unfold Y5; rw [if_pos h]
 unfold X4 at h;by_cases hs : spoilt b a = 0
 ·rw [if_pos hs] at h; exact ⟨hs, h, hr⟩
 ·rw [if_neg hs] at h; exact absurd h hs
theorem Zwx (b : List UInt8) (a : Int) (hs : spoilt b a = 0) : b.take 14 = Zau (Yy b) a := by
 obtain ⟨hl, hsl, hp, h8, hn⟩ := Jv hs;have hlen : ((b.drop 6).take (at' b 5).toNat).length = (at' b 5).toNat := by simp; omega
 have hz : Ve b = List.replicate (8 - (at' b 5).toNat) 0 := by
  refine List.eq_replicate_iff.2 ⟨by unfold Ve; simp; omega, fun c hc => ?_⟩;unfold Y9 at hn;have := (List.all_eq_true.1 hn) c hc;simpa using this
 unfold Zau Yy;simp only [];rw [hlen, Zi1, Zi1, Zwv, Zwu, Zi1, ← hp, Zi1, ← hz];have e : b.take 14 = [at' b 0, at' b 1, at' b 2, at' b 3, at' b 4, at' b 5] ++ (b.drop 6).take 8 := by
  match b, hl with
  | [x0, x1, x2, x3, x4, x5, x6, x7, x8, x9, x10, x11, x12, x13, x14, x15], _ => rfl
 rw [e]
 congr 1
 unfold Ve;rw [← List.drop_drop, ← List.take_add]
 congr 1
 omega
theorem Zg2 (b : List UInt8) (a : Int) (h : X4 b a = 0) : Ya (Y5 b a) = 0 ∧ blk (Y5 b a) a = b := by
 obtain ⟨hs, hw, hr⟩ := Zmt h;obtain ⟨hl, hsl, -, -, -⟩ := Jv hs;rw [hr];refine ⟨hw, ?_⟩;unfold blk;rw [← Zwx b a hs];have := Zfr b (by omega);rw [hsl, hl] at this;exact beq_iff_eq.1 this
theorem Zkb (r : Rec) (a : Int) (n : Nat) (c : UInt8) (h : Ya r = 0) (hn : n < (blk r a).length) (hne : (blk r a)[n] ≠ c) : X4 ((blk r a).set n c) a = 7 := by
 obtain ⟨k0, k1, y0, y1, n0, n1, hl⟩ := Vp h;have e : spoilt ((blk r a).set n c) a = 7 := by
  have hse : Xk ((blk r a).set n c) = false := Zjw (Zau r a) n c hn hne;unfold spoilt;rw [if_neg (by rw [List.length_set, Qn r a hl]; simp), if_pos hse]
 unfold X4;rw [e]; rfl
end Go.Proofs.YtgaecpdokgklpacGreat
