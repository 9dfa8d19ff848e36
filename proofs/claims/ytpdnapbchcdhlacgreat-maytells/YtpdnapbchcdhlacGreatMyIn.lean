import Derived.Test.YtpdnapbchcdhlacGreatRPlay
import Derived.Test.YtpdnapbchcdhlacGreatPairP
import Derived.Lib.AppendZeros
set_option maxHeartbeats 8000000
namespace Go.Proofs.YtpdnapbchcdhlacGreat
set_option maxRecDepth 100000
open Go.RowKit
open Plain Reg
variable {d : Dd} {l : List Rec} {x : Sp}
def Zhv (l : List Rec) (d : Dd) : List Rec := if Yl d = 0 then (doR l d).l else l
def Zhu (l : List Rec) (d : Dd) : Int := if Yl d = 0 then (doR l d).e else Yl d
theorem Zx1 (h : (doR l d).e ≠ 0) : (doR l d).l = l := by
 unfold doR at h ⊢;by_cases hk : d.kind = 3
 ·rw [if_pos hk] at h ⊢;cases hf : l.findIdx? (Q5 d) with
  | none => rfl
  | some i => rw [hf] at h; exact absurd rfl h
 ·rw [if_neg hk] at h ⊢;by_cases h5 : 5 < l.length
  ·rw [if_pos h5]
  ·rw [if_neg h5] at h ⊢;by_cases hn : 60000 < Xt l
   ·rw [if_pos hn]
   ·rw [if_neg hn] at h; exact absurd rfl h
theorem Ziv : Zhu l d = 0 ↔ Yl d = 0 ∧ (doR l d).e = 0 := by
 unfold Zhu;by_cases h : Yl d = 0
 ·rw [if_pos h]; exact ⟨fun h2 => ⟨h, h2⟩, fun h2 => h2.2⟩
 ·rw [if_neg h]; exact ⟨fun h2 => absurd h2 h, fun h2 => absurd h2.1 h⟩
theorem Ziw (h : x.goes l) : Zhv l x.deed = (doR l x.deed).l := by unfold Zhv; rw [if_pos h.2.1]
theorem Zr1 (hk : x.kind = 1) : Qj l x = [Zhv l x.deed] := by
 by_cases h : x.goes l
 ·rw [Zbg h hk, Ziw h]
 ·rw [Km h];unfold Zhv;split
  ·rename_i hw;rw [Zx1 fun he => h ⟨.inl hk, hw, he⟩]
  ·rfl
theorem Zr0 (hk : x.kind = 2) (he : Zhu l x.deed = 0) : Qj l x = [l, Zhv l x.deed] := by
 have h : x.goes l := ⟨.inr hk, Ziv.1 he⟩;rw [Zbf h (by omega), Ziw h]
theorem Ze9 (h : x.kind = 2 → Zhu l x.deed ≠ 0) (h1 : x.kind ≠ 1) : Qj l x = [l] :=
 Km fun hg => h (hg.1.resolve_left h1) (Ziv.2 hg.2)
theorem Zlx (S : Nat → Prop) (l : List Rec) (d : Dd) (v : Value) (a : Option Addr) (c : Nat) (w : World) (hS : ∀ b, S b → b < w.heap.size) (hr : Q3 l = true) (hl : Y2 S w v l) (hd : Z2 S w (.slice a d.data.length c) d.data) (hdl : d.data.length ≤ 140737488355328) :
  Calls Tryz.prog 65 #[v, .agg #[.int .i64 d.kind, .int .i64 d.key, .int .i64 d.num, .slice a d.data.length c]] w fun r w' => ∃ v' n, r = .returned (.tuple #[v', .int .i64 n, .int .i64 (Zhu l d)]) ∧ Y2 (Zt S w.heap.size) w' v' (Zhv l d) ∧ Zn w w' := by
 unfold Zhu Zhv;by_cases h : Yl d = 0
 ·rw [if_pos h, if_pos h];exact (Zz8 S l d v a c w hS hr h hl hd).mono fun r w' ⟨v', h1, h2, h3⟩ => ⟨v', _, h1, h2, h3⟩
 ·rw [if_neg h, if_neg h];exact (Ziu S l d v a c w hr h hdl hl hd.p).mono fun r w' ⟨v', h1, h2, h3⟩ => ⟨v', _, h1, h2, h3⟩
theorem Zuh : Zmx := by
 intro S l x v ad c w hS hr hl hd hdl;obtain ⟨ao, cp, rfl⟩ := Zs.form hl;have gw := Zb w (.cells #[.int .i64 x.kind, .int .i64 x.n, .int .i64 x.m, .int .i64 x.deed.kind, .int .i64 x.deed.key, .int .i64 x.deed.num, .slice ad x.deed.data.length c] 49);have hX := Zh w #[.int .i64 x.kind, .int .i64 x.n, .int .i64 x.m, .int .i64 x.deed.kind, .int .i64 x.deed.key, .int .i64 x.deed.num, .slice ad x.deed.data.length c] 49;have hlw := Zs.grow hl gw;have hdw := hd.grow gw;have HLN : Hid _ := Kc hr;have HRT : Hid (Q3 l = true) := hr;obtain ⟨R, hR⟩ : ∃ R, R = Qj l x := ⟨_, rfl⟩;rw [← hR];have HR : Hid _ := hR;clear hR hr hl hd;go_enter Tryz.func33, Tryz.ntmps33;go_upto_region 1 with fail
 generalize World.alloc w _ = W at *;have p0 := Zc hX 0 _ rfl;have p3 := Zc hX 3 _ rfl;have p4 := Zc hX 4 _ rfl;have p5 := Zc hX 5 _ rfl;have p6 := Zc hX 6 _ rfl;by_cases k1 : x.kind = 1
 ·have d1 : (x.kind == 1) = true := by simp [k1]
  have HL : Hid _ := Zr1 (l := l) k1;clear k1;go_wp2_with fail;refine (Zlx S l x.deed _ ad c W (fun b h => Nat.lt_of_lt_of_le (hS b h) gw.size) HRT.out hlw hdw hdl).mono ?_;generalize Zhu l x.deed = E at *;generalize Zhv l x.deed = D at *;obtain rfl : R = [D] := HR.out.trans HL.out;rintro r w1 ⟨v1, n1, rfl, h1, g1⟩;obtain ⟨a1, c1, rfl⟩ := Zs.form h1;have g2 := Zb w1 (.cells #[.slice a1 D.length c1] 58);have hM := Zh w1 #[.slice a1 D.length c1] 58;have hE := Kk (S := Zt S w.heap.size) (.inr (Nat.le_trans gw.size g1.size)) (Nat.le_refl _) (Zc hM 0 _ rfl) ((Zs.grow h1 g2).mono (Z0 (B := w.heap.size) gw.size));have gE := gw.trans (g1.trans g2);clear hM h1 g2 g1 gw hlw hX hdw HR HL p0 p3 p4 p5 p6;go_wp2_with fail;go_ret;exact ⟨_, rfl, hE, gE⟩
 ·have d1 : (x.kind == 1) = false := by simp [k1]
  by_cases k2 : x.kind = 2
  ·have d2 : (x.kind == 2) = true := by simp [k2]
   have HL : Hid (Zhu l x.deed = 0 → Qj l x = [l, Zhv l x.deed]) := Zr0 k2;have HA : Hid (Zhu l x.deed ≠ 0 → Qj l x = [l]) := fun h => Ze9 (fun _ => h) k1
   clear k1 k2;go_wp2_with fail;refine (Zlx S l x.deed _ ad c W (fun b h => Nat.lt_of_lt_of_le (hS b h) gw.size) HRT.out hlw hdw hdl).mono ?_;generalize Zhu l x.deed = E at *;generalize Zhv l x.deed = D at *;rintro r w1 ⟨v1, n1, rfl, h1, g1⟩;obtain ⟨a1, c1, rfl⟩ := Zs.form h1;replace hlw := Zs.grow hlw g1;have gW := gw;replace gw := gw.trans g1;clear hX hdw p0 p3 p4 p5 p6;by_cases he : E = 0
   ·have d3 : (E == 0) = true := by simp [he]
    obtain rfl : R = [l, D] := HR.out.trans (HL.out he);clear he HR HL HA;go_wp2_with fail;refine (Kl S l _ _ hlw (by have := HLN.out.1; omega) (fun x hx => (HLN.out.2 x hx).2.2)).mono ?_;rintro r w3 ⟨v3, css, rfl, ho, g3⟩;have hn3 := ho.recs S;obtain ⟨a3, c3, rfl⟩ := Zs.form hn3;have g4 := Zb w3 (.cells #[.slice a3 l.length c3, .slice a1 D.length c1] 58);have hM := Zh w3 #[.slice a3 l.length c3, .slice a1 D.length c1] 58;have hE := Zh9 (S := Zt S w.heap.size) (.inr (Nat.le_trans gw.size g3.size)) (Nat.le_refl _) (Zc hM 0 _ rfl) (Zc hM 1 _ rfl) ((Zs.grow hn3 g4).mono (Z0 (B := w.heap.size) gw.size)) ((Zs.grow h1 (g3.trans g4)).mono (Z0 (B := w.heap.size) gW.size));have gE := gw.trans (g3.trans g4);clear hM hn3 h1 g4 g3 gw hlw ho gW g1;go_wp2_with fail;go_ret;exact ⟨_, rfl, hE, gE⟩
   ·have d3 : (E == 0) = false := by simp [he]
    obtain rfl : R = [l] := HR.out.trans (HA.out he);have hX := trivial;have hdw := trivial;clear he HR HL HA h1 g1 gW;go_wp2_with fail;refine (Kl S l _ _ hlw (by have := HLN.out.1; omega) (fun x hx => (HLN.out.2 x hx).2.2)).mono ?_;rintro r w3 ⟨v3, css, rfl, ho, g3⟩;have hn3 := ho.recs S;obtain ⟨a3, c3, rfl⟩ := Zs.form hn3;have g4 := Zb w3 (.cells #[.slice a3 l.length c3] 58);have hM := Zh w3 #[.slice a3 l.length c3] 58;have hE := Kk (S := Zt S w.heap.size) (.inr (Nat.le_trans gw.size g3.size)) (Nat.le_refl _) (Zc hM 0 _ rfl) ((Zs.grow hn3 g4).mono (Z0 (B := w.heap.size) gw.size));have gE := gw.trans (g3.trans g4);clear hM hn3 g4 g3 gw hlw hX ho hdw;go_wp2_with fail;go_ret;exact ⟨_, rfl, hE, gE⟩
  ·have d2 : (x.kind == 2) = false := by simp [k2]
   obtain rfl : R = [l] := HR.out.trans (Ze9 (fun h => absurd h k2) k1);clear k1 k2 HR p3 p4 p5 p6;go_wp2_with fail;refine (Kl S l _ _ hlw (by have := HLN.out.1; omega) (fun x hx => (HLN.out.2 x hx).2.2)).mono ?_;rintro r w3 ⟨v3, css, rfl, ho, g3⟩;have hn3 := ho.recs S;obtain ⟨a3, c3, rfl⟩ := Zs.form hn3;have g4 := Zb w3 (.cells #[.slice a3 l.length c3] 58);have hM := Zh w3 #[.slice a3 l.length c3] 58;have hE := Kk (S := Zt S w.heap.size) (.inr (Nat.le_trans gw.size g3.size)) (Nat.le_refl _) (Zc hM 0 _ rfl) ((Zs.grow hn3 g4).mono (Z0 (B := w.heap.size) gw.size));have gE := gw.trans (g3.trans g4);clear hM hn3 g4 g3 gw hlw hX ho hdw;go_wp2_with fail;go_ret;exact ⟨_, rfl, hE, gE⟩
theorem Zp7 : Zjd := by
 intro S s x v ad c w hS hs hd hA hdl;obtain ⟨ab, cb, al, cl, ai, ci, rfl, hb, hl, -⟩ := hs.form;have g0 := Zq w (.cells #[.slice ab s.dk.blocks.length cb, .slice al s.dk.late.length cl, .slice ai s.idx.length ci, .int .i64 s.next] 29) (.cells #[.int .i64 x.kind, .int .i64 x.n, .int .i64 x.m, .int .i64 x.deed.kind, .int .i64 x.deed.key, .int .i64 x.deed.num, .slice ad x.deed.data.length c] 49);have hs0 := Zh w #[.slice ab s.dk.blocks.length cb, .slice al s.dk.late.length cl, .slice ai s.idx.length ci, .int .i64 s.next] 29;have hx := Zh (w.alloc (.cells #[.slice ab s.dk.blocks.length cb, .slice al s.dk.late.length cl, .slice ai s.idx.length ci, .int .i64 s.next] 29)) #[.int .i64 x.kind, .int .i64 x.n, .int .i64 x.m, .int .i64 x.deed.kind, .int .i64 x.deed.key, .int .i64 x.deed.num, .slice ad x.deed.data.length c] 49;have hss := ((Zb (w.alloc (.cells #[.slice ab s.dk.blocks.length cb, .slice al s.dk.late.length cl, .slice ai s.idx.length ci, .int .i64 s.next] 29)) (.cells #[.int .i64 x.kind, .int .i64 x.n, .int .i64 x.m, .int .i64 x.deed.kind, .int .i64 x.deed.key, .int .i64 x.deed.num, .slice ad x.deed.data.length c] 49)).block _ (Za hs0)).trans hs0;rw [World.size_alloc] at hx;have HF : Hid (s.dk.Fine 900) := hA.ok.disk.mono (by omega);clear hs0 hs hS hd hA hdl;obtain ⟨R, hR⟩ : ∃ R, R = Xd s x := ⟨_, rfl⟩;rw [← hR];have HR : Hid _ := hR;clear hR;obtain ⟨x0, x1⟩ := Y9 hx rfl rfl;obtain ⟨s0, s1⟩ := Y9 hss rfl rfl;by_cases h3 : x.kind = 3
 ·have d3 : (x.kind != 3) = false := by simp [h3]
  by_cases h0 : x.n < 0
  ·obtain rfl : R = true := by rw [HR.out]; unfold Xd; rw [if_pos (.inr (.inl h0))]
   clear HR h3;go_enter Tryz.func29, Tryz.ntmps29;go_wp2_with fail;go_ret;exact ⟨rfl, g0⟩
  ·by_cases h1 : 192 ≤ x.n
   ·obtain rfl : R = true := by rw [HR.out]; unfold Xd; rw [if_pos (.inr (.inr h1))]
    clear HR h3;go_enter Tryz.func29, Tryz.ntmps29;go_wp2_with fail;go_ret;exact ⟨rfl, g0⟩
   ·have hq : x.n.tdiv 32 = x.n / 32 := Int.tdiv_eq_ediv_of_nonneg (by omega);have HG : Hid (R = decide (s.dk.how (x.n / 32) < 2)) := by show _ = _; rw [HR.out]; unfold Xd; rw [if_neg (by omega)]
    have HH : Hid (0 ≤ s.dk.how (x.n / 32)) := (Zl6 s.dk (x.n / 32)).1;clear HR h3;go_enter Tryz.func29, Tryz.ntmps29;go_wp2_with fail;generalize World.alloc (World.alloc w _) _ = W at *;refine (Zyi s.dk (x.n / 32) _ W HF.out ⟨_, _, rfl, hb.p.grow g0, hl.p.grow g0⟩).mono ?_;rintro r w1 ⟨dv, rfl, ho, g1⟩;obtain ⟨a1, c1, rfl⟩ := Ya ho;have gE := (g0.trans g1).trans (Zb w1 (.cells #[.int .i64 (s.dk.tell (x.n / 32)).kind, .int .i64 (s.dk.tell (x.n / 32)).key, .int .i64 (s.dk.tell (x.n / 32)).ver, .slice a1 (s.dk.tell (x.n / 32)).data.length c1] 61));generalize s.dk.how (x.n / 32) = H at *;clear ho g1 g0 hx hss x0 x1 s0 s1 hb hl hq h0 h1;by_cases e0 : H = 0
    ·have q0 : (H == 0) = true := by simp [e0]
     obtain rfl : R = true := by rw [HG.out, e0]; rfl
     clear HG HH e0;go_wp2_with fail;go_ret;exact ⟨rfl, gE⟩
    ·have q0 : (H == 0) = false := by simp [e0]
     by_cases e1 : H = 1
     ·have q1 : (H == 1) = true := by simp [e1]
      obtain rfl : R = true := by rw [HG.out, e1]; rfl
      clear HG HH e0 e1;go_wp2_with fail;go_ret;exact ⟨rfl, gE⟩
     ·have q1 : (H == 1) = false := by simp [e1]
      obtain rfl : R = false := by rw [HG.out]; exact decide_eq_false (by have := HH.out; omega)
      clear HG HH e0 e1;go_wp2_with fail;go_ret;exact ⟨rfl, gE⟩
 ·have d3 : (x.kind != 3) = true := by simp [h3]
  obtain rfl : R = true := by rw [HR.out]; unfold Xd; rw [if_pos (.inl h3)]
  clear HR h3;go_enter Tryz.func29, Tryz.ntmps29;go_wp2_with fail;go_ret;exact ⟨rfl, g0⟩
def Z0i : Prop := ∀ (S : Nat → Prop) (s : St) (x : Sp) (v : Value) (ad : Option Addr) (c : Nat) (w : World), (∀ b, S b → b < w.heap.size) → Z8 S s v w → Z2 S w (.slice ad x.deed.data.length c) x.deed.data → s.At → x.deed.data.length ≤ 140737488355328 →
 Calls Tryz.prog 20 #[v, .agg #[.int .i64 x.kind, .int .i64 x.n, .int .i64 x.m, .int .i64 x.deed.kind, .int .i64 x.deed.key, .int .i64 x.deed.num, .slice ad x.deed.data.length c]] w fun r w' => ∃ v', r = .returned (.tuple #[v', .int .i64 (s.step x).n, .int .i64 (s.step x).e]) ∧ Z8 (Zt S w.heap.size) (s.step x).st v' w' ∧ Zn w w'
def Vt (x y : Int) : Int := if x < y then -1 else if y < x then 1 else 0
def Zel (x y : Ent) : Int := if Vt x.rc.key y.rc.key ≠ 0 then Vt x.rc.key y.rc.key else if Vt x.rc.ver y.rc.ver ≠ 0 then Vt x.rc.ver y.rc.ver else Vt x.pair y.pair
theorem Zac (x y : Int) : Vt x y = 0 ↔ x = y := by unfold Vt; split <;> (try split) <;> omega
theorem Zka (x y : Int) : Vt x y < 0 ↔ x < y := by unfold Vt; split <;> (try split) <;> omega
theorem Zkb (x y : Int) : 0 < Vt x y ↔ y < x := by unfold Vt; split <;> (try split) <;> omega
theorem Zp8 (x y : Ent) : (decide (Zel x y < 0)) = Y3 x y := by
 rw [Bool.eq_iff_iff, decide_eq_true_eq];unfold Zel Y3;by_cases hk : x.rc.key = y.rc.key
 ·rw [if_neg (by simpa using (Zac _ _).2 hk), if_pos hk];by_cases hv : x.rc.ver = y.rc.ver
  ·rw [if_neg (by simpa using (Zac _ _).2 hv), if_pos hv, Zka, decide_eq_true_eq]
  ·rw [if_pos (fun h => hv ((Zac _ _).1 h)), if_neg hv, Zka, decide_eq_true_eq]
 ·rw [if_pos (fun h => hk ((Zac _ _).1 h)), if_neg hk, Zka, decide_eq_true_eq]
theorem Zxi (x y : Ent) : (decide (0 < Zel x y)) = Y3 y x := by
 rw [Bool.eq_iff_iff, decide_eq_true_eq];unfold Zel Y3;by_cases hk : x.rc.key = y.rc.key
 ·rw [if_neg (by simpa using (Zac _ _).2 hk), if_pos hk.symm];by_cases hv : x.rc.ver = y.rc.ver
  ·rw [if_neg (by simpa using (Zac _ _).2 hv), if_pos hv.symm, Zkb, decide_eq_true_eq]
  ·rw [if_pos (fun h => hv ((Zac _ _).1 h)), if_neg (fun h => hv h.symm), Zkb, decide_eq_true_eq]
 ·rw [if_pos (fun h => hk ((Zac _ _).1 h)), if_neg (fun h => hk h.symm), Zkb, decide_eq_true_eq]
theorem Zqq {P : Program} {w w' : World} {R : Value → World → Prop} {o : Oper} {ev : Operand → Value} {v : Value} (h : (execOp ev o).run P w = .ok (.value v) w') (hg : Zn w w') (hv : R v w') : upon P w R ((execOp ev o).run P w) := by
 rw [h]; exact ⟨hg, hv⟩
theorem Zcq (x : Int) (w : World) : Calls Tryz.prog 150 #[.int .i64 x] w fun e w' => e = .returned (.bool false) ∧ w' = w := by
 have d0 : (x != x) = false := by simp
 go_enter Tryz.func150, Tryz.ntmps150;go_wp2_with fail;go_ret;exact ⟨rfl, rfl⟩
theorem Zj9 (x y : Int) (w : World) : Calls Tryz.prog 113 #[.int .i64 x, .int .i64 y] w fun e w' => e = .returned (.int .i64 (Vt x y)) ∧ w' = w := by
 by_cases h1 : x < y
 ·have HC : Hid (Vt x y = -1) := by show _ = _; unfold Vt; rw [if_pos h1]
  rw [HC.out];go_enter Tryz.func113, Tryz.ntmps113;go_wp2_with fail;refine (Zcq _ _).mono ?_;rintro e w1 ⟨rfl, rfl⟩;go_wp2_with fail;refine (Zcq _ _).mono ?_;rintro e w1 ⟨rfl, rfl⟩;go_wp2_with fail;go_ret;exact ⟨rfl, rfl⟩
 ·by_cases h2 : y < x
  ·have HC : Hid (Vt x y = 1) := by show _ = _; unfold Vt; rw [if_neg h1, if_pos h2]
   rw [HC.out];go_enter Tryz.func113, Tryz.ntmps113;go_wp2_with fail;refine (Zcq _ _).mono ?_;rintro e w1 ⟨rfl, rfl⟩;go_wp2_with fail;refine (Zcq _ _).mono ?_;rintro e w1 ⟨rfl, rfl⟩;go_wp2_with fail;go_ret;exact ⟨rfl, rfl⟩
  ·have HC : Hid (Vt x y = 0) := by show _ = _; unfold Vt; rw [if_neg h1, if_neg h2]
   rw [HC.out];go_enter Tryz.func113, Tryz.ntmps113;go_wp2_with fail;refine (Zcq _ _).mono ?_;rintro e w1 ⟨rfl, rfl⟩;go_wp2_with fail;refine (Zcq _ _).mono ?_;rintro e w1 ⟨rfl, rfl⟩;go_wp2_with fail;go_ret;exact ⟨rfl, rfl⟩
def orN : List Int → Int
 | [] => 0
 | v :: l => if v ≠ 0 then v else orN l
theorem Zzf (vs : List Int) (b cap : Nat) (w : World) (hn : vs.length ≤ 1000) (hc : ∀ (j : Nat) (h : j < vs.length), w.cell? ⟨b, j, none⟩ = some (.int .i64 vs[j])) :
  Calls Tryz.prog 112 #[.slice (some ⟨b, 0, none⟩) vs.length cap] w fun e w' => e = .returned (.int .i64 (orN vs)) ∧ Zn w w' := by
 obtain ⟨R, hR⟩ : ∃ R, R = orN vs := ⟨_, rfl⟩;rw [← hR];have HR : Hid _ := hR;clear hR;go_enter Tryz.func112, Tryz.ntmps112;go_wp2_with fail;go_loopw [8] (fun i wr => ∃ k : Nat, k ≤ vs.length ∧ i = .int .i64 k ∧ R = orN (vs.drop k) ∧ Zn w wr) (fun i _ => vs.length - (intOf i).toNat)
 case atStart => exact ⟨0, Nat.zero_le _, rfl, HR.out, Zn.refl _⟩
 case round =>
  obtain ⟨k, hk, rfl, hRk, hg⟩ := hrel;have HK : Hid (R = orN (vs.drop k)) := hRk;clear hRk;by_cases hlt : k < vs.length
  ·have q0 := (Below.cell hg (Zv (hc k hlt))).trans (hc k hlt);have HX : Hid (R = if vs[k] ≠ 0 then vs[k] else orN (vs.drop (k + 1))) := by show R = _; rw [HK.out, List.drop_eq_getElem_cons hlt]; rfl
   generalize vs[k] = x at *;clear HK;by_cases hx : x = 0
   ·have HY : Hid (R = orN (vs.drop (k + 1))) := by show R = _; rw [HX.out, if_neg (by simpa using hx)]
    have d0 : (x != 0) = false := by simp [hx]
    clear HX hx;go_wp2_with fail;go_roundw
    case rel => exact ⟨k + 1, by omega, by go_num, HY.out, hg⟩
    case measure => simp [intOf]; omega
   ·have HY : Hid (R = x) := by show R = _; rw [HX.out, if_pos hx]
    have d0 : (x != 0) = true := by simp [hx]
    clear HX hx;go_wp2_with fail;go_ret;exact ⟨by rw [HY.out]; rfl, hg⟩
  ·have HY : Hid (R = 0) := by show R = _; rw [HK.out, List.drop_eq_nil_of_le (by omega)]; rfl
   clear HK;go_wp2_with fail;go_ret;exact ⟨by rw [HY.out]; rfl, hg⟩
theorem Zuu (x y : Ent) : orN [Vt x.rc.key y.rc.key, Vt x.rc.ver y.rc.ver, Vt x.pair y.pair] = Zel x y := by
 unfold Zel;simp only [orN];split
 ·rfl
 ·split
  ·rfl
  ·split
   ·rfl
   ·rename_i h; exact (Decidable.of_not_not h).symm
def Zpf (n0 n1 n2 : Int) (v : Value) (w : World) : Prop := ∃ g, v = .slice (some ⟨g, 0, none⟩) 3 3 ∧ w.heap[g]? = some (.cells #[.int .i64 n0, .int .i64 n1, .int .i64 n2] 3 (0, 0))
theorem Zqw (n0 n1 n2 : Int) : Xx (Zpf n0 n1 n2) := by
 rintro v w w' hg ⟨g, h1, h2⟩; exact ⟨g, h1, (hg.block _ (Za h2)).trans h2⟩
theorem Zcp (x y : Ent) (a0 a1 : Option Addr) (c0 c1 : Nat) (w : World) :
  Calls Tryz.prog 74 #[.agg #[.int .i64 x.rc.kind, .int .i64 x.rc.key, .int .i64 x.rc.ver, .slice a0 x.rc.data.length c0, .int .i64 x.pair], .agg #[.int .i64 y.rc.kind, .int .i64 y.rc.key, .int .i64 y.rc.ver, .slice a1 y.rc.data.length c1, .int .i64 y.pair]] w fun e w' => e = .returned (.int .i64 (Zel x y)) ∧ Zn w w' := by
 have g0 := Zq w (.cells #[.int .i64 x.rc.kind, .int .i64 x.rc.key, .int .i64 x.rc.ver, .slice a0 x.rc.data.length c0, .int .i64 x.pair] 92) (.cells #[.int .i64 y.rc.kind, .int .i64 y.rc.key, .int .i64 y.rc.ver, .slice a1 y.rc.data.length c1, .int .i64 y.pair] 92);have hx0 := Zh w #[.int .i64 x.rc.kind, .int .i64 x.rc.key, .int .i64 x.rc.ver, .slice a0 x.rc.data.length c0, .int .i64 x.pair] 92;have hy0 := Zh (w.alloc (.cells #[.int .i64 x.rc.kind, .int .i64 x.rc.key, .int .i64 x.rc.ver, .slice a0 x.rc.data.length c0, .int .i64 x.pair] 92)) #[.int .i64 y.rc.kind, .int .i64 y.rc.key, .int .i64 y.rc.ver, .slice a1 y.rc.data.length c1, .int .i64 y.pair] 92;have hx1 := ((Zb (w.alloc (.cells #[.int .i64 x.rc.kind, .int .i64 x.rc.key, .int .i64 x.rc.ver, .slice a0 x.rc.data.length c0, .int .i64 x.pair] 92)) (.cells #[.int .i64 y.rc.kind, .int .i64 y.rc.key, .int .i64 y.rc.ver, .slice a1 y.rc.data.length c1, .int .i64 y.pair] 92)).block _ (Za hx0)).trans hx0;rw [World.size_alloc] at hy0;clear hx0;obtain ⟨R, hR⟩ : ∃ R, R = Zel x y := ⟨_, rfl⟩;rw [← hR];have HR : Hid _ := hR;clear hR;go_enter Tryz.func74, Tryz.ntmps74;go_wp2_with fail;generalize World.alloc (World.alloc w _) _ = W at *
 refine Yb [ex (.pointer (some ⟨w.heap.size, 0, none⟩)), ex (.pointer (some ⟨w.heap.size, 1, none⟩)), ex (.int .i64 x.rc.key), ex (.pointer (some ⟨w.heap.size + 1, 0, none⟩)), ex (.pointer (some ⟨w.heap.size + 1, 1, none⟩)), ex (.int .i64 y.rc.key), ex (.int .i64 (Vt x.rc.key y.rc.key)), ex (.pointer (some ⟨w.heap.size, 0, none⟩)), ex (.pointer (some ⟨w.heap.size, 2, none⟩)), ex (.int .i64 x.rc.ver), ex (.pointer (some ⟨w.heap.size + 1, 0, none⟩)), ex (.pointer (some ⟨w.heap.size + 1, 2, none⟩)), ex (.int .i64 y.rc.ver), ex (.int .i64 (Vt x.rc.ver y.rc.ver)), ex (.pointer (some ⟨w.heap.size, 4, none⟩)), ex (.int .i64 x.pair), ex (.pointer (some ⟨w.heap.size + 1, 4, none⟩)), ex (.int .i64 y.pair), ex (.int .i64 (Vt x.pair y.pair)), ((Zpf (Vt x.rc.key y.rc.key) (Vt x.rc.ver y.rc.ver) (Vt x.pair y.pair))), ex (.int .i64 R), ex (.int .i64 R)] (by kernel_rfl) (by kernel_rfl) ⟨Zj _, Zj _, Zj _, Zj _, Zj _, Zj _, Zj _, Zj _, Zj _, Zj _, Zj _, Zj _, Zj _, Zj _, Zj _, Zj _, Zj _, Zj _, Zj _, Zqw _ _ _, Zj _, Zj _, trivial⟩ ?_ ?_
 ·refine ⟨?_, ?_, ?_, ?_, ?_, ?_, ?_, ?_, ?_, ?_, ?_, ?_, ?_, ?_, ?_, ?_, ?_, ?_, ?_, ?_, ?_, ?_, trivial⟩
  ·refine Ze rfl fun a _ _ _ B A => ?_;have e2 : a (.tmp 2) = .pointer (some ⟨w.heap.size, 0, none⟩) := Zy A 2 rfl;refine Zo ?_ rfl;clear A B;go_simp;all_goals go_arith
  ·refine Ze rfl fun a _ _ _ B A => ?_;have e5 : a (.tmp 5) = _ := Zg A 0 rfl;refine Zo ?_ rfl;clear A B;go_simp;all_goals go_arith
  ·refine Ze rfl fun a _ _ _ B A => ?_;have e6 : a (.tmp 6) = _ := Zg A 1 rfl;have h1 := Zc ((B.block _ (Za hx1)).trans hx1) 1 _ rfl;refine Zo ?_ rfl;clear A B;go_simp;all_goals go_arith
  ·refine Ze rfl fun a _ _ _ B A => ?_;have e3 : a (.tmp 3) = .pointer (some ⟨w.heap.size + 1, 0, none⟩) := Zy A 3 rfl;refine Zo ?_ rfl;clear A B;go_simp;all_goals go_arith
  ·refine Ze rfl fun a _ _ _ B A => ?_;have e8 : a (.tmp 8) = _ := Zg A 3 rfl;refine Zo ?_ rfl;clear A B;go_simp;all_goals go_arith
  ·refine Ze rfl fun a _ _ _ B A => ?_;have e9 : a (.tmp 9) = _ := Zg A 4 rfl;have h1 := Zc ((B.block _ (Za hy0)).trans hy0) 1 _ rfl;refine Zo ?_ rfl;clear A B;go_simp;all_goals go_arith
  ·refine Ze rfl fun a B _ _ C A => ?_;have e7 : a (.tmp 7) = _ := Zg A 2 rfl;have e10 : a (.tmp 10) = _ := Zg A 5 rfl;refine Yv (f := 113) (args := #[.int .i64 x.rc.key, .int .i64 y.rc.key]) ?_ ((Zj9 _ _ B).mono ?_)
   ·clear A C;go_simp;all_goals go_arith
   ·rintro e w2 ⟨rfl, rfl⟩;exact ⟨_, rfl, Zn.refl _, rfl⟩
  ·refine Ze rfl fun a _ _ _ B A => ?_;have e2 : a (.tmp 2) = .pointer (some ⟨w.heap.size, 0, none⟩) := Zy A 2 rfl;refine Zo ?_ rfl;clear A B;go_simp;all_goals go_arith
  ·refine Ze rfl fun a _ _ _ B A => ?_;have e12 : a (.tmp 12) = _ := Zg A 7 rfl;refine Zo ?_ rfl;clear A B;go_simp;all_goals go_arith
  ·refine Ze rfl fun a _ _ _ B A => ?_;have e13 : a (.tmp 13) = _ := Zg A 8 rfl;have h1 := Zc ((B.block _ (Za hx1)).trans hx1) 2 _ rfl;refine Zo ?_ rfl;clear A B;go_simp;all_goals go_arith
  ·refine Ze rfl fun a _ _ _ B A => ?_;have e3 : a (.tmp 3) = .pointer (some ⟨w.heap.size + 1, 0, none⟩) := Zy A 3 rfl;refine Zo ?_ rfl;clear A B;go_simp;all_goals go_arith
  ·refine Ze rfl fun a _ _ _ B A => ?_;have e15 : a (.tmp 15) = _ := Zg A 10 rfl;refine Zo ?_ rfl;clear A B;go_simp;all_goals go_arith
  ·refine Ze rfl fun a _ _ _ B A => ?_;have e16 : a (.tmp 16) = _ := Zg A 11 rfl;have h1 := Zc ((B.block _ (Za hy0)).trans hy0) 2 _ rfl;refine Zo ?_ rfl;clear A B;go_simp;all_goals go_arith
  ·refine Ze rfl fun a B _ _ C A => ?_;have e14 : a (.tmp 14) = _ := Zg A 9 rfl;have e17 : a (.tmp 17) = _ := Zg A 12 rfl;refine Yv (f := 113) (args := #[.int .i64 x.rc.ver, .int .i64 y.rc.ver]) ?_ ((Zj9 _ _ B).mono ?_)
   ·clear A C;go_simp;all_goals go_arith
   ·rintro e w2 ⟨rfl, rfl⟩;exact ⟨_, rfl, Zn.refl _, rfl⟩
  ·refine Ze rfl fun a _ _ _ B A => ?_;have e2 : a (.tmp 2) = .pointer (some ⟨w.heap.size, 0, none⟩) := Zy A 2 rfl;refine Zo ?_ rfl;clear A B;go_simp;all_goals go_arith
  ·refine Ze rfl fun a _ _ _ B A => ?_;have e19 : a (.tmp 19) = _ := Zg A 14 rfl;have h1 := Zc ((B.block _ (Za hx1)).trans hx1) 4 _ rfl;refine Zo ?_ rfl;clear A B;go_simp;all_goals go_arith
  ·refine Ze rfl fun a _ _ _ B A => ?_;have e3 : a (.tmp 3) = .pointer (some ⟨w.heap.size + 1, 0, none⟩) := Zy A 3 rfl;refine Zo ?_ rfl;clear A B;go_simp;all_goals go_arith
  ·refine Ze rfl fun a _ _ _ B A => ?_;have e21 : a (.tmp 21) = _ := Zg A 16 rfl;have h1 := Zc ((B.block _ (Za hy0)).trans hy0) 4 _ rfl;refine Zo ?_ rfl;clear A B;go_simp;all_goals go_arith
  ·refine Ze rfl fun a B _ _ C A => ?_;have e20 : a (.tmp 20) = _ := Zg A 15 rfl;have e22 : a (.tmp 22) = _ := Zg A 17 rfl;refine Yv (f := 113) (args := #[.int .i64 x.pair, .int .i64 y.pair]) ?_ ((Zj9 _ _ B).mono ?_)
   ·clear A C;go_simp;all_goals go_arith
   ·rintro e w2 ⟨rfl, rfl⟩;exact ⟨_, rfl, Zn.refl _, rfl⟩
  ·refine Ze rfl fun a w' _ _ B A => ?_;have e11 : a (.tmp 11) = _ := Zg A 6 rfl;have e18 : a (.tmp 18) = _ := Zg A 13 rfl;have e23 : a (.tmp 23) = _ := Zg A 18 rfl;refine Zqq (v := .slice (some ⟨w'.heap.size, 0, none⟩) 3 3) (w' := w'.alloc (.cells #[.int .i64 (Vt x.rc.key y.rc.key), .int .i64 (Vt x.rc.ver y.rc.ver), .int .i64 (Vt x.pair y.pair)] 3)) ?_ (Zb _ _) ⟨_, rfl, Zh _ _ _⟩;clear A B;go_simp;all_goals go_arith
  ·refine Ze rfl fun a B _ _ C A => ?_;have e24 : ((Zpf (Vt x.rc.key y.rc.key) (Vt x.rc.ver y.rc.ver) (Vt x.pair y.pair))) (a (.tmp 24)) B := Zg A 19 rfl;obtain ⟨g, h24, h3⟩ := e24;refine Yv (f := 112) (args := #[.slice (some ⟨g, 0, none⟩) 3 3]) ?_ ((Zzf [Vt x.rc.key y.rc.key, Vt x.rc.ver y.rc.ver, Vt x.pair y.pair] g 3 B (by simp) (fun j hj => by
    have hj3 : j < 3 := hj
    match j, hj3 with
    | 0, _ => exact Zc h3 0 _ rfl
    | 1, _ => exact Zc h3 1 _ rfl
    | 2, _ => exact Zc h3 2 _ rfl)).mono ?_)
   ·clear A C h3;go_simp;all_goals go_arith
   ·rw [Zuu, ← HR.out];rintro e w2 ⟨rfl, g2⟩;exact ⟨_, rfl, g2, rfl⟩
  ·exact Ze rfl fun a _ _ _ _ A => Yx rfl (Zg A 20 rfl)
 ·intro vs w' hg ht;obtain ⟨(r5 : vs 0 = _), (r6 : vs 1 = _), (r7 : vs 2 = _), (r8 : vs 3 = _), (r9 : vs 4 = _), (r10 : vs 5 = _), (r11 : vs 6 = _), (r12 : vs 7 = _), (r13 : vs 8 = _), (r14 : vs 9 = _), (r15 : vs 10 = _), (r16 : vs 11 = _), (r17 : vs 12 = _), (r18 : vs 13 = _), (r19 : vs 14 = _), (r20 : vs 15 = _), (r21 : vs 16 = _), (r22 : vs 17 = _), (r23 : vs 18 = _), q24, (r25 : vs 20 = _), (r4 : vs 21 = _), -⟩ := ht;simp only [Ye, Act.put, List.setIfInBounds_toArray, List.set_cons_zero, List.set_cons_succ, r5, r6, r7, r8, r9, r10, r11, r12, r13, r14, r15, r16, r17, r18, r19, r20, r21, r22, r23, r25, r4];clear r5 r6 r7 r8 r9 r10 r11 r12 r13 r14 r15 r16 r17 r18 r19 r20 r21 r22 r23 r25 r4;have gE := g0.trans hg;clear q24 hg hx1 hy0 g0;go_wp2_with fail;go_ret;exact ⟨rfl, gE⟩
variable {B : Nat} {v : Value} {w w' : World}
theorem Zhi {g : Nat} {T : TypeId} {f} {c0 c1 c2 c3 c4 : Value} (h : w.heap[g]? = some (.cells #[c0, c1, c2, c3, c4] T f)) (x0 x1 x2 x3 x4 : Value) :
  (((((w.setCell ⟨g, 0, none⟩ x0).setCell ⟨g, 1, none⟩ x1).setCell ⟨g, 2, none⟩ x2).setCell ⟨g, 3, none⟩ x3).setCell ⟨g, 4, none⟩ x4).heap[g]? = some (.cells #[x0, x1, x2, x3, x4] T f) ∧ Zp g w (((((w.setCell ⟨g, 0, none⟩ x0).setCell ⟨g, 1, none⟩ x1).setCell ⟨g, 2, none⟩ x2).setCell ⟨g, 3, none⟩ x3).setCell ⟨g, 4, none⟩ x4) := by
 refine ⟨?_, (((((Zp.refl g w).set _ _ _).set _ _ _).set _ _ _).set _ _ _).set _ _ _⟩;have h1 := Yh (Yh (Yh (Yh (Yh h 0 x0) 1 x1) 2 x2) 3 x3) 4 x4;simpa using h1
def Zjc (B : Nat) (r : Rec) (v : Value) (w : World) : Prop := ∃ a c, v = .agg #[.int .i64 r.kind, .int .i64 r.key, .int .i64 r.ver, .slice a r.data.length c] ∧ w.ownsRow B 5 1 (.slice a r.data.length c) r.data.length (r.data.map bv)
theorem Ztf (B : Nat) (r : Rec) : Xx (Zjc B r) := by
 rintro v w w' hg ⟨a, c, h1, h2⟩; exact ⟨a, c, h1, Yd h2 hg⟩
theorem Ztt {r : Rec} (hs : Yz 92 w w') (h : Zjc B r v w) : Zjc B r v w' := by
 obtain ⟨a, c, h1, h2⟩ := h; exact ⟨a, c, h1, Qt (by decide) hs h2⟩
def Zpg (B : Nat) (x : Ent) (v : Value) (w : World) : Prop := ∃ a c, v = .agg #[.int .i64 x.rc.kind, .int .i64 x.rc.key, .int .i64 x.rc.ver, .slice a x.rc.data.length c, .int .i64 x.pair] ∧ w.ownsRow B 5 1 (.slice a x.rc.data.length c) x.rc.data.length (x.rc.data.map bv)
theorem Zwq (B : Nat) (x : Ent) : Xx (Zpg B x) := by
 rintro v w w' hg ⟨a, c, h1, h2⟩; exact ⟨a, c, h1, Yd h2 hg⟩
theorem Zww {x : Ent} (hs : Yz 92 w w') (h : Zpg B x v w) : Zpg B x v w' := by
 obtain ⟨a, c, h1, h2⟩ := h; exact ⟨a, c, h1, Qt (by decide) hs h2⟩
def Zwd (B g : Nat) (x : Ent) (w : World) : Prop := ∃ a c, w.heap[g]? = some (.cells #[.int .i64 x.rc.kind, .int .i64 x.rc.key, .int .i64 x.rc.ver, .slice a x.rc.data.length c, .int .i64 x.pair] 92 (0, 0)) ∧ w.ownsRow B 5 1 (.slice a x.rc.data.length c) x.rc.data.length (x.rc.data.map bv)
theorem Zti (B g : Nat) (x : Ent) : Xx (fun _ w => Zwd B g x w) := by
 rintro v w w' hg ⟨a, c, h1, h2⟩; exact ⟨a, c, (hg.block _ (Za h1)).trans h1, Yd h2 hg⟩
theorem Zg0 (x : Ent) (a0 : Option Addr) (c0 : Nat) (w : World) (hm : x.rc.data.length ≤ 140737488355328) (hb : Bytes w (.slice a0 x.rc.data.length c0) x.rc.data) :
  Calls Tryz.prog 160 #[.agg #[.int .i64 x.rc.kind, .int .i64 x.rc.key, .int .i64 x.rc.ver, .slice a0 x.rc.data.length c0, .int .i64 x.pair]] w fun e w' => ∃ v, e = .returned v ∧ Zpg w.heap.size x v w' ∧ Zn w w' := by
 have g0 := Zq w (.cells #[.int .i64 x.rc.kind, .int .i64 x.rc.key, .int .i64 x.rc.ver, .slice a0 x.rc.data.length c0, .int .i64 x.pair] 92) (.cells #[.int .i64 0, .int .i64 0, .int .i64 0, .slice none 0 0, .int .i64 0] 92);have hx0 := Zh w #[.int .i64 x.rc.kind, .int .i64 x.rc.key, .int .i64 x.rc.ver, .slice a0 x.rc.data.length c0, .int .i64 x.pair] 92;have hy0 := Zh (w.alloc (.cells #[.int .i64 x.rc.kind, .int .i64 x.rc.key, .int .i64 x.rc.ver, .slice a0 x.rc.data.length c0, .int .i64 x.pair] 92)) #[.int .i64 0, .int .i64 0, .int .i64 0, .slice none 0 0, .int .i64 0] 92;have hx1 := ((Zb (w.alloc (.cells #[.int .i64 x.rc.kind, .int .i64 x.rc.key, .int .i64 x.rc.ver, .slice a0 x.rc.data.length c0, .int .i64 x.pair] 92)) (.cells #[.int .i64 0, .int .i64 0, .int .i64 0, .slice none 0 0, .int .i64 0] 92)).block _ (Za hx0)).trans hx0;rw [World.size_alloc] at hy0;clear hx0;go_enter Tryz.func160, Tryz.ntmps160;go_wp2_with fail;generalize World.alloc (World.alloc w _) _ = W at *
 refine Yy [px (.pointer (some ⟨w.heap.size, 0, none⟩)), px (.agg #[.int .i64 x.rc.kind, .int .i64 x.rc.key, .int .i64 x.rc.ver, .slice a0 x.rc.data.length c0]), pl ((Zjc (w.heap.size + 2) x.rc)), px (.pointer (some ⟨w.heap.size, 4, none⟩)), px (.int .i64 x.pair), pl ((Zpg (w.heap.size + 2) x)), pl ((fun _ w' => Zwd (w.heap.size + 2) (w.heap.size + 1) x w'))] [none, none, none, none, none, none, some ((Yz 92))] (fun dn w' => Zn w w' ∧ w.heap.size + 2 ≤ w'.heap.size ∧ w'.heap[w.heap.size]? = some (.cells #[.int .i64 x.rc.kind, .int .i64 x.rc.key, .int .i64 x.rc.ver, .slice a0 x.rc.data.length c0, .int .i64 x.pair] 92 (0, 0)) ∧ (dn 6 = false → w'.heap[w.heap.size + 1]? = some (.cells #[.int .i64 0, .int .i64 0, .int .i64 0, .slice none 0 0, .int .i64 0] 92 (0, 0)))) (by kernel_rfl) (by kernel_rfl) ⟨se, se, Yk (Ztf _ _), se, se, Yk (Zwq _ _), Yk (Zti _ _ _), trivial⟩ ⟨⟨(fun w => .inl rfl), ⟨x5, x5, .inr ((fun v _ w1 w' hs hq => Ztt hs hq)), x5, x5, .inr ((fun v _ w1 w' hs hq => Zww hs hq)), .inl (by kernel_rfl), trivial⟩⟩, trivial⟩ ⟨n5, n5, n5, n5, n5, n5, fun _ _ _ _ h => h, trivial⟩ ⟨g0.drew, Za hy0, hx1, fun _ => hy0⟩ ?_ ?_
 ·refine ⟨?_, ?_, ?_, ?_, ?_, ?_, ?_, trivial⟩
  ·refine Zd rfl fun a _ _ _ _ _ B A => ?_;have e1 : a (.tmp 1) = .pointer (some ⟨w.heap.size, 0, none⟩) := Zm A 1 rfl;refine Zi ?_ B rfl;clear A B;go_simp;all_goals go_arith
  ·refine Zd rfl fun a _ _ _ _ C B A => ?_;have e3 : a (.tmp 3) = _ := Zf A 0 rfl;have z0 := Zc B.2.2.1 0 _ rfl;have z1 := Zc B.2.2.1 1 _ rfl;have z2 := Zc B.2.2.1 2 _ rfl;have z3 := Zc B.2.2.1 3 _ rfl;refine Zi ?_ B rfl;clear A B C;go_simp;all_goals go_arith
  ·refine Zd rfl fun a B _ _ _ D C A => ?_;have e4 : a (.tmp 4) = _ := Zf A 1 rfl;refine Yf (f := 101) (args := #[.agg #[.int .i64 x.rc.kind, .int .i64 x.rc.key, .int .i64 x.rc.ver, .slice a0 x.rc.data.length c0]]) ?_ ((Zfn x.rc.kind x.rc.key x.rc.ver x.rc.data _ B hm (Z3 hb C.1)).mono ?_)
   ·clear A C D;go_simp;all_goals go_arith
   ·rintro e w2 ⟨v', rfl, ho, g2⟩;obtain ⟨a9, c9, rfl⟩ := Ya ho;exact ⟨_, rfl, g2, ⟨C.1.trans g2, Nat.le_trans C.2.1 g2.size, (g2.block _ (Za C.2.2.1)).trans C.2.2.1, fun h => (g2.block _ (Za (C.2.2.2 h))).trans (C.2.2.2 h)⟩, a9, c9, rfl, Yj ho C.2.1⟩
  ·refine Zd rfl fun a _ _ _ _ _ B A => ?_;have e1 : a (.tmp 1) = .pointer (some ⟨w.heap.size, 0, none⟩) := Zm A 1 rfl;refine Zi ?_ B rfl;clear A B;go_simp;all_goals go_arith
  ·refine Zd rfl fun a _ _ _ _ C B A => ?_;have e6 : a (.tmp 6) = _ := Zf A 3 rfl;have z4 := Zc B.2.2.1 4 _ rfl;refine Zi ?_ B rfl;clear A B C;go_simp;all_goals go_arith
  ·refine Zd rfl fun a B _ _ _ D C A => ?_;have e5 : ((Zjc (w.heap.size + 2) x.rc)) (a (.tmp 5)) B := Zf A 2 rfl;have e7 : a (.tmp 7) = _ := Zf A 4 rfl;obtain ⟨a9, c9, h5, ho⟩ := e5;refine Zi (v := .agg #[.int .i64 x.rc.kind, .int .i64 x.rc.key, .int .i64 x.rc.ver, .slice a9 x.rc.data.length c9, .int .i64 x.pair]) ?_ C ⟨a9, c9, rfl, ho⟩;clear A C D ho;go_simp;all_goals go_arith
  ·refine Zd rfl fun a w' _ _ _ C B A => ?_;have e2 : a (.tmp 2) = .pointer (some ⟨w.heap.size + 1, 0, none⟩) := Zm A 2 rfl;have e8 : ((Zpg (w.heap.size + 2) x)) (a (.tmp 8)) w' := Zf A 5 rfl;obtain ⟨a9, c9, h8, ho⟩ := e8;have hh := B.2.2.2 C.un;obtain ⟨hp1, hp2⟩ := Zhi hh (.int .i64 x.rc.kind) (.int .i64 x.rc.key) (.int .i64 x.rc.ver) (.slice a9 x.rc.data.length c9) (.int .i64 x.pair);have hstep : Yz 92 w' _ := .inr ⟨_, _, _, hp2, hh, hp1, rfl⟩;obtain ⟨y0, y1, y2, y3, y4⟩ := Qb hh rfl rfl rfl rfl rfl;obtain ⟨f0, f1, f2, f3⟩ := Yr hh;have f4 := Zk hh 4;have cs := Zr;refine Yi (w' := _) ?_ hstep ⟨hp2.grow B.1 (by omega), Nat.le_trans B.2.1 hp2.size, (hp2.block _ (Za B.2.2.1) (by omega)).trans B.2.2.1, fun h => by simp [upd] at h⟩ ⟨a9, c9, hp1, Qt (by decide) hstep ho⟩;clear A B C hp1 hp2 hh ho hstep;go_simp;all_goals go_arith
 ·intro vs w' dn hdn hg ht;obtain ⟨q3, q4, q5, q6, q7, q8, qo6, -⟩ := ht;have r3 : vs 0 = _ := q3;have r4 : vs 1 = _ := q4;replace q5 : ((Zjc (w.heap.size + 2) x.rc)) (vs 2) w' := q5;have r6 : vs 3 = _ := q6;have r7 : vs 4 = _ := q7;replace q8 : ((Zpg (w.heap.size + 2) x)) (vs 5) w' := q8;replace qo6 : ((fun _ w' => Zwd (w.heap.size + 2) (w.heap.size + 1) x w')) (vs 6) w' := qo6;clear q3 q4 q6 q7;simp only [Ye, Act.put, List.setIfInBounds_toArray, List.set_cons_zero, List.set_cons_succ, Nat.reduceAdd, r3, r4, r6, r7];clear r3 r4 r6 r7;obtain ⟨a9, c9, hp, ho⟩ := qo6;obtain ⟨y0, y1, y2, y3, y4⟩ := Qb hp rfl rfl rfl rfl rfl;have gE := hg.1;have hoE := Yj ho (base' := w.heap.size) (by omega);clear q5 q8 hdn hg hp ho hx1 hy0 g0;go_wp2_with fail;exact bodyPost_ret (v := .agg #[.int .i64 x.rc.kind, .int .i64 x.rc.key, .int .i64 x.rc.ver, .slice a9 x.rc.data.length c9, .int .i64 x.pair]) (by simp [results, Tryz.results160, go_sem, y0, y1, y2, y3, y4]) rfl ⟨_, rfl, ⟨a9, c9, rfl, hoE⟩, gE⟩
theorem Zme (Pr : Ent → Bool) {l : List Ent} {k : Nat} (h : k < l.length) : (l.take (k + 1)).filter Pr = (l.take k).filter Pr ++ (if Pr l[k] = true then [l[k]] else []) := by
 rw [List.take_succ_eq_append_getElem h, List.filter_append]
 congr 1
 by_cases hp : Pr l[k] = true
 ·rw [if_pos hp, List.filter_cons_of_pos hp]; rfl
 ·rw [if_neg hp, List.filter_cons_of_neg hp]; rfl
theorem Yw.made {α : Type} {sh : Ql α} {S0 : Nat → Prop} (h : w.ownsRow B sh.T sh.size v 0 []) : Yw sh S0 B v [] [] w := ⟨rfl, fun i hi => by simp at hi, h⟩
abbrev NoS : Nat → Prop := fun _ => False
theorem Zbp (K : Nat) (caps : Array Value) (Pr : Ent → Bool) (S : Nat → Prop) (l : List Ent) (v : Value) (w : World) (hK : ∀ (args : Array Value) (w : World), (callFunc K args).run Tryz.prog w = .ok (.enter K args) w) (hl : Ys S w v l) (hn : l.length ≤ 1000000) (h8 : ∀ x ∈ l, x.rc.data.length ≤ 8)
  (hc : ∀ (x : Ent) (a : Option Addr) (c : Nat) (w' : World), x ∈ l → Zn w w' → Calls Tryz.prog K (#[.agg #[.int .i64 x.rc.kind, .int .i64 x.rc.key, .int .i64 x.rc.ver, .slice a x.rc.data.length c, .int .i64 x.pair]] ++ caps) w' fun e w2 => e = .returned (.bool (Pr x)) ∧ Zn w' w2) :
  Calls Tryz.prog 123 #[v, .func (.func K) #[] caps] w fun e w' => ∃ v' css, e = .returned v' ∧ Yw Y8 NoS w.heap.size v' (l.filter Pr) css w' ∧ Zn w w' := by
 obtain ⟨i0, hif, hz0, hz1, hz2⟩ := info_parts Zaw;obtain ⟨ao, cp, rfl⟩ := hl.form;obtain ⟨F, hF⟩ : ∃ F, F = l.filter Pr := ⟨_, rfl⟩;rw [← hF];have HF : Hid _ := hF;clear hF;go_enter Tryz.func123, Tryz.ntmps123;go_wp2_with (at_make; refine wpList_make_own _ rfl _ _ 27 rfl w.heap.size 92 i0 (.agg #[.int .i64 0, .int .i64 0, .int .i64 0, .slice none 0 0, .int .i64 0]) 5 Tryz.underlying27 hif hz0 hz1 .i64 .i64 _ l.length rfl rfl rfl (by rw [hz2]; omega) (by unfold maxLen; omega) (Nat.le_refl _) ?_; intro w1 hown1 hgrow1);have hR0 : Yw Y8 NoS w.heap.size (.slice (some ⟨w.heap.size, 0, none⟩) 0 l.length) [] [] w1 := Yw.made hown1;have g0 : Zn w w1 := Z6 (Zn.refl _) hgrow1 (fun k e => by cases e);clear hown1 hgrow1;go_loopw [5, 13] (fun o i wr => ∃ (k : Nat) (css : List (List Value)), k ≤ l.length ∧ i = .int .i64 k ∧ Yw Y8 NoS w.heap.size o ((l.take k).filter Pr) css wr ∧ Zn w wr) (fun _ i _ => l.length - (intOf i).toNat)
 case atStart => exact ⟨0, [], Nat.zero_le _, rfl, hR0, g0⟩
 case round =>
  clear hR0 g0;obtain ⟨k, css, hk, rfl, hR, hg⟩ := hrel;by_cases hlt : k < l.length
  ·obtain ⟨b, off, a1, c1, hv1, q0, q1, q2, q3, q4, hu⟩ := Jm (hl.grow hg) k hlt;cases hv1;have HT : Hid ((l.take (k + 1)).filter Pr = (l.take k).filter Pr ++ (if Pr l[k] = true then [l[k]] else [])) := Zme Pr hlt;have hxl : ((l.take k).filter Pr).length ≤ 1000000 := Nat.le_trans (List.length_filter_le _ _) (by rw [List.length_take]; omega);have HM : Hid (l[k] ∈ l) := List.getElem_mem hlt;have HB : Hid (l[k].rc.data.length ≤ 8) := h8 _ (List.getElem_mem hlt);generalize l[k] = x at *;generalize (l.take k).filter Pr = xs at *;obtain ⟨a0, c0, rfl⟩ := hR.form;have g1 := Zb wr (.cells #[.int .i64 x.rc.kind, .int .i64 x.rc.key, .int .i64 x.rc.ver, .slice a1 x.rc.data.length c1, .int .i64 x.pair] 92);have hX1 := Zh wr #[.int .i64 x.rc.kind, .int .i64 x.rc.key, .int .i64 x.rc.ver, .slice a1 x.rc.data.length c1, .int .i64 x.pair] 92;have hR1 := hR.grow g1;have hu1 := hu.grow g1;have gw1 := hg.trans g1;clear hR hu hg g1;obtain ⟨x0, x1, x2, x3, x4⟩ := Qb hX1 rfl rfl rfl rfl rfl;go_wp2_with fail;refine (hc x a1 c1 _ HM.out gw1).mono ?_;rintro e w2 ⟨rfl, g2⟩;have hR2 := hR1.grow g2;have hu2 := hu1.grow g2;have hX2 := (g2.block _ (Za hX1)).trans hX1;have gw2 := gw1.trans g2;clear hR1 hu1 hX1 gw1 g2 x0 x1 x2 x3 x4 q0 q1 q2 q3 q4;generalize wr.heap.size = gx at *;obtain ⟨P, hP⟩ : ∃ P, P = Pr x := ⟨_, rfl⟩;rw [← hP];have HP : Hid _ := hP;clear hP;obtain ⟨x0, x1, x2, x3, x4⟩ := Qb hX2 rfl rfl rfl rfl rfl;cases P with
   | false =>
    have HT2 : Hid ((l.take (k + 1)).filter Pr = xs) := by show _ = _; rw [HT.out, ← HP.out]; simp
    clear HT HP hX2 hu2;go_wp2_with fail;go_roundw
    case rel => exact ⟨k + 1, _, by omega, by go_num, by rw [HT2.out]; exact hR2, gw2⟩
    case measure => simp [intOf]; omega
   | true =>
    have HT2 : Hid ((l.take (k + 1)).filter Pr = xs ++ [x]) := by show _ = _; rw [HT.out, ← HP.out]; simp
    clear HT HP;go_wp2_with fail;refine (Zg0 x a1 c1 _ (by have := HB.out; omega) hu2.p).mono ?_;rintro e w3 ⟨v3, rfl, ⟨a3, c3, rfl, ho3⟩, g3⟩;have hR3 := hR2.grow g3;have gw3 := gw2.trans g3;have HO3 : Hid (w3.ownsRow w.heap.size 5 1 (.slice a3 x.rc.data.length c3) x.rc.data.length (x.rc.data.map bv)) := Yj ho3 gw2.size;have HSZ : Hid (w.heap.size ≤ w3.heap.size) := gw3.size;have hnew : ∀ (j : Nat) u, ([.int .i64 x.rc.kind, .int .i64 x.rc.key, .int .i64 x.rc.ver, .slice a3 x.rc.data.length c3, .int .i64 x.pair] : List Value)[j]? = some u → (w3.alloc (.cells #[.int .i64 x.rc.kind, .int .i64 x.rc.key, .int .i64 x.rc.ver, .slice a3 x.rc.data.length c3, .int .i64 x.pair] 92)).cell? ((⟨w3.heap.size, 0, none⟩ : Addr).add j) = some u := fun j u hj => Ke w3 _ _ _ _ _ 92 j u hj
    clear hR2 hu2 hX2 gw2 g3 ho3 x0 x1 x2 x3 x4;go_wp2_with (first | (at_builtin; refine wpList_append_own _ rfl (.tmp 20) (.tmp 23) 27 rfl (w.heap.size) 92 i0 (.agg #[.int .i64 0, .int .i64 0, .int .i64 0, .slice none 0 0, .int .i64 0]) 5 56 Tryz.underlying27 hif hz0 hz1 hz2 rfl (by decide) (.slice a0 xs.length c0) _ _ rfl (hR3.row.alloc _) ⟨w3.heap.size, 0, none⟩ 1 1 [.int .i64 x.rc.kind, .int .i64 x.rc.key, .int .i64 x.rc.ver, .slice a3 x.rc.data.length c3, .int .i64 x.pair] rfl rfl hnew (by intro u hu; simp at hu; rcases hu with rfl | rfl | rfl | rfl | rfl <;> rfl) (by unfold maxLen; omega) (by omega) (by have := HSZ.out; simp; omega) ?_; intro v4 w4 hown4 hgrow4 _; have hR6 := hR3.step (x := x) (by decide) (fun b h => h.elim) ⟨_, rfl, Zej _ (Nat.le_refl _) HO3.out⟩ hgrow4 hown4; have g6 : Zn w w4 := Z6 (gw3.trans (Zb _ _)) hgrow4 (fun k hk => (hR3.row.lt k hk).1); have hsl := Y5 hown4; obtain ⟨a4, c4, hv4⟩ := hsl; subst hv4; clear hgrow4 hown4 hR3 hnew gw3));go_roundw
    case rel => exact ⟨k + 1, _, by omega, by go_num, by rw [HT2.out]; exact hR6, g6⟩
    case measure => simp [intOf]; omega
  ·have HE : Hid (F = (l.take k).filter Pr) := by show F = _; rw [HF.out, List.take_of_length_le (by omega)]
   rw [← HE.out] at hR;obtain ⟨a0, c0, rfl⟩ := hR.form;go_wp2_with fail;go_ret;exact ⟨_, _, rfl, hR, hg⟩
theorem Zmf (args : Array Value) (w : World) : (callFunc 124 args).run Tryz.prog w = .ok (.enter 124 args) w := by
 simp [callFunc, Tryz.func124, Tryz.f124, mark]
theorem Zj7 (args : Array Value) (w : World) : (callFunc 177 args).run Tryz.prog w = .ok (.enter 177 args) w := by
 simp [callFunc, Tryz.func177, Tryz.f177, mark]
theorem Zmi (args : Array Value) (w : World) : (callFunc 179 args).run Tryz.prog w = .ok (.enter 179 args) w := by
 simp [callFunc, Tryz.func179, Tryz.f179, mark]
theorem Zmh (args : Array Value) (w : World) : (callFunc 180 args).run Tryz.prog w = .ok (.enter 180 args) w := by
 simp [callFunc, Tryz.func180, Tryz.f180, mark]
theorem Zmg (args : Array Value) (w : World) : (callFunc 181 args).run Tryz.prog w = .ok (.enter 181 args) w := by
 simp [callFunc, Tryz.func181, Tryz.f181, mark]
theorem Zur (x : Ent) (a : Option Addr) (c : Nat) (w : World) : Calls Tryz.prog 124 #[.agg #[.int .i64 x.rc.kind, .int .i64 x.rc.key, .int .i64 x.rc.ver, .slice a x.rc.data.length c, .int .i64 x.pair]] w fun e w' => e = .returned (.bool true) ∧ Zn w w' := by
 have g0 := Zb w (.cells #[.int .i64 x.rc.kind, .int .i64 x.rc.key, .int .i64 x.rc.ver, .slice a x.rc.data.length c, .int .i64 x.pair] 92);go_enter Tryz.func124, Tryz.ntmps124;go_wp2_with fail;go_ret;exact ⟨rfl, g0⟩
theorem Zsj (x : Ent) (a : Option Addr) (c : Nat) (p : Int) (g : Nat) (w : World) (hp : w.heap[g]? = some (.cells #[.int .i64 p] 3 (0, 0))) : Calls Tryz.prog 177 #[.agg #[.int .i64 x.rc.kind, .int .i64 x.rc.key, .int .i64 x.rc.ver, .slice a x.rc.data.length c, .int .i64 x.pair], .pointer (some ⟨g, 0, none⟩)] w fun e w' => e = .returned (.bool (x.pair != p)) ∧ Zn w w' := by
 have g0 := Zb w (.cells #[.int .i64 x.rc.kind, .int .i64 x.rc.key, .int .i64 x.rc.ver, .slice a x.rc.data.length c, .int .i64 x.pair] 92);have y0 := Zc ((g0.block _ (Za hp)).trans hp) 0 _ rfl;go_enter Tryz.func177, Tryz.ntmps177;go_wp2_with fail;go_ret;exact ⟨rfl, g0⟩
theorem Zvx (x e : Ent) (a b : Option Addr) (c d : Nat) (g : Nat) (w : World) (hne : x.pair ≠ e.pair) (hp : w.heap[g]? = some (.cells #[.int .i64 e.rc.kind, .int .i64 e.rc.key, .int .i64 e.rc.ver, .slice b e.rc.data.length d, .int .i64 e.pair] 92 (0, 0))) : Calls Tryz.prog 179 #[.agg #[.int .i64 x.rc.kind, .int .i64 x.rc.key, .int .i64 x.rc.ver, .slice a x.rc.data.length c, .int .i64 x.pair], .pointer (some ⟨g, 0, none⟩)] w fun e w' => e = .returned (.bool false) ∧ Zn w w' := by
 have g0 := Zb w (.cells #[.int .i64 x.rc.kind, .int .i64 x.rc.key, .int .i64 x.rc.ver, .slice a x.rc.data.length c, .int .i64 x.pair] 92);have y4 := Zc ((g0.block _ (Za hp)).trans hp) 4 _ rfl;have d0 : (x.pair == e.pair) = false := by simp [hne]
 clear hne;go_enter Tryz.func179, Tryz.ntmps179;go_wp2_with fail;go_ret;exact ⟨rfl, g0⟩
theorem Zvw (x e : Ent) (a b : Option Addr) (c d : Nat) (g : Nat) (w : World) (hp : w.heap[g]? = some (.cells #[.int .i64 e.rc.kind, .int .i64 e.rc.key, .int .i64 e.rc.ver, .slice b e.rc.data.length d, .int .i64 e.pair] 92 (0, 0))) : Calls Tryz.prog 180 #[.agg #[.int .i64 x.rc.kind, .int .i64 x.rc.key, .int .i64 x.rc.ver, .slice a x.rc.data.length c, .int .i64 x.pair], .pointer (some ⟨g, 0, none⟩)] w fun r w' => r = .returned (.bool (Y3 x e)) ∧ Zn w w' := by
 have g0 := Zb w (.cells #[.int .i64 x.rc.kind, .int .i64 x.rc.key, .int .i64 x.rc.ver, .slice a x.rc.data.length c, .int .i64 x.pair] 92);have hp1 := (g0.block _ (Za hp)).trans hp;obtain ⟨y0, y1, y2, y3, y4⟩ := Qb hp1 rfl rfl rfl rfl rfl;have hx1 := Zh w #[.int .i64 x.rc.kind, .int .i64 x.rc.key, .int .i64 x.rc.ver, .slice a x.rc.data.length c, .int .i64 x.pair] 92;obtain ⟨x0, x1, x2, x3, x4⟩ := Qb hx1 rfl rfl rfl rfl rfl;clear hp hp1 hx1;obtain ⟨R, hR⟩ : ∃ R, R = Y3 x e := ⟨_, rfl⟩;rw [← hR];have HR : Hid _ := hR;clear hR;go_enter Tryz.func180, Tryz.ntmps180;go_wp2_with fail;refine (Zcp x e _ _ _ _ _).mono ?_;rintro r w1 ⟨rfl, g1⟩;have gE := g0.trans g1;have HO : Hid (decide (Zel x e < 0) = R) := by show _ = _; rw [Zp8, HR.out]
 clear g0 g1 x0 x1 x2 x3 x4 y0 y1 y2 y3 y4;generalize Zel x e = o at *;go_wp2_with fail;go_ret;exact ⟨by rw [← HO.out]; rfl, gE⟩
theorem Zvv (x e : Ent) (a b : Option Addr) (c d : Nat) (g : Nat) (w : World) (hp : w.heap[g]? = some (.cells #[.int .i64 e.rc.kind, .int .i64 e.rc.key, .int .i64 e.rc.ver, .slice b e.rc.data.length d, .int .i64 e.pair] 92 (0, 0))) : Calls Tryz.prog 181 #[.agg #[.int .i64 x.rc.kind, .int .i64 x.rc.key, .int .i64 x.rc.ver, .slice a x.rc.data.length c, .int .i64 x.pair], .pointer (some ⟨g, 0, none⟩)] w fun r w' => r = .returned (.bool (Y3 e x)) ∧ Zn w w' := by
 have g0 := Zb w (.cells #[.int .i64 x.rc.kind, .int .i64 x.rc.key, .int .i64 x.rc.ver, .slice a x.rc.data.length c, .int .i64 x.pair] 92);have hp1 := (g0.block _ (Za hp)).trans hp;obtain ⟨y0, y1, y2, y3, y4⟩ := Qb hp1 rfl rfl rfl rfl rfl;have hx1 := Zh w #[.int .i64 x.rc.kind, .int .i64 x.rc.key, .int .i64 x.rc.ver, .slice a x.rc.data.length c, .int .i64 x.pair] 92;obtain ⟨x0, x1, x2, x3, x4⟩ := Qb hx1 rfl rfl rfl rfl rfl;clear hp hp1 hx1;obtain ⟨R, hR⟩ : ∃ R, R = Y3 e x := ⟨_, rfl⟩;rw [← hR];have HR : Hid _ := hR;clear hR;go_enter Tryz.func181, Tryz.ntmps181;go_wp2_with fail;refine (Zcp x e _ _ _ _ _).mono ?_;rintro r w1 ⟨rfl, g1⟩;have gE := g0.trans g1;have HO : Hid (decide (0 < Zel x e) = R) := by show _ = _; rw [Zxi, HR.out]
 clear g0 g1 x0 x1 x2 x3 x4 y0 y1 y2 y3 y4;generalize Zel x e = o at *;go_wp2_with fail;go_ret;exact ⟨by rw [← HO.out]; rfl, gE⟩
theorem Zug (S : Nat → Prop) (l : List Ent) (v : Value) (w : World) (hl : Ys S w v l) (hn : l.length ≤ 1000000) (h8 : ∀ x ∈ l, x.rc.data.length ≤ 8) :
  Calls Tryz.prog 92 #[v] w fun e w' => ∃ v' css, e = .returned v' ∧ Yw Y8 NoS w.heap.size v' l css w' ∧ Zn w w' := by
 obtain ⟨ao, cp, rfl⟩ := hl.form;go_enter Tryz.func92, Tryz.ntmps92;go_wp2_with fail;refine (Zbp 124 #[] (fun _ => true) S l _ w Zmf hl hn h8 (fun x a c w' _ _ => by rw [Array.append_empty]; exact Zur x a c w')).mono ?_;rw [List.filter_eq_self.2 (fun _ _ => rfl)];rintro e w1 ⟨v', css, rfl, hR, g1⟩;obtain ⟨a1, c1, rfl⟩ := hR.form;go_wp2_with fail;go_ret;exact ⟨_, _, rfl, hR, g1⟩
theorem Yw.less {α : Type} {sh : Ql α} {S0 : Nat → Prop} {B B' : Nat} {v : Value} {xs : List α} {css : List (List Value)} {w : World} (h : Yw sh S0 B v xs css w) (hb : B' ≤ B) : Yw sh S0 B' v xs css w :=
 ⟨h.len, fun i hi => (h.each i hi).imp fun _ x => ⟨x.1, sh.mono x.2 fun _ k => Xo k (fun y => y) fun y => ⟨Nat.le_trans hb y.1, y.2⟩⟩, Yj h.row hb⟩
theorem Zrh (S : Nat → Prop) (l : List Ent) (p : Int) (v : Value) (w : World) (hl : Ys S w v l) (hn : l.length ≤ 1000000) (h8 : ∀ x ∈ l, x.rc.data.length ≤ 8) :
  Calls Tryz.prog 157 #[v, .int .i64 p] w fun e w' => ∃ v' css, e = .returned v' ∧ Yw Y8 NoS w.heap.size v' (l.filter fun x => x.pair != p) css w' ∧ Zn w w' := by
 obtain ⟨ao, cp, rfl⟩ := hl.form;have g0 := Zb w (.cells #[.int .i64 p] 3);have hp := Zh w #[.int .i64 p] 3;have s0 := World.size_alloc w (.cells #[.int .i64 p] 3);go_enter Tryz.func157, Tryz.ntmps157;go_wp2_with fail;refine (Zbp 177 #[.pointer (some ⟨w.heap.size, 0, none⟩)] (fun x => x.pair != p) S l _ _ Zj7 (hl.grow g0) hn h8 (fun x a c w' _ hg => Zsj x a c p _ w' ((hg.block _ (Za hp)).trans hp))).mono ?_;rintro e w1 ⟨v', css, rfl, hR, g1⟩;have hR2 := hR.less (B' := w.heap.size) (by rw [s0]; omega);have gE := g0.trans g1;obtain ⟨a1, c1, rfl⟩ := hR.form;clear hR g0 g1 hp s0;go_wp2_with fail;go_ret;exact ⟨_, _, rfl, hR2, gE⟩
theorem Zot (K : Nat) (caps : Array Value) (S : Nat → Prop) (l : List Ent) (v : Value) (w : World) (hK : ∀ (args : Array Value) (w : World), (callFunc K args).run Tryz.prog w = .ok (.enter K args) w) (hl : Ys S w v l) (hn : l.length ≤ 1000000)
  (hc : ∀ (x : Ent) (a : Option Addr) (c : Nat) (w' : World), x ∈ l → Zn w w' → Calls Tryz.prog K (#[.agg #[.int .i64 x.rc.kind, .int .i64 x.rc.key, .int .i64 x.rc.ver, .slice a x.rc.data.length c, .int .i64 x.pair]] ++ caps) w' fun e w2 => e = .returned (.bool false) ∧ Zn w' w2) :
  Calls Tryz.prog 185 #[v, .func (.func K) #[] caps] w fun e w' => e = .returned (.int .i64 (-1)) ∧ Zn w w' := by
 obtain ⟨ao, cp, rfl⟩ := hl.form;go_enter Tryz.func185, Tryz.ntmps185;go_wp2_with fail;go_loopw [8] (fun i wr => ∃ k : Nat, k ≤ l.length ∧ i = .int .i64 k ∧ Zn w wr) (fun i _ => l.length - (intOf i).toNat)
 case atStart => exact ⟨0, Nat.zero_le _, rfl, Zn.refl _⟩
 case round =>
  obtain ⟨k, hk, rfl, hg⟩ := hrel;by_cases hlt : k < l.length
  ·obtain ⟨b, off, a1, c1, hv1, q0, q1, q2, q3, q4, hu⟩ := Jm (hl.grow hg) k hlt;cases hv1;have HM : Hid (l[k] ∈ l) := List.getElem_mem hlt;generalize l[k] = x at *;clear hu;go_wp2_with fail;refine (hc x a1 c1 _ HM.out hg).mono ?_;rintro e w2 ⟨rfl, g2⟩;have gw := hg.trans g2;clear g2 hg q0 q1 q2 q3 q4;go_wp2_with fail;go_roundw
   case rel => exact ⟨k + 1, by omega, by go_num, gw⟩
   case measure => simp [intOf]; omega
  ·go_wp2_with fail;go_ret;exact ⟨rfl, hg⟩
theorem Zh3 (K : Nat) (caps : Array Value) (S : Nat → Prop) (l : List Ent) (v : Value) (w : World) (hK : ∀ (args : Array Value) (w : World), (callFunc K args).run Tryz.prog w = .ok (.enter K args) w) (hl : Ys S w v l) (hn : l.length ≤ 1000000)
  (hc : ∀ (x : Ent) (a : Option Addr) (c : Nat) (w' : World), x ∈ l → Zn w w' → Calls Tryz.prog K (#[.agg #[.int .i64 x.rc.kind, .int .i64 x.rc.key, .int .i64 x.rc.ver, .slice a x.rc.data.length c, .int .i64 x.pair]] ++ caps) w' fun e w2 => e = .returned (.bool false) ∧ Zn w' w2) :
  Calls Tryz.prog 178 #[v, .func (.func K) #[] caps] w fun e w' => e = .returned (.bool false) ∧ Zn w w' := by
 go_enter Tryz.func178, Tryz.ntmps178;go_wp2_with fail;refine (Zot K caps S l v w hK hl hn hc).mono ?_;rintro e w1 ⟨rfl, g1⟩;clear hl hc;go_wp2_with fail;go_ret;exact ⟨rfl, g1⟩
end Go.Proofs.YtpdnapbchcdhlacGreat
