import Derived.Test.YtpdnapbchcdhlacGreatRStepA
import Derived.Test.YtpdnapbchcdhlacGreatPairP
set_option maxHeartbeats 8000000
namespace Go.Proofs.YtpdnapbchcdhlacGreat
set_option maxRecDepth 100000
open Go.RowKit
open Plain Reg
variable {d : Dd} {l : List Rec} {x : Sp}
def Zgh (l : List Rec) (d : Dd) : List Rec := if Yh d = 0 then (doR l d).l else l
def Zgg (l : List Rec) (d : Dd) : Int := if Yh d = 0 then (doR l d).e else Yh d
theorem Zvk (h : (doR l d).e ≠ 0) : (doR l d).l = l := by
 unfold doR at h ⊢;by_cases hk : d.kind = 3
 ·rw [if_pos hk] at h ⊢;cases hf : l.findIdx? (Vp d) with
  | none => rfl
  | some i => rw [hf] at h; exact absurd rfl h
 ·rw [if_neg hk] at h ⊢;by_cases h5 : 5 < l.length
  ·rw [if_pos h5]
  ·rw [if_neg h5] at h ⊢;by_cases hn : 60000 < X9 l
   ·rw [if_pos hn]
   ·rw [if_neg hn] at h; exact absurd rfl h
theorem Zhd : Zgg l d = 0 ↔ Yh d = 0 ∧ (doR l d).e = 0 := by
 unfold Zgg;by_cases h : Yh d = 0
 ·rw [if_pos h]; exact ⟨fun h2 => ⟨h, h2⟩, fun h2 => h2.2⟩
 ·rw [if_neg h]; exact ⟨fun h2 => absurd h2 h, fun h2 => absurd h2.1 h⟩
theorem Zhe (h : x.goes l) : Zgh l x.deed = (doR l x.deed).l := by unfold Zgh; rw [if_pos h.2.1]
theorem Zpz (hk : x.kind = 1) : Xz l x = [Zgh l x.deed] := by
 by_cases h : x.goes l
 ·rw [Zce h hk, Zhe h]
 ·rw [Za1 h];unfold Zgh;split
  ·rename_i hw;rw [Zvk fun he => h ⟨.inl hk, hw, he⟩]
  ·rfl
theorem Zpy (hk : x.kind = 2) (he : Zgg l x.deed = 0) : Xz l x = [l, Zgh l x.deed] := by
 have h : x.goes l := ⟨.inr hk, Zhd.1 he⟩;rw [Zai h (by omega), Zhe h]
theorem Zeb (h : x.kind = 2 → Zgg l x.deed ≠ 0) (h1 : x.kind ≠ 1) : Xz l x = [l] :=
 Za1 fun hg => h (hg.1.resolve_left h1) (Zhd.2 hg.2)
theorem Zj7 (S : Nat → Prop) (l : List Rec) (d : Dd) (v : Value) (a : Option Addr) (c : Nat) (w : World) (hS : ∀ b, S b → b < w.heap.size) (hr : Qp l = true) (hl : Y4 S w v l) (hd : Z1 S w (.slice a d.data.length c) d.data) (hdl : d.data.length ≤ 140737488355328) :
  Calls Tryz.prog 65 #[v, .agg #[.int .i64 d.kind, .int .i64 d.key, .int .i64 d.num, .slice a d.data.length c]] w fun r w' => ∃ v' n, r = .returned (.tuple #[v', .int .i64 n, .int .i64 (Zgg l d)]) ∧ Y4 (Z2 S w.heap.size) w' v' (Zgh l d) ∧ Zl w w' := by
 unfold Zgg Zgh;by_cases h : Yh d = 0
 ·rw [if_pos h, if_pos h];exact (Zxo S l d v a c w hS hr h hl hd).mono fun r w' ⟨v', h1, h2, h3⟩ => ⟨v', _, h1, h2, h3⟩
 ·rw [if_neg h, if_neg h];exact (Zhc S l d v a c w hr h hdl hl hd.p).mono fun r w' ⟨v', h1, h2, h3⟩ => ⟨v', _, h1, h2, h3⟩
theorem Zma : Zgc := by
 intro S l x v ad c w hS hr hl hd hdl;obtain ⟨ao, cp, rfl⟩ := Zt.form hl;have gw := Zb w (.cells #[.int .i64 x.kind, .int .i64 x.n, .int .i64 x.m, .int .i64 x.deed.kind, .int .i64 x.deed.key, .int .i64 x.deed.num, .slice ad x.deed.data.length c] 49);have hX := Zk w #[.int .i64 x.kind, .int .i64 x.n, .int .i64 x.m, .int .i64 x.deed.kind, .int .i64 x.deed.key, .int .i64 x.deed.num, .slice ad x.deed.data.length c] 49;have hlw := Zt.grow hl gw;have hdw := hd.grow gw;have HLN : Hid _ := Vr hr;have HRT : Hid (Qp l = true) := hr;obtain ⟨R, hR⟩ : ∃ R, R = Xz l x := ⟨_, rfl⟩;rw [← hR];have HR : Hid _ := hR;clear hR hr hl hd;go_enter Tryz.func33, Tryz.ntmps33;go_upto_region 1 with fail
 generalize World.alloc w _ = W at *;have p0 := Zc hX 0 _ rfl;have p3 := Zc hX 3 _ rfl;have p4 := Zc hX 4 _ rfl;have p5 := Zc hX 5 _ rfl;have p6 := Zc hX 6 _ rfl;by_cases k1 : x.kind = 1
 ·have d1 : (x.kind == 1) = true := by simp [k1]
  have HL : Hid _ := Zpz (l := l) k1;clear k1;go_wp2_with fail;refine (Zj7 S l x.deed _ ad c W (fun b h => Nat.lt_of_lt_of_le (hS b h) gw.size) HRT.out hlw hdw hdl).mono ?_;generalize Zgg l x.deed = E at *;generalize Zgh l x.deed = D at *;obtain rfl : R = [D] := HR.out.trans HL.out;rintro r w1 ⟨v1, n1, rfl, h1, g1⟩;obtain ⟨a1, c1, rfl⟩ := Zt.form h1;have g2 := Zb w1 (.cells #[.slice a1 D.length c1] 58);have hM := Zk w1 #[.slice a1 D.length c1] 58;have hE := Zfj (S := Z2 S w.heap.size) (.inr (Nat.le_trans gw.size g1.size)) (Nat.le_refl _) (Zc hM 0 _ rfl) ((Zt.grow h1 g2).mono (Z6 (B := w.heap.size) gw.size));have gE := gw.trans (g1.trans g2);clear hM h1 g2 g1 gw hlw hX hdw HR HL p0 p3 p4 p5 p6;go_wp2_with fail;go_ret;exact ⟨_, rfl, hE, gE⟩
 ·have d1 : (x.kind == 1) = false := by simp [k1]
  by_cases k2 : x.kind = 2
  ·have d2 : (x.kind == 2) = true := by simp [k2]
   have HL : Hid (Zgg l x.deed = 0 → Xz l x = [l, Zgh l x.deed]) := Zpy k2;have HA : Hid (Zgg l x.deed ≠ 0 → Xz l x = [l]) := fun h => Zeb (fun _ => h) k1
   clear k1 k2;go_wp2_with fail;refine (Zj7 S l x.deed _ ad c W (fun b h => Nat.lt_of_lt_of_le (hS b h) gw.size) HRT.out hlw hdw hdl).mono ?_;generalize Zgg l x.deed = E at *;generalize Zgh l x.deed = D at *;rintro r w1 ⟨v1, n1, rfl, h1, g1⟩;obtain ⟨a1, c1, rfl⟩ := Zt.form h1;replace hlw := Zt.grow hlw g1;have gW := gw;replace gw := gw.trans g1;clear hX hdw p0 p3 p4 p5 p6;by_cases he : E = 0
   ·have d3 : (E == 0) = true := by simp [he]
    obtain rfl : R = [l, D] := HR.out.trans (HL.out he);clear he HR HL HA;go_wp2_with fail;refine (Vx S l _ _ hlw (by have := HLN.out.1; omega) (fun x hx => (HLN.out.2 x hx).2.2)).mono ?_;rintro r w3 ⟨v3, css, rfl, ho, g3⟩;have hn3 := ho.recs S;obtain ⟨a3, c3, rfl⟩ := Zt.form hn3;have g4 := Zb w3 (.cells #[.slice a3 l.length c3, .slice a1 D.length c1] 58);have hM := Zk w3 #[.slice a3 l.length c3, .slice a1 D.length c1] 58;have hE := Zoo (S := Z2 S w.heap.size) (.inr (Nat.le_trans gw.size g3.size)) (Nat.le_refl _) (Zc hM 0 _ rfl) (Zc hM 1 _ rfl) ((Zt.grow hn3 g4).mono (Z6 (B := w.heap.size) gw.size)) ((Zt.grow h1 (g3.trans g4)).mono (Z6 (B := w.heap.size) gW.size));have gE := gw.trans (g3.trans g4);clear hM hn3 h1 g4 g3 gw hlw ho gW g1;go_wp2_with fail;go_ret;exact ⟨_, rfl, hE, gE⟩
   ·have d3 : (E == 0) = false := by simp [he]
    obtain rfl : R = [l] := HR.out.trans (HA.out he);have hX := trivial;have hdw := trivial;clear he HR HL HA h1 g1 gW;go_wp2_with fail;refine (Vx S l _ _ hlw (by have := HLN.out.1; omega) (fun x hx => (HLN.out.2 x hx).2.2)).mono ?_;rintro r w3 ⟨v3, css, rfl, ho, g3⟩;have hn3 := ho.recs S;obtain ⟨a3, c3, rfl⟩ := Zt.form hn3;have g4 := Zb w3 (.cells #[.slice a3 l.length c3] 58);have hM := Zk w3 #[.slice a3 l.length c3] 58;have hE := Zfj (S := Z2 S w.heap.size) (.inr (Nat.le_trans gw.size g3.size)) (Nat.le_refl _) (Zc hM 0 _ rfl) ((Zt.grow hn3 g4).mono (Z6 (B := w.heap.size) gw.size));have gE := gw.trans (g3.trans g4);clear hM hn3 g4 g3 gw hlw hX ho hdw;go_wp2_with fail;go_ret;exact ⟨_, rfl, hE, gE⟩
  ·have d2 : (x.kind == 2) = false := by simp [k2]
   obtain rfl : R = [l] := HR.out.trans (Zeb (fun h => absurd h k2) k1);clear k1 k2 HR p3 p4 p5 p6;go_wp2_with fail;refine (Vx S l _ _ hlw (by have := HLN.out.1; omega) (fun x hx => (HLN.out.2 x hx).2.2)).mono ?_;rintro r w3 ⟨v3, css, rfl, ho, g3⟩;have hn3 := ho.recs S;obtain ⟨a3, c3, rfl⟩ := Zt.form hn3;have g4 := Zb w3 (.cells #[.slice a3 l.length c3] 58);have hM := Zk w3 #[.slice a3 l.length c3] 58;have hE := Zfj (S := Z2 S w.heap.size) (.inr (Nat.le_trans gw.size g3.size)) (Nat.le_refl _) (Zc hM 0 _ rfl) ((Zt.grow hn3 g4).mono (Z6 (B := w.heap.size) gw.size));have gE := gw.trans (g3.trans g4);clear hM hn3 g4 g3 gw hlw hX ho hdw;go_wp2_with fail;go_ret;exact ⟨_, rfl, hE, gE⟩
theorem Zoa : Zhv := by
 intro S s x v ad c w hS hs hd hA hdl;obtain ⟨ab, cb, al, cl, ai, ci, rfl, hb, hl, -⟩ := hs.form;have g0 := Zq w (.cells #[.slice ab s.dk.blocks.length cb, .slice al s.dk.late.length cl, .slice ai s.idx.length ci, .int .i64 s.next] 29) (.cells #[.int .i64 x.kind, .int .i64 x.n, .int .i64 x.m, .int .i64 x.deed.kind, .int .i64 x.deed.key, .int .i64 x.deed.num, .slice ad x.deed.data.length c] 49);have hs0 := Zk w #[.slice ab s.dk.blocks.length cb, .slice al s.dk.late.length cl, .slice ai s.idx.length ci, .int .i64 s.next] 29;have hx := Zk (w.alloc (.cells #[.slice ab s.dk.blocks.length cb, .slice al s.dk.late.length cl, .slice ai s.idx.length ci, .int .i64 s.next] 29)) #[.int .i64 x.kind, .int .i64 x.n, .int .i64 x.m, .int .i64 x.deed.kind, .int .i64 x.deed.key, .int .i64 x.deed.num, .slice ad x.deed.data.length c] 49;have hss := ((Zb (w.alloc (.cells #[.slice ab s.dk.blocks.length cb, .slice al s.dk.late.length cl, .slice ai s.idx.length ci, .int .i64 s.next] 29)) (.cells #[.int .i64 x.kind, .int .i64 x.n, .int .i64 x.m, .int .i64 x.deed.kind, .int .i64 x.deed.key, .int .i64 x.deed.num, .slice ad x.deed.data.length c] 49)).block _ (Za hs0)).trans hs0;rw [World.size_alloc] at hx;have HF : Hid (s.dk.Fine 900) := hA.ok.disk.mono (by omega);clear hs0 hs hS hd hA hdl;obtain ⟨R, hR⟩ : ∃ R, R = Qb s x := ⟨_, rfl⟩;rw [← hR];have HR : Hid _ := hR;clear hR;obtain ⟨x0, x1⟩ := X1 hx rfl rfl;obtain ⟨s0, s1⟩ := X1 hss rfl rfl;by_cases h3 : x.kind = 3
 ·have d3 : (x.kind != 3) = false := by simp [h3]
  by_cases h0 : x.n < 0
  ·obtain rfl : R = true := by rw [HR.out]; unfold Qb; rw [if_pos (.inr (.inl h0))]
   clear HR h3;go_enter Tryz.func29, Tryz.ntmps29;go_wp2_with fail;go_ret;exact ⟨rfl, g0⟩
  ·by_cases h1 : 192 ≤ x.n
   ·obtain rfl : R = true := by rw [HR.out]; unfold Qb; rw [if_pos (.inr (.inr h1))]
    clear HR h3;go_enter Tryz.func29, Tryz.ntmps29;go_wp2_with fail;go_ret;exact ⟨rfl, g0⟩
   ·have hq : x.n.tdiv 32 = x.n / 32 := Int.tdiv_eq_ediv_of_nonneg (by omega);have HG : Hid (R = decide (s.dk.how (x.n / 32) < 2)) := by show _ = _; rw [HR.out]; unfold Qb; rw [if_neg (by omega)]
    have HH : Hid (0 ≤ s.dk.how (x.n / 32)) := (Zkg s.dk (x.n / 32)).1;clear HR h3;go_enter Tryz.func29, Tryz.ntmps29;go_wp2_with fail;generalize World.alloc (World.alloc w _) _ = W at *;refine (Zvx s.dk (x.n / 32) _ W HF.out ⟨_, _, rfl, hb.p.grow g0, hl.p.grow g0⟩).mono ?_;rintro r w1 ⟨dv, rfl, ho, g1⟩;obtain ⟨a1, c1, rfl⟩ := Z8 ho;have gE := (g0.trans g1).trans (Zb w1 (.cells #[.int .i64 (s.dk.tell (x.n / 32)).kind, .int .i64 (s.dk.tell (x.n / 32)).key, .int .i64 (s.dk.tell (x.n / 32)).ver, .slice a1 (s.dk.tell (x.n / 32)).data.length c1] 61));generalize s.dk.how (x.n / 32) = H at *;clear ho g1 g0 hx hss x0 x1 s0 s1 hb hl hq h0 h1;by_cases e0 : H = 0
    ·have q0 : (H == 0) = true := by simp [e0]
     obtain rfl : R = true := by rw [HG.out, e0]; rfl
     clear HG HH e0;go_wp2_with fail;go_ret;exact ⟨rfl, gE⟩
    ·have q0 : (H == 0) = false := by simp [e0]
     by_cases e1 : H = 1
     ·have q1 : (H == 1) = true := by simp [e1]
      obtain rfl : R = true := by rw [HG.out, e1]; rfl
      clear HG HH e0 e1;go_wp2_with fail;go_ret;exact ⟨rfl, gE⟩
     ·have q1 : (H == 1) = false := by simp [e1]
      obtain rfl : R = false := by rw [HG.out]; exact decide_eq_false (by have := HH.out; omega)
      clear HG HH e0 e1;go_wp2_with fail;go_ret;exact ⟨rfl, gE⟩
 ·have d3 : (x.kind != 3) = true := by simp [h3]
  obtain rfl : R = true := by rw [HR.out]; unfold Qb; rw [if_pos (.inl h3)]
  clear HR h3;go_enter Tryz.func29, Tryz.ntmps29;go_wp2_with fail;go_ret;exact ⟨rfl, g0⟩
def Zxz : Prop := ∀ (S : Nat → Prop) (s : St) (x : Sp) (v : Value) (ad : Option Addr) (c : Nat) (w : World), (∀ b, S b → b < w.heap.size) → Yc S s v w → Z1 S w (.slice ad x.deed.data.length c) x.deed.data → s.At → x.deed.data.length ≤ 140737488355328 →
 Calls Tryz.prog 20 #[v, .agg #[.int .i64 x.kind, .int .i64 x.n, .int .i64 x.m, .int .i64 x.deed.kind, .int .i64 x.deed.key, .int .i64 x.deed.num, .slice ad x.deed.data.length c]] w fun r w' => ∃ v', r = .returned (.tuple #[v', .int .i64 (s.step x).n, .int .i64 (s.step x).e]) ∧ Yc (Z2 S w.heap.size) (s.step x).st v' w' ∧ Zl w w'
def Q9 (x y : Int) : Int := if x < y then -1 else if y < x then 1 else 0
def Zdr (x y : Ent) : Int := if Q9 x.rc.key y.rc.key ≠ 0 then Q9 x.rc.key y.rc.key else if Q9 x.rc.ver y.rc.ver ≠ 0 then Q9 x.rc.ver y.rc.ver else Q9 x.pair y.pair
theorem Jm (x y : Int) : Q9 x y = 0 ↔ x = y := by unfold Q9; split <;> (try split) <;> omega
theorem Zim (x y : Int) : Q9 x y < 0 ↔ x < y := by unfold Q9; split <;> (try split) <;> omega
theorem Zin (x y : Int) : 0 < Q9 x y ↔ y < x := by unfold Q9; split <;> (try split) <;> omega
theorem Zob (x y : Ent) : (decide (Zdr x y < 0)) = Yw x y := by
 rw [Bool.eq_iff_iff, decide_eq_true_eq];unfold Zdr Yw;by_cases hk : x.rc.key = y.rc.key
 ·rw [if_neg (by simpa using (Jm _ _).2 hk), if_pos hk];by_cases hv : x.rc.ver = y.rc.ver
  ·rw [if_neg (by simpa using (Jm _ _).2 hv), if_pos hv, Zim, decide_eq_true_eq]
  ·rw [if_pos (fun h => hv ((Jm _ _).1 h)), if_neg hv, Zim, decide_eq_true_eq]
 ·rw [if_pos (fun h => hk ((Jm _ _).1 h)), if_neg hk, Zim, decide_eq_true_eq]
theorem Zuz (x y : Ent) : (decide (0 < Zdr x y)) = Yw y x := by
 rw [Bool.eq_iff_iff, decide_eq_true_eq];unfold Zdr Yw;by_cases hk : x.rc.key = y.rc.key
 ·rw [if_neg (by simpa using (Jm _ _).2 hk), if_pos hk.symm];by_cases hv : x.rc.ver = y.rc.ver
  ·rw [if_neg (by simpa using (Jm _ _).2 hv), if_pos hv.symm, Zin, decide_eq_true_eq]
  ·rw [if_pos (fun h => hv ((Jm _ _).1 h)), if_neg (fun h => hv h.symm), Zin, decide_eq_true_eq]
 ·rw [if_pos (fun h => hk ((Jm _ _).1 h)), if_neg (fun h => hk h.symm), Zin, decide_eq_true_eq]
theorem Zon {P : Program} {w w' : World} {R : Value → World → Prop} {o : Oper} {ev : Operand → Value} {v : Value} (h : (execOp ev o).run P w = .ok (.value v) w') (hg : Zl w w') (hv : R v w') : upon P w R ((execOp ev o).run P w) := by
 rw [h]; exact ⟨hg, hv⟩
theorem Zbn (x : Int) (w : World) : Calls Tryz.prog 150 #[.int .i64 x] w fun e w' => e = .returned (.bool false) ∧ w' = w := by
 have d0 : (x != x) = false := by simp
 go_enter Tryz.func150, Tryz.ntmps150;go_wp2_with fail;go_ret;exact ⟨rfl, rfl⟩
theorem Zil (x y : Int) (w : World) : Calls Tryz.prog 113 #[.int .i64 x, .int .i64 y] w fun e w' => e = .returned (.int .i64 (Q9 x y)) ∧ w' = w := by
 by_cases h1 : x < y
 ·have HC : Hid (Q9 x y = -1) := by show _ = _; unfold Q9; rw [if_pos h1]
  rw [HC.out];go_enter Tryz.func113, Tryz.ntmps113;go_wp2_with fail;refine (Zbn _ _).mono ?_;rintro e w1 ⟨rfl, rfl⟩;go_wp2_with fail;refine (Zbn _ _).mono ?_;rintro e w1 ⟨rfl, rfl⟩;go_wp2_with fail;go_ret;exact ⟨rfl, rfl⟩
 ·by_cases h2 : y < x
  ·have HC : Hid (Q9 x y = 1) := by show _ = _; unfold Q9; rw [if_neg h1, if_pos h2]
   rw [HC.out];go_enter Tryz.func113, Tryz.ntmps113;go_wp2_with fail;refine (Zbn _ _).mono ?_;rintro e w1 ⟨rfl, rfl⟩;go_wp2_with fail;refine (Zbn _ _).mono ?_;rintro e w1 ⟨rfl, rfl⟩;go_wp2_with fail;go_ret;exact ⟨rfl, rfl⟩
  ·have HC : Hid (Q9 x y = 0) := by show _ = _; unfold Q9; rw [if_neg h1, if_neg h2]
   rw [HC.out];go_enter Tryz.func113, Tryz.ntmps113;go_wp2_with fail;refine (Zbn _ _).mono ?_;rintro e w1 ⟨rfl, rfl⟩;go_wp2_with fail;refine (Zbn _ _).mono ?_;rintro e w1 ⟨rfl, rfl⟩;go_wp2_with fail;go_ret;exact ⟨rfl, rfl⟩
def orN : List Int → Int
 | [] => 0
 | v :: l => if v ≠ 0 then v else orN l
theorem Zwu (vs : List Int) (b cap : Nat) (w : World) (hn : vs.length ≤ 1000) (hc : ∀ (j : Nat) (h : j < vs.length), w.cell? ⟨b, j, none⟩ = some (.int .i64 vs[j])) :
  Calls Tryz.prog 112 #[.slice (some ⟨b, 0, none⟩) vs.length cap] w fun e w' => e = .returned (.int .i64 (orN vs)) ∧ Zl w w' := by
 obtain ⟨R, hR⟩ : ∃ R, R = orN vs := ⟨_, rfl⟩;rw [← hR];have HR : Hid _ := hR;clear hR;go_enter Tryz.func112, Tryz.ntmps112;go_wp2_with fail;go_loopw [8] (fun i wr => ∃ k : Nat, k ≤ vs.length ∧ i = .int .i64 k ∧ R = orN (vs.drop k) ∧ Zl w wr) (fun i _ => vs.length - (intOf i).toNat)
 case atStart => exact ⟨0, Nat.zero_le _, rfl, HR.out, Zl.refl _⟩
 case round =>
  obtain ⟨k, hk, rfl, hRk, hg⟩ := hrel;have HK : Hid (R = orN (vs.drop k)) := hRk;clear hRk;by_cases hlt : k < vs.length
  ·have q0 := (Below.cell hg (Zs (hc k hlt))).trans (hc k hlt);have HX : Hid (R = if vs[k] ≠ 0 then vs[k] else orN (vs.drop (k + 1))) := by show R = _; rw [HK.out, List.drop_eq_getElem_cons hlt]; rfl
   generalize vs[k] = x at *;clear HK;by_cases hx : x = 0
   ·have HY : Hid (R = orN (vs.drop (k + 1))) := by show R = _; rw [HX.out, if_neg (by simpa using hx)]
    have d0 : (x != 0) = false := by simp [hx]
    clear HX hx;go_wp2_with fail;go_roundw
    case rel => exact ⟨k + 1, by omega, by go_num, HY.out, hg⟩
    case measure => simp [intOf]; omega
   ·have HY : Hid (R = x) := by show R = _; rw [HX.out, if_pos hx]
    have d0 : (x != 0) = true := by simp [hx]
    clear HX hx;go_wp2_with fail;go_ret;exact ⟨by rw [HY.out]; rfl, hg⟩
  ·have HY : Hid (R = 0) := by show R = _; rw [HK.out, List.drop_eq_nil_of_le (by omega)]; rfl
   clear HK;go_wp2_with fail;go_ret;exact ⟨by rw [HY.out]; rfl, hg⟩
theorem Zsm (x y : Ent) : orN [Q9 x.rc.key y.rc.key, Q9 x.rc.ver y.rc.ver, Q9 x.pair y.pair] = Zdr x y := by
 unfold Zdr;simp only [orN];split
 ·rfl
 ·split
  ·rfl
  ·split
   ·rfl
   ·rename_i h; exact (Decidable.of_not_not h).symm
def Znl (n0 n1 n2 : Int) (v : Value) (w : World) : Prop := ∃ g, v = .slice (some ⟨g, 0, none⟩) 3 3 ∧ w.heap[g]? = some (.cells #[.int .i64 n0, .int .i64 n1, .int .i64 n2] 3 (0, 0))
theorem Zou (n0 n1 n2 : Int) : Xq (Znl n0 n1 n2) := by
 rintro v w w' hg ⟨g, h1, h2⟩; exact ⟨g, h1, (hg.block _ (Za h2)).trans h2⟩
theorem Zbm (x y : Ent) (a0 a1 : Option Addr) (c0 c1 : Nat) (w : World) :
  Calls Tryz.prog 74 #[.agg #[.int .i64 x.rc.kind, .int .i64 x.rc.key, .int .i64 x.rc.ver, .slice a0 x.rc.data.length c0, .int .i64 x.pair], .agg #[.int .i64 y.rc.kind, .int .i64 y.rc.key, .int .i64 y.rc.ver, .slice a1 y.rc.data.length c1, .int .i64 y.pair]] w fun e w' => e = .returned (.int .i64 (Zdr x y)) ∧ Zl w w' := by
 have g0 := Zq w (.cells #[.int .i64 x.rc.kind, .int .i64 x.rc.key, .int .i64 x.rc.ver, .slice a0 x.rc.data.length c0, .int .i64 x.pair] 92) (.cells #[.int .i64 y.rc.kind, .int .i64 y.rc.key, .int .i64 y.rc.ver, .slice a1 y.rc.data.length c1, .int .i64 y.pair] 92);have hx0 := Zk w #[.int .i64 x.rc.kind, .int .i64 x.rc.key, .int .i64 x.rc.ver, .slice a0 x.rc.data.length c0, .int .i64 x.pair] 92;have hy0 := Zk (w.alloc (.cells #[.int .i64 x.rc.kind, .int .i64 x.rc.key, .int .i64 x.rc.ver, .slice a0 x.rc.data.length c0, .int .i64 x.pair] 92)) #[.int .i64 y.rc.kind, .int .i64 y.rc.key, .int .i64 y.rc.ver, .slice a1 y.rc.data.length c1, .int .i64 y.pair] 92;have hx1 := ((Zb (w.alloc (.cells #[.int .i64 x.rc.kind, .int .i64 x.rc.key, .int .i64 x.rc.ver, .slice a0 x.rc.data.length c0, .int .i64 x.pair] 92)) (.cells #[.int .i64 y.rc.kind, .int .i64 y.rc.key, .int .i64 y.rc.ver, .slice a1 y.rc.data.length c1, .int .i64 y.pair] 92)).block _ (Za hx0)).trans hx0;rw [World.size_alloc] at hy0;clear hx0;obtain ⟨R, hR⟩ : ∃ R, R = Zdr x y := ⟨_, rfl⟩;rw [← hR];have HR : Hid _ := hR;clear hR;go_enter Tryz.func74, Tryz.ntmps74;go_wp2_with fail;generalize World.alloc (World.alloc w _) _ = W at *
 refine Z9 [ex (.pointer (some ⟨w.heap.size, 0, none⟩)), ex (.pointer (some ⟨w.heap.size, 1, none⟩)), ex (.int .i64 x.rc.key), ex (.pointer (some ⟨w.heap.size + 1, 0, none⟩)), ex (.pointer (some ⟨w.heap.size + 1, 1, none⟩)), ex (.int .i64 y.rc.key), ex (.int .i64 (Q9 x.rc.key y.rc.key)), ex (.pointer (some ⟨w.heap.size, 0, none⟩)), ex (.pointer (some ⟨w.heap.size, 2, none⟩)), ex (.int .i64 x.rc.ver), ex (.pointer (some ⟨w.heap.size + 1, 0, none⟩)), ex (.pointer (some ⟨w.heap.size + 1, 2, none⟩)), ex (.int .i64 y.rc.ver), ex (.int .i64 (Q9 x.rc.ver y.rc.ver)), ex (.pointer (some ⟨w.heap.size, 4, none⟩)), ex (.int .i64 x.pair), ex (.pointer (some ⟨w.heap.size + 1, 4, none⟩)), ex (.int .i64 y.pair), ex (.int .i64 (Q9 x.pair y.pair)), ((Znl (Q9 x.rc.key y.rc.key) (Q9 x.rc.ver y.rc.ver) (Q9 x.pair y.pair))), ex (.int .i64 R), ex (.int .i64 R)] (by kernel_rfl) (by kernel_rfl) ⟨Zj _, Zj _, Zj _, Zj _, Zj _, Zj _, Zj _, Zj _, Zj _, Zj _, Zj _, Zj _, Zj _, Zj _, Zj _, Zj _, Zj _, Zj _, Zj _, Zou _ _ _, Zj _, Zj _, trivial⟩ ?_ ?_
 ·refine ⟨?_, ?_, ?_, ?_, ?_, ?_, ?_, ?_, ?_, ?_, ?_, ?_, ?_, ?_, ?_, ?_, ?_, ?_, ?_, ?_, ?_, ?_, trivial⟩
  ·refine Ze rfl fun a _ _ _ B A => ?_;have e2 : a (.tmp 2) = .pointer (some ⟨w.heap.size, 0, none⟩) := Zy A 2 rfl;refine Zn ?_ rfl;clear A B;go_simp;all_goals go_arith
  ·refine Ze rfl fun a _ _ _ B A => ?_;have e5 : a (.tmp 5) = _ := Zg A 0 rfl;refine Zn ?_ rfl;clear A B;go_simp;all_goals go_arith
  ·refine Ze rfl fun a _ _ _ B A => ?_;have e6 : a (.tmp 6) = _ := Zg A 1 rfl;have h1 := Zc ((B.block _ (Za hx1)).trans hx1) 1 _ rfl;refine Zn ?_ rfl;clear A B;go_simp;all_goals go_arith
  ·refine Ze rfl fun a _ _ _ B A => ?_;have e3 : a (.tmp 3) = .pointer (some ⟨w.heap.size + 1, 0, none⟩) := Zy A 3 rfl;refine Zn ?_ rfl;clear A B;go_simp;all_goals go_arith
  ·refine Ze rfl fun a _ _ _ B A => ?_;have e8 : a (.tmp 8) = _ := Zg A 3 rfl;refine Zn ?_ rfl;clear A B;go_simp;all_goals go_arith
  ·refine Ze rfl fun a _ _ _ B A => ?_;have e9 : a (.tmp 9) = _ := Zg A 4 rfl;have h1 := Zc ((B.block _ (Za hy0)).trans hy0) 1 _ rfl;refine Zn ?_ rfl;clear A B;go_simp;all_goals go_arith
  ·refine Ze rfl fun a B _ _ C A => ?_;have e7 : a (.tmp 7) = _ := Zg A 2 rfl;have e10 : a (.tmp 10) = _ := Zg A 5 rfl;refine Y0 (f := 113) (args := #[.int .i64 x.rc.key, .int .i64 y.rc.key]) ?_ ((Zil _ _ B).mono ?_)
   ·clear A C;go_simp;all_goals go_arith
   ·rintro e w2 ⟨rfl, rfl⟩;exact ⟨_, rfl, Zl.refl _, rfl⟩
  ·refine Ze rfl fun a _ _ _ B A => ?_;have e2 : a (.tmp 2) = .pointer (some ⟨w.heap.size, 0, none⟩) := Zy A 2 rfl;refine Zn ?_ rfl;clear A B;go_simp;all_goals go_arith
  ·refine Ze rfl fun a _ _ _ B A => ?_;have e12 : a (.tmp 12) = _ := Zg A 7 rfl;refine Zn ?_ rfl;clear A B;go_simp;all_goals go_arith
  ·refine Ze rfl fun a _ _ _ B A => ?_;have e13 : a (.tmp 13) = _ := Zg A 8 rfl;have h1 := Zc ((B.block _ (Za hx1)).trans hx1) 2 _ rfl;refine Zn ?_ rfl;clear A B;go_simp;all_goals go_arith
  ·refine Ze rfl fun a _ _ _ B A => ?_;have e3 : a (.tmp 3) = .pointer (some ⟨w.heap.size + 1, 0, none⟩) := Zy A 3 rfl;refine Zn ?_ rfl;clear A B;go_simp;all_goals go_arith
  ·refine Ze rfl fun a _ _ _ B A => ?_;have e15 : a (.tmp 15) = _ := Zg A 10 rfl;refine Zn ?_ rfl;clear A B;go_simp;all_goals go_arith
  ·refine Ze rfl fun a _ _ _ B A => ?_;have e16 : a (.tmp 16) = _ := Zg A 11 rfl;have h1 := Zc ((B.block _ (Za hy0)).trans hy0) 2 _ rfl;refine Zn ?_ rfl;clear A B;go_simp;all_goals go_arith
  ·refine Ze rfl fun a B _ _ C A => ?_;have e14 : a (.tmp 14) = _ := Zg A 9 rfl;have e17 : a (.tmp 17) = _ := Zg A 12 rfl;refine Y0 (f := 113) (args := #[.int .i64 x.rc.ver, .int .i64 y.rc.ver]) ?_ ((Zil _ _ B).mono ?_)
   ·clear A C;go_simp;all_goals go_arith
   ·rintro e w2 ⟨rfl, rfl⟩;exact ⟨_, rfl, Zl.refl _, rfl⟩
  ·refine Ze rfl fun a _ _ _ B A => ?_;have e2 : a (.tmp 2) = .pointer (some ⟨w.heap.size, 0, none⟩) := Zy A 2 rfl;refine Zn ?_ rfl;clear A B;go_simp;all_goals go_arith
  ·refine Ze rfl fun a _ _ _ B A => ?_;have e19 : a (.tmp 19) = _ := Zg A 14 rfl;have h1 := Zc ((B.block _ (Za hx1)).trans hx1) 4 _ rfl;refine Zn ?_ rfl;clear A B;go_simp;all_goals go_arith
  ·refine Ze rfl fun a _ _ _ B A => ?_;have e3 : a (.tmp 3) = .pointer (some ⟨w.heap.size + 1, 0, none⟩) := Zy A 3 rfl;refine Zn ?_ rfl;clear A B;go_simp;all_goals go_arith
  ·refine Ze rfl fun a _ _ _ B A => ?_;have e21 : a (.tmp 21) = _ := Zg A 16 rfl;have h1 := Zc ((B.block _ (Za hy0)).trans hy0) 4 _ rfl;refine Zn ?_ rfl;clear A B;go_simp;all_goals go_arith
  ·refine Ze rfl fun a B _ _ C A => ?_;have e20 : a (.tmp 20) = _ := Zg A 15 rfl;have e22 : a (.tmp 22) = _ := Zg A 17 rfl;refine Y0 (f := 113) (args := #[.int .i64 x.pair, .int .i64 y.pair]) ?_ ((Zil _ _ B).mono ?_)
   ·clear A C;go_simp;all_goals go_arith
   ·rintro e w2 ⟨rfl, rfl⟩;exact ⟨_, rfl, Zl.refl _, rfl⟩
  ·refine Ze rfl fun a w' _ _ B A => ?_;have e11 : a (.tmp 11) = _ := Zg A 6 rfl;have e18 : a (.tmp 18) = _ := Zg A 13 rfl;have e23 : a (.tmp 23) = _ := Zg A 18 rfl;refine Zon (v := .slice (some ⟨w'.heap.size, 0, none⟩) 3 3) (w' := w'.alloc (.cells #[.int .i64 (Q9 x.rc.key y.rc.key), .int .i64 (Q9 x.rc.ver y.rc.ver), .int .i64 (Q9 x.pair y.pair)] 3)) ?_ (Zb _ _) ⟨_, rfl, Zk _ _ _⟩;clear A B;go_simp;all_goals go_arith
  ·refine Ze rfl fun a B _ _ C A => ?_;have e24 : ((Znl (Q9 x.rc.key y.rc.key) (Q9 x.rc.ver y.rc.ver) (Q9 x.pair y.pair))) (a (.tmp 24)) B := Zg A 19 rfl;obtain ⟨g, h24, h3⟩ := e24;refine Y0 (f := 112) (args := #[.slice (some ⟨g, 0, none⟩) 3 3]) ?_ ((Zwu [Q9 x.rc.key y.rc.key, Q9 x.rc.ver y.rc.ver, Q9 x.pair y.pair] g 3 B (by simp) (fun j hj => by
    have hj3 : j < 3 := hj
    match j, hj3 with
    | 0, _ => exact Zc h3 0 _ rfl
    | 1, _ => exact Zc h3 1 _ rfl
    | 2, _ => exact Zc h3 2 _ rfl)).mono ?_)
   ·clear A C h3;go_simp;all_goals go_arith
   ·rw [Zsm, ← HR.out];rintro e w2 ⟨rfl, g2⟩;exact ⟨_, rfl, g2, rfl⟩
  ·exact Ze rfl fun a _ _ _ _ A => Yz rfl (Zg A 20 rfl)
 ·intro vs w' hg ht;obtain ⟨q5, q6, q7, q8, q9, q10, q11, q12, q13, q14, q15, q16, q17, q18, q19, q20, q21, q22, q23, q24, q25, q4, -⟩ := ht;have r5 : vs 0 = _ := q5;have r6 : vs 1 = _ := q6;have r7 : vs 2 = _ := q7;have r8 : vs 3 = _ := q8;have r9 : vs 4 = _ := q9;have r10 : vs 5 = _ := q10;have r11 : vs 6 = _ := q11;have r12 : vs 7 = _ := q12;have r13 : vs 8 = _ := q13;have r14 : vs 9 = _ := q14;have r15 : vs 10 = _ := q15;have r16 : vs 11 = _ := q16;have r17 : vs 12 = _ := q17;have r18 : vs 13 = _ := q18;have r19 : vs 14 = _ := q19;have r20 : vs 15 = _ := q20;have r21 : vs 16 = _ := q21;have r22 : vs 17 = _ := q22;have r23 : vs 18 = _ := q23;have r25 : vs 20 = _ := q25;have r4 : vs 21 = _ := q4;clear q5 q6 q7 q8 q9 q10 q11 q12 q13 q14 q15 q16 q17 q18 q19 q20 q21 q22 q23 q25 q4;simp only [Ye, Act.put, List.setIfInBounds_toArray, List.set_cons_zero, List.set_cons_succ, r5, r6, r7, r8, r9, r10, r11, r12, r13, r14, r15, r16, r17, r18, r19, r20, r21, r22, r23, r25, r4];clear r5 r6 r7 r8 r9 r10 r11 r12 r13 r14 r15 r16 r17 r18 r19 r20 r21 r22 r23 r25 r4;have gE := g0.trans hg;clear q24 hg hx1 hy0 g0;go_wp2_with fail;go_ret;exact ⟨rfl, gE⟩
end Go.Proofs.YtpdnapbchcdhlacGreat
