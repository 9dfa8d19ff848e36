import Derived.Test.YtpdnapbchcdhlabGreatPRead
set_option maxHeartbeats 8000000
namespace Go.Proofs.YtpdnapbchcdhlabGreat
set_option maxRecDepth 100000
open Go.RowKit
open Plain Reg
theorem Zmj (K : Nat) (caps : Array Value) (p : Int) (w : World) (h : p < 0 ∨ 6 ≤ p) :
  Calls Tryz.prog 70 #[.int .i64 p, .func (.func K) #[] caps] w fun e w' => e = .returned (.int .i64 3) ∧ w = w' := by
 by_cases h0 : p < 0
 ·clear h;go_enter Tryz.func70, Tryz.ntmps70;go_wp2_with fail;go_ret;exact ⟨rfl, rfl⟩
 ·have h1 : 6 ≤ p := by omega
  have h2 : 0 ≤ p := by omega
  clear h h0;go_enter Tryz.func70, Tryz.ntmps70;go_wp2_with fail;go_ret;exact ⟨rfl, rfl⟩
theorem Zhj (K : Nat) (caps : Array Value) (p : Int) (w : World) (h0 : 0 ≤ p) (h1 : p < 6) (hK : ∀ (args : Array Value) (w : World), (callFunc K args).run Tryz.prog w = .ok (.enter K args) w) (I : Nat → World → Prop) (F : Int → World → Prop) (hI : I 0 w)
  (hc : ∀ (n : Nat) (w : World), n < 2 → I n w → Calls Tryz.prog K (#[.int .i64 (p * 2 + (n : Int))] ++ caps) w fun e w' => ∃ E : Int, e = .returned (.int .i64 E) ∧ (E = 0 → I (n + 1) w') ∧ (E ≠ 0 → F E w')) :
  Calls Tryz.prog 70 #[.int .i64 p, .func (.func K) #[] caps] w fun e w' => ∃ E : Int, e = .returned (.int .i64 E) ∧ (E = 0 → I 2 w') ∧ (E ≠ 0 → F E w') := by
 go_enter Tryz.func70, Tryz.ntmps70;go_wp2_with fail;go_loopw [13] (fun i wr => ∃ k : Nat, k ≤ 2 ∧ i = .int .i64 k ∧ I k wr) (fun i _ => 2 - (intOf i).toNat)
 case atStart => exact ⟨0, by omega, rfl, hI⟩
 case round =>
  obtain ⟨k, hk, rfl, hIk⟩ := hrel;by_cases hlt : k < 2
  ·go_wp2_with fail;refine (hc k _ hlt hIk).mono ?_;rintro e w1 ⟨E, rfl, hE0, hE1⟩;by_cases hE : E = 0
   ·subst hE;have hI1 := hE0 rfl;clear hE0 hE1;go_wp2_with fail;go_roundw
    case rel => exact ⟨k + 1, by omega, by go_num, hI1⟩
    case measure => simp [intOf]; omega
   ·have d0 : (E != 0) = true := by simp [hE]
    have hF := hE1 hE;clear hE0 hE1;go_wp2_with fail;go_ret;exact ⟨E, rfl, fun h => absurd h hE, fun _ => hF⟩
  ·have hk2 : k = 2 := by omega
   subst hk2;go_wp2_with fail;go_ret;exact ⟨0, rfl, fun _ => hIk, fun h => absurd rfl h⟩
variable {o : Obj} {rs : List Rec} {tv : Value} {us : List Value} {vd : Array Value} {w w' w0 w3 : World}
structure K9 (w0 : World) (vd : Array Value) (s : Int) (rs : List Rec) (tv : Value) (us : List Value) (w : World) : Prop where
 grow : Zo w0 w
 disk : w.heap[w0.heap.size]? = some (.cells vd 30 (0, 0))
 told : w.heap[w0.heap.size + 1 + 1]? = some (.cells #[tv] 47 (0, 0))
 bad : w.heap[w0.heap.size + 1 + 1 + 1]? = some (.cells #[.int .i64 s] 3 (0, 0))
 rows : Ve (w0.heap.size + 1 + 1 + 1 + 1) tv rs us w
theorem K9.on {s : Int} (h : K9 w0 vd s rs tv us w) (hg : Zo w w') : K9 w0 vd s rs tv us w' :=
 ⟨h.grow.trans hg, (hg.block _ (Za h.disk)).trans h.disk, (hg.block _ (Za h.told)).trans h.told, (hg.block _ (Za h.bad)).trans h.bad, h.rows.grow hg⟩
theorem K9.but {s : Int} (h : K9 w0 vd s rs tv us w) (hg : Zt (w0.heap.size + 1) w w') : K9 w0 vd s rs tv us w' :=
 ⟨hg.grow h.grow (by omega), (hg.block _ (Za h.disk) (by omega)).trans h.disk, (hg.block _ (Za h.told) (by omega)).trans h.told, (hg.block _ (Za h.bad) (by omega)).trans h.bad, h.rows.other hg (by omega)⟩
def Zso : Obj := .cells #[.int .i64 0, .int .i64 0, .int .i64 0, .slice none 0 0] 51 (0, 0)
def Zac (w0 : World) (vd : Array Value) (s : Int) (rs : List Rec) (w : World) : Prop := (∃ tv us, K9 w0 vd s rs tv us w) ∧ w.heap[w0.heap.size + 1]? = some Zso
theorem K9.less {s : Int} (h : K9 w0 vd s rs tv us w) (s' : Int) : K9 w0 vd s' rs tv us (w.setCell ⟨w0.heap.size + 1 + 1 + 1, 0, none⟩ (.int .i64 s')) := by
 have hg : Zt (w0.heap.size + 1 + 1 + 1) w (w.setCell ⟨w0.heap.size + 1 + 1 + 1, 0, none⟩ (.int .i64 s')) := (Zt.refl _ _).set _ _ _;refine ⟨hg.grow h.grow (by omega), (hg.block _ (Za h.disk) (by omega)).trans h.disk, (hg.block _ (Za h.told) (by omega)).trans h.told, ?_, h.rows.other hg (by omega)⟩;have := Yg h.bad 0 (.int .i64 s');simpa using this
theorem K9.more {s : Int} {v' u : Value} {r : Rec} (h : K9 w0 vd s rs tv us w) (hg : (w.alloc o).grownBy w3 tv.ownBlock)
  (hown : w3.ownsRow (w0.heap.size + 1 + 1 + 1 + 1) 51 4 v' (rs.length + 1) (K3 rs us ++ [.int .i64 r.kind, .int .i64 r.key, .int .i64 r.ver, u])) (hu : w.ownsRow (w0.heap.size + 1 + 1 + 1 + 1) 5 1 u r.data.length (r.data.map bv)) :
  K9 w0 vd s (rs ++ [r]) v' (us ++ [u]) (w3.setCell ⟨w0.heap.size + 1 + 1, 0, none⟩ v') := by
 have hsz := Za h.bad;have hB := J9 (by omega) h.rows.row hg;have hS : Ve _ v' (rs ++ [r]) (us ++ [u]) w3 := Ve.snoc h.rows.len hown (fun i hi => (h.rows.each i hi).imp fun _ x => ⟨x.1, Zas h.rows.row hg (by decide) x.2⟩) (Zas h.rows.row hg (by decide) hu);have g3 : Zo w0 w3 := Z8 (h.grow.trans (Zd _ _)) hg (fun k hk => by have := (h.rows.row.lt k hk).1; omega);have hb : Zt (w0.heap.size + 1 + 1) w3 (w3.setCell ⟨w0.heap.size + 1 + 1, 0, none⟩ v') := (Zt.refl _ _).set _ _ _;have k1 := (hB.block _ (by omega)).trans h.disk;have k2 := (hB.block _ (by omega)).trans h.told;have k3 := (hB.block _ (by omega)).trans h.bad;refine ⟨hb.grow g3 (by omega), (hb.block _ (Za k1) (by omega)).trans k1, ?_, (hb.block _ (Za k3) (by omega)).trans k3, hS.other hb (by omega)⟩;have := Yg k2 0 v';simpa using this
theorem K9.keeps {s : Int} {x : Value} {o' : Obj} (h : K9 w0 vd s rs tv us w) (hg : (w.alloc o).grownBy w3 tv.ownBlock) (hz : w.heap[w0.heap.size + 1]? = some o') : (w3.setCell ⟨w0.heap.size + 1 + 1, 0, none⟩ x).heap[w0.heap.size + 1]? = some o' := by
 have hsz := Za h.bad;have hB := J9 (by omega) h.rows.row hg;have hb : Zt (w0.heap.size + 1 + 1) w3 (w3.setCell ⟨w0.heap.size + 1 + 1, 0, none⟩ x) := (Zt.refl _ _).set _ _ _;have k1 := (hB.block _ (by omega)).trans hz;exact (hb.block _ (Za k1) (by omega)).trans k1
def Zam (d : Dk) (a : Int) : List Rec := if (Yb d a).kind = 1 then [] else [Yb d a]
theorem Zrh (d : Dk) (pa s E : Int) (rs : List Rec) (r : Rec) (vb vl : Value) (w0 w : World) (hF : d.Fine 1000) (hd : Vg d (.agg #[vb, vl]) w0) (h0 : 0 ≤ pa) (h1 : pa < 12) (HX : Hid (E = Qj d pa)) (HR : Hid (r = Y4 (Y6 d pa) pa)) (hE : E ≠ 0) (hV : Zac w0 #[vb, vl] s rs w) :
  Calls Tryz.prog 117 #[.int .i64 pa, .pointer (some ⟨w0.heap.size, 0, none⟩), .pointer (some ⟨w0.heap.size + 1 + 1 + 1, 0, none⟩), .pointer (some ⟨w0.heap.size + 1 + 1, 0, none⟩)] w fun e w' => e = .returned (.int .i64 0) ∧ Zac w0 #[vb, vl] s rs w' := by
 obtain ⟨ab, cb, al, cl, hv, hb, hl⟩ := hd.form;cases hv;obtain ⟨⟨tv, us, hV⟩, hZ⟩ := hV;have hdw : Vg d (.agg #[.slice ab d.blocks.length cb, .slice al d.late.length cl]) w := Zf4 _ _ _ _ hV.grow hd;have x0 := Ze hV.disk 0 _ rfl;have x1 := Ze hV.disk 1 _ rfl;have hB : w0.heap.size + 1 + 1 + 1 + 1 ≤ w.heap.size := Za hV.bad;have HC : Hid _ := hB;clear hb hl hB;go_enter Tryz.func117, Tryz.ntmps117;go_wp2_with fail;refine (Zeo d pa _ _ hF hdw h0 h1).mono ?_;rw [← HX.out, ← HR.out];rintro e w1 ⟨dv, rfl, ho, g1⟩;obtain ⟨a1, c1, rfl⟩ := Z4 ho;have hV1 := hV.on g1;have hZ1 := (g1.block _ (Za hZ)).trans hZ;have ho1 := Yf ho (base' := w0.heap.size + 1 + 1 + 1 + 1) HC.out;have g2 := Zd w1 (.cells #[.int .i64 r.kind, .int .i64 r.key, .int .i64 r.ver, .slice a1 r.data.length c1] 51);have hR2 := Zj w1 #[.int .i64 r.kind, .int .i64 r.key, .int .i64 r.ver, .slice a1 r.data.length c1] 51;have hV2 := hV1.on g2;have hZ2 := (g2.block _ (Za hZ1)).trans hZ1;have ho2 := Z6 ho1 g2;have HSZ : Hid (w0.heap.size + 1 + 1 + 1 + 1 ≤ w1.heap.size) := Nat.le_trans HC.out g1.size;have hne : w1.heap.size ≠ w0.heap.size + 1 + 1 + 1 := fun h => by have := Za hV1.bad; omega
 clear x0 x1 hV hZ hdw ho ho1 hd g1 hV1 hZ1 g2;have d0 : (E == 0) = false := Qq hE;clear hne hR2 ho2 hE;go_wp2_with fail;go_ret;exact ⟨rfl, ⟨_, _, hV2⟩, hZ2⟩
theorem Zod (d : Dk) (pa s : Int) (rs : List Rec) (r : Rec) (vb vl : Value) (w0 w : World) (hF : d.Fine 1000) (hd : Vg d (.agg #[vb, vl]) w0) (h0 : 0 ≤ pa) (h1 : pa < 12) (HX : Hid (0 = Qj d pa)) (HR : Hid (r = Y4 (Y6 d pa) pa)) (hk : r.kind = 1) (hs0 : -5 ≤ s) (hs1 : s ≤ 5) (hV : Zac w0 #[vb, vl] s rs w) :
  Calls Tryz.prog 117 #[.int .i64 pa, .pointer (some ⟨w0.heap.size, 0, none⟩), .pointer (some ⟨w0.heap.size + 1 + 1 + 1, 0, none⟩), .pointer (some ⟨w0.heap.size + 1 + 1, 0, none⟩)] w fun e w' => e = .returned (.int .i64 0) ∧ Zac w0 #[vb, vl] (s - 1) rs w' := by
 obtain ⟨ab, cb, al, cl, hv, hb, hl⟩ := hd.form;cases hv;obtain ⟨⟨tv, us, hV⟩, hZ⟩ := hV;have hdw : Vg d (.agg #[.slice ab d.blocks.length cb, .slice al d.late.length cl]) w := Zf4 _ _ _ _ hV.grow hd;have x0 := Ze hV.disk 0 _ rfl;have x1 := Ze hV.disk 1 _ rfl;have hB : w0.heap.size + 1 + 1 + 1 + 1 ≤ w.heap.size := Za hV.bad;have HC : Hid _ := hB;clear hb hl hB;go_enter Tryz.func117, Tryz.ntmps117;go_wp2_with fail;refine (Zeo d pa _ _ hF hdw h0 h1).mono ?_;rw [← HX.out, ← HR.out];rintro e w1 ⟨dv, rfl, ho, g1⟩;obtain ⟨a1, c1, rfl⟩ := Z4 ho;have hV1 := hV.on g1;have hZ1 := (g1.block _ (Za hZ)).trans hZ;have ho1 := Yf ho (base' := w0.heap.size + 1 + 1 + 1 + 1) HC.out;have g2 := Zd w1 (.cells #[.int .i64 r.kind, .int .i64 r.key, .int .i64 r.ver, .slice a1 r.data.length c1] 51);have hR2 := Zj w1 #[.int .i64 r.kind, .int .i64 r.key, .int .i64 r.ver, .slice a1 r.data.length c1] 51;have hV2 := hV1.on g2;have hZ2 := (g2.block _ (Za hZ1)).trans hZ1;have ho2 := Z6 ho1 g2;have HSZ : Hid (w0.heap.size + 1 + 1 + 1 + 1 ≤ w1.heap.size) := Nat.le_trans HC.out g1.size;have hne : w1.heap.size ≠ w0.heap.size + 1 + 1 + 1 := fun h => by have := Za hV1.bad; omega
 clear x0 x1 hV hZ hdw ho ho1 hd g1 hV1 hZ1 g2;have hV3 := hV2.less (s - 1);have hb3 : Zt (w0.heap.size + 1 + 1 + 1) (w1.alloc (.cells #[.int .i64 r.kind, .int .i64 r.key, .int .i64 r.ver, .slice a1 r.data.length c1] 51)) _ := (Zt.refl _ _).set 0 none (.int .i64 (s - 1));have hZ3 := (hb3.block _ (Za hZ2) (by omega)).trans hZ2;have hR3 := (hb3.block _ (Za hR2) hne).trans hR2;have ho3 := Kq hb3 (by omega) ho2;have y0 := Ze hV2.bad 0 _ rfl;have f0 := Zr hV2.bad 0;have z0 := Ze hR3 0 _ rfl;have d1 : (r.kind != 1) = false := by simp [hk]
 clear hk hne hb3 hR2 hR3 hV2 hZ2 ho2 ho3;go_wp2_with fail;go_ret;exact ⟨rfl, ⟨_, _, hV3⟩, hZ3⟩
theorem Zoc (d : Dk) (pa s : Int) (rs : List Rec) (r : Rec) (vb vl : Value) (w0 w : World) (hF : d.Fine 1000) (hd : Vg d (.agg #[vb, vl]) w0) (h0 : 0 ≤ pa) (h1 : pa < 12) (HX : Hid (0 = Qj d pa)) (HR : Hid (r = Y4 (Y6 d pa) pa)) (hk : r.kind ≠ 1) (hs0 : -5 ≤ s) (hs1 : s ≤ 5) (hrs : rs.length ≤ 10) (hV : Zac w0 #[vb, vl] s rs w) :
  Calls Tryz.prog 117 #[.int .i64 pa, .pointer (some ⟨w0.heap.size, 0, none⟩), .pointer (some ⟨w0.heap.size + 1 + 1 + 1, 0, none⟩), .pointer (some ⟨w0.heap.size + 1 + 1, 0, none⟩)] w fun e w' => e = .returned (.int .i64 0) ∧ Zac w0 #[vb, vl] (s - 1) (rs ++ [r]) w' := by
 obtain ⟨i0, hif, hz0, hz1, hz2⟩ := info_parts Zuv;obtain ⟨ab, cb, al, cl, hv, hb, hl⟩ := hd.form;cases hv;obtain ⟨⟨tv, us, hV⟩, hZ⟩ := hV;have hdw : Vg d (.agg #[.slice ab d.blocks.length cb, .slice al d.late.length cl]) w := Zf4 _ _ _ _ hV.grow hd;have x0 := Ze hV.disk 0 _ rfl;have x1 := Ze hV.disk 1 _ rfl;have hB : w0.heap.size + 1 + 1 + 1 + 1 ≤ w.heap.size := Za hV.bad;have HC : Hid _ := hB;clear hb hl hB;go_enter Tryz.func117, Tryz.ntmps117;go_wp2_with fail;refine (Zeo d pa _ _ hF hdw h0 h1).mono ?_;rw [← HX.out, ← HR.out];rintro e w1 ⟨dv, rfl, ho, g1⟩;obtain ⟨a1, c1, rfl⟩ := Z4 ho;have hV1 := hV.on g1;have hZ1 := (g1.block _ (Za hZ)).trans hZ;have ho1 := Yf ho (base' := w0.heap.size + 1 + 1 + 1 + 1) HC.out;have g2 := Zd w1 (.cells #[.int .i64 r.kind, .int .i64 r.key, .int .i64 r.ver, .slice a1 r.data.length c1] 51);have hR2 := Zj w1 #[.int .i64 r.kind, .int .i64 r.key, .int .i64 r.ver, .slice a1 r.data.length c1] 51;have hV2 := hV1.on g2;have hZ2 := (g2.block _ (Za hZ1)).trans hZ1;have ho2 := Z6 ho1 g2;have HSZ : Hid (w0.heap.size + 1 + 1 + 1 + 1 ≤ w1.heap.size) := Nat.le_trans HC.out g1.size;have hne : w1.heap.size ≠ w0.heap.size + 1 + 1 + 1 := fun h => by have := Za hV1.bad; omega
 clear x0 x1 hV hZ hdw ho ho1 hd g1 hV1 hZ1 g2;have hV3 := hV2.less (s - 1);have hb3 : Zt (w0.heap.size + 1 + 1 + 1) (w1.alloc (.cells #[.int .i64 r.kind, .int .i64 r.key, .int .i64 r.ver, .slice a1 r.data.length c1] 51)) _ := (Zt.refl _ _).set 0 none (.int .i64 (s - 1));have hZ3 := (hb3.block _ (Za hZ2) (by omega)).trans hZ2;have hR3 := (hb3.block _ (Za hR2) hne).trans hR2;have ho3 := Kq hb3 (by omega) ho2;have y0 := Ze hV2.bad 0 _ rfl;have f0 := Zr hV2.bad 0;have z0 := Ze hR3 0 _ rfl;have d1 : (r.kind != 1) = true := by simp [hk]
 have z1 := Ze hR3 1 _ rfl;have z2 := Ze hR3 2 _ rfl;have z3 := Ze hR3 3 _ rfl;have t0 := Ze hV3.told 0 _ rfl;have HV : Hid _ := hV3;obtain ⟨at_, ct, htv⟩ := hV3.rows.form;subst htv;have hrow := hV3.rows.row;obtain ⟨W3, hW3⟩ : ∃ W3, W3 = World.setCell (w1.alloc (.cells #[.int .i64 r.kind, .int .i64 r.key, .int .i64 r.ver, .slice a1 r.data.length c1] 51)) ⟨w0.heap.size + 1 + 1 + 1, 0, none⟩ (.int .i64 (s - 1)) := ⟨_, rfl⟩;have hnew : ∀ (j : Nat) u, [Value.int .i64 r.kind, .int .i64 r.key, .int .i64 r.ver, .slice a1 r.data.length c1][j]? = some u → (W3.alloc (.cells #[.int .i64 r.kind, .int .i64 r.key, .int .i64 r.ver, .slice a1 r.data.length c1] 51)).cell? ((⟨w1.heap.size + 1, 0, none⟩ : Addr).add j) = some u := by
  intro j u hj;have h := Zq9 W3 _ _ _ _ 51 j u hj;rw [show W3.heap.size = w1.heap.size + 1 from by rw [hW3]; simp] at h;exact h
 rw [← hW3] at HV hrow hZ3 ho3;have HW3 : Hid _ := hW3;rw [hW3] at hnew hrow;clear hW3;clear hk hne hb3 hR2 hR3 hV2 hZ2 ho2 hV3;go_wp2_with (first
  | (at_builtin; refine wpList_append_own _ rfl (.tmp 21) (.tmp 23) 47 rfl (w0.heap.size + 1 + 1 + 1 + 1) 51 i0 (.agg #[.int .i64 0, .int .i64 0, .int .i64 0, .slice none 0 0]) 4 48 Tryz.underlying47 hif hz0 hz1 hz2 rfl (by decide) (.slice at_ rs.length ct) rs.length (K3 rs us) rfl (hrow.alloc _) ⟨w1.heap.size + 1, 0, none⟩ 1 1 [.int .i64 r.kind, .int .i64 r.key, .int .i64 r.ver, .slice a1 r.data.length c1] rfl rfl hnew (by intro u hu; simp at hu; rcases hu with rfl | rfl | rfl | rfl <;> rfl) (by unfold maxLen; omega) (by omega) (by have := HSZ.out; simp; omega) ?_; intro v4 w4 hown4 hgrow4 _; rw [← HW3.out] at hgrow4; have hE := HV.out.more (r := r) hgrow4 hown4 ho3; have hZE := HV.out.keeps (x := v4) hgrow4 hZ3; have hB4 := J9 (by have := Za HV.out.bad; omega) HV.out.rows.row hgrow4; have ht4 := (hB4.block _ (by omega)).trans HV.out.told; have y4 := Ze ht4 0 _ rfl; have f4 := Zr ht4 0; have hsl := Y2 hown4; obtain ⟨a4, c4, hv4⟩ := hsl; subst hv4; clear hgrow4 hown4 hrow hnew hB4 ht4 HV))
 go_ret;exact ⟨rfl, ⟨_, _, hE⟩, hZE⟩
theorem Zri (d : Dk) (pa s : Int) (rs : List Rec) (vb vl : Value) (w0 w : World) (hF : d.Fine 1000) (hd : Vg d (.agg #[vb, vl]) w0) (h0 : 0 ≤ pa) (h1 : pa < 12) (hs0 : -5 ≤ s) (hs1 : s ≤ 5) (hrs : rs.length ≤ 10) (hV : Zac w0 #[vb, vl] s rs w) :
  Calls Tryz.prog 117 #[.int .i64 pa, .pointer (some ⟨w0.heap.size, 0, none⟩), .pointer (some ⟨w0.heap.size + 1 + 1 + 1, 0, none⟩), .pointer (some ⟨w0.heap.size + 1 + 1, 0, none⟩)] w fun e w' => e = .returned (.int .i64 0) ∧ Zac w0 #[vb, vl] (s - 1 + Y9 d pa) (rs ++ Zam d pa) w' := by
 by_cases hE : Qj d pa = 0
 ·have hS : Yb d pa = Y4 (Y6 d pa) pa := by unfold Yb; rw [if_pos hE]
  have hB : s - 1 + Y9 d pa = s - 1 := by unfold Y9; rw [if_pos hE]; omega
  rw [hB];by_cases hk : (Y4 (Y6 d pa) pa).kind = 1
  ·have hT : rs ++ Zam d pa = rs := by unfold Zam; rw [hS, if_pos hk, List.append_nil]
   rw [hT];exact Zod d pa s rs _ vb vl w0 w hF hd h0 h1 (show 0 = Qj d pa from hE.symm) (show _ = Y4 (Y6 d pa) pa from rfl) hk hs0 hs1 hV
  ·have hT : Zam d pa = [Y4 (Y6 d pa) pa] := by unfold Zam; rw [hS, if_neg hk]
   rw [hT];exact Zoc d pa s rs _ vb vl w0 w hF hd h0 h1 (show 0 = Qj d pa from hE.symm) (show _ = Y4 (Y6 d pa) pa from rfl) hk hs0 hs1 hrs hV
 ·have hS : Yb d pa = Rec.free := by unfold Yb; rw [if_neg hE]
  have hB : s - 1 + Y9 d pa = s := by unfold Y9; rw [if_neg hE]; omega
  have hT : rs ++ Zam d pa = rs := by unfold Zam; rw [hS, if_pos (show Rec.free.kind = 1 from rfl), List.append_nil]
  rw [hB, hT];exact Zrh d pa s _ rs _ vb vl w0 w hF hd h0 h1 (show _ = Qj d pa from rfl) (show _ = Y4 (Y6 d pa) pa from rfl) hE hV
def sN (d : Dk) (p : Int) : Nat → Int
 | 0 => 2
 | n + 1 => sN d p n - 1 + Y9 d (p * 2 + (n : Int))
def rN (d : Dk) (p : Int) : Nat → List Rec
 | 0 => []
 | n + 1 => rN d p n ++ Zam d (p * 2 + (n : Int))
theorem Zxu (d : Dk) (p : Int) : ∀ n : Nat, 2 - (n : Int) ≤ sN d p n ∧ sN d p n ≤ 2
 | 0 => by simp [sN]
 | n + 1 => by
  have ih := Zxu d p n;have := Ku d (p * 2 + (n : Int));simp only [sN];omega
theorem Ztu (d : Dk) (p : Int) : ∀ n, (rN d p n).length ≤ n
 | 0 => by simp [rN]
 | n + 1 => by
  have ih := Ztu d p n;have : (Zam d (p * 2 + (n : Int))).length ≤ 1 := by unfold Zam; split <;> simp
  simp only [rN, List.length_append];omega
theorem Zw6 (d : Dk) (p : Int) (hn : d.noPair p = false) : Zha (rN d p 2) (sN d p 2) = d.how p ∧ (rN d p 2).headD Rec.free = d.tell p := by
 have e0 : p * 2 + ((0 : Nat) : Int) = 2 * p := by omega
 have e1 : p * 2 + ((1 : Nat) : Int) = 2 * p + 1 := by omega
 have hr : rN d p 2 = Zam d (2 * p) ++ Zam d (2 * p + 1) := by simp only [rN, e0, e1, List.nil_append]
 have hs : sN d p 2 = Y9 d (2 * p) + Y9 d (2 * p + 1) := by simp only [sN, e0, e1]; omega
 rw [hr, hs];unfold Dk.how Dk.tell Zb7 Zam;rw [hn];by_cases k0 : (Yb d (2 * p)).kind = 1
 ·have s0 : Y5 d (2 * p) = 0 := by unfold Y5; rw [if_pos k0]
  by_cases k1 : (Yb d (2 * p + 1)).kind = 1
  ·have s1 : Y5 d (2 * p + 1) = 0 := by unfold Y5; rw [if_pos k1]
   rw [s0, s1];simp [k0, k1, Zha]
  ·have s1 : Y5 d (2 * p + 1) = 1 := by unfold Y5; rw [if_neg k1]
   rw [s0, s1];simp [k0, k1, Zha]
 ·have s0 : Y5 d (2 * p) = 1 := by unfold Y5; rw [if_neg k0]
  by_cases k1 : (Yb d (2 * p + 1)).kind = 1
  ·have s1 : Y5 d (2 * p + 1) = 0 := by unfold Y5; rw [if_pos k1]
   rw [s0, s1];simp [k0, k1, Zha]
  ·have s1 : Y5 d (2 * p + 1) = 1 := by unfold Y5; rw [if_neg k1]
   rw [s0, s1];simp [k0, k1, Zha]
theorem Zj7 (args : Array Value) (w : World) : (callFunc 117 args).run Tryz.prog w = .ok (.enter 117 args) w := by
 simp [callFunc, Tryz.func117, Tryz.f117, mark]
theorem Zrg (d : Dk) (p : Int) (vb vl : Value) (w0 w : World) (hF : d.Fine 1000) (hd : Vg d (.agg #[vb, vl]) w0) (hV : Zac w0 #[vb, vl] 2 [] w) :
  Calls Tryz.prog 70 #[.int .i64 p, .func (.func 117) #[] #[.pointer (some ⟨w0.heap.size, 0, none⟩), .pointer (some ⟨w0.heap.size + 1 + 1 + 1, 0, none⟩), .pointer (some ⟨w0.heap.size + 1 + 1, 0, none⟩)]] w fun e w' => ∃ E s rs, e = .returned (.int .i64 E) ∧ Zac w0 #[vb, vl] s rs w' ∧ rs.length ≤ 2 ∧ Zha rs s = d.how p ∧ rs.headD Rec.free = d.tell p := by
 have h12 := hF.len;by_cases hout : p < 0 ∨ 6 ≤ p
 ·refine (Zmj _ _ p w hout).mono ?_;rintro e w' ⟨rfl, rfl⟩;have hn : d.noPair p = true := by unfold Dk.noPair; exact decide_eq_true (by omega)
  have hh : d.how p = 4 := by unfold Dk.how; rw [if_pos hn]
  have ht : d.tell p = Rec.free := by unfold Dk.tell; rw [if_pos hn]
  exact ⟨3, 2, [], rfl, hV, by simp, by rw [hh]; rfl, by rw [ht]; rfl⟩
 ·have hn : d.noPair p = false := by unfold Dk.noPair; exact decide_eq_false (by omega)
  refine (Zhj _ _ p w (by omega) (by omega) Zj7 (fun n w' => Zac w0 #[vb, vl] (sN d p n) (rN d p n) w') (fun _ _ => False) hV ?_).mono ?_
  ·intro n w' hn2 hI;have hs := Zxu d p n;have hr := Ztu d p n;refine (Zri d (p * 2 + (n : Int)) _ _ vb vl w0 w' hF hd (by omega) (by omega) (by omega) (by omega) (by omega) hI).mono ?_;rintro e w2 ⟨rfl, hV2⟩;exact ⟨0, rfl, fun _ => hV2, fun h => absurd rfl h⟩
  ·rintro e w' ⟨E, rfl, hE0, hE1⟩;by_cases hE : E = 0
   ·obtain ⟨k1, k2⟩ := Zw6 d p hn;exact ⟨E, _, _, rfl, hE0 hE, Ztu d p 2, k1, k2⟩
   ·exact (hE1 hE).elim
theorem Zac.start (w : World) (vd : Array Value) : Zac w vd 2 [] ((((w.alloc (.cells vd 30)).alloc (.cells #[.int .i64 0, .int .i64 0, .int .i64 0, .slice none 0 0] 51)).alloc (.cells #[.slice none 0 0] 47)).alloc (.cells #[.int .i64 2] 3)) := by
 have g1 := Zd w (.cells vd 30);have k1 := Zj w vd 30;have s1 := World.size_alloc w (.cells vd 30);generalize World.alloc w _ = w1 at *;have g2 := Zd w1 (.cells #[.int .i64 0, .int .i64 0, .int .i64 0, .slice none 0 0] 51);have k2 := Zj w1 #[.int .i64 0, .int .i64 0, .int .i64 0, .slice none 0 0] 51;have s2 := World.size_alloc w1 (.cells #[.int .i64 0, .int .i64 0, .int .i64 0, .slice none 0 0] 51);generalize World.alloc w1 _ = w2 at *;have g3 := Zd w2 (.cells #[.slice none 0 0] 47);have k3 := Zj w2 #[.slice none 0 0] 47;have s3 := World.size_alloc w2 (.cells #[.slice none 0 0] 47);generalize World.alloc w2 _ = w3 at *;have g4 := Zd w3 (.cells #[.int .i64 2] 3);have k4 := Zj w3 #[.int .i64 2] 3;generalize World.alloc w3 _ = w4 at *;rw [s3, s2, s1] at k4;rw [s2, s1] at k3;rw [s1] at k2;refine ⟨⟨.slice none 0 0, [], ((g1.trans g2).trans g3).trans g4, (((g2.trans g3).trans g4).block _ (Za k1)).trans k1, (g4.block _ (Za k3)).trans k3, k4, Ve.nil _ _⟩, ?_⟩;exact ((g3.trans g4).block _ (Za k2)).trans k2
theorem Zqz (d : Dk) (p : Int) (v : Value) (w : World) (hF : d.Fine 1000) (hd : Vg d v w) :
  Calls Tryz.prog 81 #[v, .int .i64 p] w fun e w' => ∃ dv, e = .returned (.tuple #[.int .i64 (d.how p), .agg #[.int .i64 (d.tell p).kind, .int .i64 (d.tell p).key, .int .i64 (d.tell p).ver, dv]]) ∧ w'.ownsRow w.heap.size 5 1 dv (d.tell p).data.length ((d.tell p).data.map bv) ∧ Zo w w' := by
 obtain ⟨ab, cb, al, cl, rfl, -, -⟩ := hd.form;have hst := Zac.start w #[.slice ab d.blocks.length cb, .slice al d.late.length cl];obtain ⟨H, hH⟩ : ∃ H, H = d.how p := ⟨_, rfl⟩;obtain ⟨R, hR⟩ : ∃ R, R = d.tell p := ⟨_, rfl⟩;rw [← hH, ← hR];have HH : Hid _ := hH;have HR : Hid _ := hR;clear hH hR;go_enter Tryz.func81, Tryz.ntmps81;go_wp2_with fail;refine (Zrg d p _ _ w _ hF hd hst).mono ?_;rintro e w1 ⟨E, s, rs, rfl, ⟨⟨tv, us, hG⟩, hZ⟩, hl2, hh, ht⟩;rw [← HH.out] at hh;rw [← HR.out] at ht;obtain ⟨ao, c, hfo, hfc⟩ := Zn3 rs us _ tv w1 hG.rows;rw [ht] at hfo hfc;clear hst ht;have HN : Hid _ := hh;clear hh;go_wp2_with fail;refine Y3 [px (tv), px (.int .i64 s), px (.int .i64 H), px (tv), px (.agg #[.int .i64 R.kind, .int .i64 R.key, .int .i64 R.ver, .slice ao R.data.length c]), px (.int .i64 H), pl ((fun _ w' => w'.heap[w.heap.size + 1]? = some (.cells #[.int .i64 R.kind, .int .i64 R.key, .int .i64 R.ver, .slice ao R.data.length c] 51 (0, 0))))] [none, none, none, none, none, none, some ((fun w1 w2 => Zt (w.heap.size + 1) w1 w2))] (fun dn w' => K9 w #[.slice ab d.blocks.length cb, .slice al d.late.length cl] s rs tv us w' ∧ (dn 6 = false → w'.heap[w.heap.size + 1]? = some Zso)) (by kernel_rfl) (by kernel_rfl) ⟨se, se, se, se, se, se, Yo (Zch _ _), trivial⟩ ⟨⟨(fun w1 => Zt.refl _ w1), ⟨x5, x5, x5, x5, x5, x5, .inl (by kernel_rfl), trivial⟩⟩, trivial⟩ ⟨n5, n5, n5, n5, n5, n5, fun _ _ _ _ h => h, trivial⟩ ⟨hG.on (Zo.refl _).drew, fun _ => hZ⟩ ?_ ?_
 ·refine ⟨?_, ?_, ?_, ?_, ?_, ?_, ?_, trivial⟩
  ·refine Zg rfl fun a _ _ _ _ C B A => ?_;have e6 : a (.tmp 6) = .pointer (some ⟨w.heap.size + 1 + 1, 0, none⟩) := Zp A 6 rfl;have z0 := Ze B.1.told 0 _ rfl;refine Zk ?_ B rfl;clear A B C;go_simp;all_goals go_arith
  ·refine Zg rfl fun a _ _ _ _ C B A => ?_;have e7 : a (.tmp 7) = .pointer (some ⟨w.heap.size + 1 + 1 + 1, 0, none⟩) := Zp A 7 rfl;have z0 := Ze B.1.bad 0 _ rfl;refine Zk ?_ B rfl;clear A B C;go_simp;all_goals go_arith
  ·refine Zg rfl fun a B _ _ _ D C A => ?_;have e11 : a (.tmp 11) = _ := Zh A 0 rfl;have e12 : a (.tmp 12) = _ := Zh A 1 rfl;refine Yk (f := 119) (args := #[tv, .int .i64 s]) ?_ ((Ztz rs us s _ tv B C.1.rows hl2).mono ?_)
   ·clear A C D;go_simp;all_goals go_arith
   ·rw [HN.out];rintro e w2 ⟨rfl, g2⟩;exact ⟨_, rfl, g2, ⟨C.1.on g2, fun h => (g2.block _ (Za (C.2 h))).trans (C.2 h)⟩, rfl⟩
  ·refine Zg rfl fun a _ _ _ _ C B A => ?_;have e6 : a (.tmp 6) = .pointer (some ⟨w.heap.size + 1 + 1, 0, none⟩) := Zp A 6 rfl;have z0 := Ze B.1.told 0 _ rfl;refine Zk ?_ B rfl;clear A B C;go_simp;all_goals go_arith
  ·refine Zg rfl fun a B _ _ _ D C A => ?_;have e14 : a (.tmp 14) = _ := Zh A 3 rfl;refine Yk (f := 120) (args := #[tv]) ?_ ((hfc B C.1.rows).mono ?_)
   ·clear A C D;go_simp;all_goals go_arith
   ·rintro e w2 ⟨rfl, g2⟩;exact ⟨_, rfl, g2, ⟨C.1.on g2, fun h => (g2.block _ (Za (C.2 h))).trans (C.2 h)⟩, rfl⟩
  ·exact Zg rfl fun a _ _ _ _ _ B A => Xp rfl B (Zh A 2 rfl)
  ·refine Zg rfl fun a w' _ _ _ C B A => ?_;have e5 : a (.tmp 5) = .pointer (some ⟨w.heap.size + 1, 0, none⟩) := Zp A 5 rfl;have e15 : a (.tmp 15) = _ := Zh A 4 rfl;have hh : w'.heap[w.heap.size + 1]? = some (.cells #[.int .i64 0, .int .i64 0, .int .i64 0, .slice none 0 0] 51 (0, 0)) := B.2 C.un;obtain ⟨hp1, hp2⟩ := Ym hh (.int .i64 R.kind) (.int .i64 R.key) (.int .i64 R.ver) (.slice ao R.data.length c);obtain ⟨z0, z1, z2, z3⟩ := Z7 hh rfl rfl rfl rfl;obtain ⟨f0, f1, f2, f3⟩ := Yt hh;have cs := Zx;refine Yn (w' := _) ?_ hp2 ⟨B.1.but hp2, fun h => by simp [upd] at h⟩ hp1;clear A B C hp1 hp2 hh;go_simp;all_goals go_arith
 ·intro vs w' dn hdn hg ht;obtain ⟨q11, q12, q13, q14, q15, q4, qo6, -⟩ := ht;have r11 : vs 0 = _ := q11;have r12 : vs 1 = _ := q12;have r13 : vs 2 = _ := q13;have r14 : vs 3 = _ := q14;have r15 : vs 4 = _ := q15;have r4 : vs 5 = _ := q4;replace qo6 : ((fun _ w' => w'.heap[w.heap.size + 1]? = some (.cells #[.int .i64 R.kind, .int .i64 R.key, .int .i64 R.ver, .slice ao R.data.length c] 51 (0, 0)))) (vs 6) w' := qo6;clear q11 q12 q13 q14 q15 q4;simp only [Yc, Act.put, List.setIfInBounds_toArray, List.set_cons_zero, List.set_cons_succ, r11, r12, r13, r14, r15, r4];clear r11 r12 r13 r14 r15 r4;obtain ⟨y0, y1, y2, y3⟩ := Z7 qo6 rfl rfl rfl rfl;have gE := hg.1.grow;have hoE := Yf (hfo w' hg.1.rows) (base' := w.heap.size) (by omega);clear hg hdn qo6 hG hZ hfo hfc;go_wp2_with fail;exact bodyPost_ret (v := .tuple #[.int .i64 H, .agg #[.int .i64 R.kind, .int .i64 R.key, .int .i64 R.ver, .slice ao R.data.length c]]) (by simp [results, Tryz.results81, go_sem, y0, y1, y2, y3]) rfl ⟨_, rfl, hoE, gE⟩
variable {D : Dk} {S : Nat → Prop} {rc vd : Array Value} {w w' w0 : World}
structure Zmu (w0 : World) (vd : Array Value) (rc : Array Value) (w : World) : Prop where
 grow : Zo w0 w
 disk : w.heap[w0.heap.size]? = some (.cells vd 30 (0, 0))
 recd : w.heap[w0.heap.size + 1]? = some (.cells rc 51 (0, 0))
 zero : w.heap[w0.heap.size + 1 + 1]? = some (.cells #[.slice none 0 0, .slice none 0 0] 30 (0, 0))
 size : w0.heap.size + 1 + 1 + 1 < w.heap.size
theorem Zmu.on (h : Zmu w0 vd rc w) (hg : Zo w w') : Zmu w0 vd rc w' :=
 ⟨h.grow.trans hg, (hg.block _ (Za h.disk)).trans h.disk, (hg.block _ (Za h.recd)).trans h.recd, (hg.block _ (Za h.zero)).trans h.zero, Nat.lt_of_lt_of_le h.size hg.size⟩
theorem Zmu.but (h : Zmu w0 vd rc w) (hg : Zt (w0.heap.size + 1 + 1 + 1) w w') : Zmu w0 vd rc w' :=
 ⟨hg.grow h.grow (by omega), (hg.block _ (Za h.disk) (by omega)).trans h.disk, (hg.block _ (Za h.recd) (by omega)).trans h.recd, (hg.block _ (Za h.zero) (by omega)).trans h.zero, Nat.lt_of_lt_of_le h.size hg.size⟩
def Zxs (w0 : World) (S : Nat → Prop) (D : Dk) (vb vl : Value) (w : World) : Prop := w.heap[w0.heap.size + 1 + 1 + 1]? = some (.cells #[vb, vl] 30 (0, 0)) ∧ Xs (Zy S (w0.heap.size + 1 + 1 + 1 + 1)) D (.agg #[vb, vl]) w
theorem Zxs.on {vb vl : Value} (h : Zxs w0 S D vb vl w) (hg : Zo w w') : Zxs w0 S D vb vl w' := ⟨(hg.block _ (Za h.1)).trans h.1, h.2.grow hg⟩
def Zcx (w0 : World) (vd rc : Array Value) (S : Nat → Prop) (D : Dk) (w : World) : Prop := Zmu w0 vd rc w ∧ ∃ vb vl, Zxs w0 S D vb vl w
theorem Zcx.on (h : Zcx w0 vd rc S D w) (hg : Zo w w') : Zcx w0 vd rc S D w' := by
 obtain ⟨h1, vb, vl, h2⟩ := h;exact ⟨h1.on hg, vb, vl, h2.on hg⟩
def Zvs (B g : Nat) (d : Dk) (v : Value) (w : World) : Prop := ∃ vb vl, w.heap[g]? = some (.cells #[vb, vl] 30 (0, 0)) ∧ v = .agg #[vb, vl] ∧ Q4 B d v w
theorem Zsy (B g : Nat) (d : Dk) (i : Nat) : Vz (pl1 i (fun _ v w => Zvs B g d v w)) := by
 rintro v ds w w' hg ⟨vb, vl, h2, h1, h3⟩;exact ⟨vb, vl, (hg.block _ (Za h2)).trans h2, h1, h3.grow hg⟩
def Zh9 (B : Nat) (d : Dk) (v : Value) (w : World) : Prop := ∃ v', v = .tuple #[v', .int .i64 0] ∧ Q4 B d v' w
theorem Zo9 (B : Nat) (d : Dk) : Xt (Zh9 B d) := by
 rintro v w w' hg ⟨v', h1, h2⟩; exact ⟨v', h1, h2.grow hg⟩
theorem Zpf {B : Nat} {d : Dk} {v : Value} (hs : Yx 30 w w') (h : Zh9 B d v w) : Zh9 B d v w' := by
 obtain ⟨v', h1, h2⟩ := h; exact ⟨v', h1, h2.box hs⟩
theorem Znz (S : Nat → Prop) (D : Dk) (a k y n : Int) (l : List UInt8) (u : Value) (vd : Array Value) (w0 w : World) (hu : Bytes w0 u l) (hw : Yd ⟨k, y, n, l⟩ ≠ 0) (hV : Zcx w0 vd #[.int .i64 k, .int .i64 y, .int .i64 n, u] S D w) :
  Calls Tryz.prog 71 #[.int .i64 a, .pointer (some ⟨w0.heap.size + 1, 0, none⟩), .pointer (some ⟨w0.heap.size + 1 + 1 + 1, 0, none⟩)] w fun e w' => e = .returned (.int .i64 (Yd ⟨k, y, n, l⟩)) ∧ Zcx w0 vd #[.int .i64 k, .int .i64 y, .int .i64 n, u] S D w' := by
 obtain ⟨au, cu, rfl, -, -⟩ := Yh hu;obtain ⟨E, hE⟩ : ∃ E, E = Yd ⟨k, y, n, l⟩ := ⟨_, rfl⟩;rw [← hE] at hw ⊢;have HE : Hid _ := hE;clear hE;have hG := hV.1;have r0 := Ze hG.recd 0 _ rfl;have r1 := Ze hG.recd 1 _ rfl;have r2 := Ze hG.recd 2 _ rfl;have r3 := Ze hG.recd 3 _ rfl;have huw := Z0 hu hG.grow;go_enter Tryz.func71, Tryz.ntmps71;go_wp2_with fail;refine (Zce k y n l _ _ huw).mono ?_;have d0 : (E == 0) = false := Qq hw;rw [← HE.out];rintro e w1 ⟨rfl, g1⟩;have hV1 := hV.on g1;clear hV hG r0 r1 r2 r3 huw g1 hw;go_wp2_with fail;go_ret;exact ⟨rfl, hV1⟩
theorem Zpm (S : Nat → Prop) (D : Dk) (pa k y n : Int) (l : List UInt8) (u : Value) (vd : Array Value) (w0 w : World) (hu : Bytes w0 u l) (hw : Yd ⟨k, y, n, l⟩ = 0) (hF : D.Fine 999) (h0 : 0 ≤ pa) (h1 : pa < 12) (hV : Zcx w0 vd #[.int .i64 k, .int .i64 y, .int .i64 n, u] S D w) :
  Calls Tryz.prog 71 #[.int .i64 pa, .pointer (some ⟨w0.heap.size + 1, 0, none⟩), .pointer (some ⟨w0.heap.size + 1 + 1 + 1, 0, none⟩)] w fun e w' => e = .returned (.int .i64 0) ∧ Zcx w0 vd #[.int .i64 k, .int .i64 y, .int .i64 n, u] S (D.put pa (blk ⟨k, y, n, l⟩ pa)) w' := by
 obtain ⟨au, cu, rfl, -, -⟩ := Yh hu;obtain ⟨hG, vb, vl, hD⟩ := hV;obtain ⟨ab, cb, al, cl, hv, hdb, hdl⟩ := hD.2.p.form;cases hv;clear hdb hdl;have r0 := Ze hG.recd 0 _ rfl;have r1 := Ze hG.recd 1 _ rfl;have r2 := Ze hG.recd 2 _ rfl;have r3 := Ze hG.recd 3 _ rfl;have huw := Z0 hu hG.grow;have HB : Hid ((blk ⟨k, y, n, l⟩ pa).length = 16) := Zkf _ _ hw;have HL : Hid (D.blocks.length = 12) := hF.len;have hl256 : D.blocks.length ≤ 256 := by have := hF.len; omega
 have hm : D.late.length ≤ 1000 := by have := hF.few; omega
 have hb16 := hF.b16;have hl16 := hF.l16;have HW : Hid (Yd ⟨k, y, n, l⟩ = 0) := hw;clear hF hw;go_enter Tryz.func71, Tryz.ntmps71;go_wp2_with fail;refine (Zce k y n l _ _ huw).mono ?_;rw [HW.out];rintro e w1 ⟨rfl, g1⟩;have hG1 := hG.on g1;have hD1 := hD.on g1;have hu1 := Z0 huw g1;clear hG hD huw g1 r0 r1 r2 r3;go_wp2_with fail
 refine Y3 [px (.agg #[.slice ab D.blocks.length cb, .slice al D.late.length cl]), px (.int .i64 pa), px (.agg #[.int .i64 k, .int .i64 y, .int .i64 n, .slice au l.length cu]), px (.int .i64 pa), pl ((fun v w' => w'.ownsRow 0 5 1 v 16 ((blk ⟨k, y, n, l⟩ pa).map bv))), pl (Zh9 (w0.heap.size + 1 + 1 + 1 + 1) (D.put pa (blk ⟨k, y, n, l⟩ pa))), pl (Zh9 (w0.heap.size + 1 + 1 + 1 + 1) (D.put pa (blk ⟨k, y, n, l⟩ pa))), pl (Q4 (w0.heap.size + 1 + 1 + 1 + 1) (D.put pa (blk ⟨k, y, n, l⟩ pa))), px (.int .i64 0), pl1 7 ((fun _ v w' => Zvs (w0.heap.size + 1 + 1 + 1 + 1) (w0.heap.size + 1 + 1 + 1) (D.put pa (blk ⟨k, y, n, l⟩ pa)) v w')), px (.int .i64 0)] [none, none, none, none, none, none, none, none, none, some ((Yx 30))] (fun dn w' => Zmu w0 vd #[.int .i64 k, .int .i64 y, .int .i64 n, .slice au l.length cu] w' ∧ (dn 9 = false → Zo w1 w')) (by kernel_rfl) (by kernel_rfl) ⟨se, se, se, se, Yo ((fun _ _ _ hg h => Z6 h hg)), Yo (Zo9 _ _), Yo (Zo9 _ _), Yo (Zs1 _ _), se, Zsy _ _ _ _, se, trivial⟩ ⟨⟨(fun w => .inl rfl), ⟨x5, x5, x5, x5, .inr ((fun v _ w1 w' hs hq => Qi (by decide) hs hq)), .inr ((fun v _ w1 w' hs hq => Zpf hs hq)), .inr ((fun v _ w1 w' hs hq => Zpf hs hq)), .inr ((fun v _ w1 w' hs hq => Q4.box hq hs)), x5, .inl (by kernel_rfl), .inl (by kernel_rfl), trivial⟩⟩, trivial⟩ ⟨n5, n5, n5, n5, n5, n5, n5, n5, n5, fun _ _ _ _ h => h, n5, trivial⟩ ⟨hG1.on (Zo.refl _).drew, fun _ => (Zo.refl _).drew⟩ ?_ ?_
 ·refine ⟨?_, ?_, ?_, ?_, ?_, ?_, ?_, ?_, ?_, ?_, ?_, trivial⟩
  ·refine Zg rfl fun a _ _ _ _ C B A => ?_;have e2 : a (.tmp 2) = .pointer (some ⟨w0.heap.size + 1 + 1 + 1, 0, none⟩) := Zp A 2 rfl;have hx := (hD1.on (B.2 (C.not1 9 (by kernel_rfl)))).1;obtain ⟨z0, z1⟩ := Xz hx rfl rfl;refine Zk ?_ B rfl;clear A B C hx;go_simp;all_goals go_arith
  ·exact Zg rfl fun a _ _ _ _ _ B A => Z9 rfl B (Zp A 0 rfl)
  ·refine Zg rfl fun a _ _ _ _ C B A => ?_;have e1 : a (.tmp 1) = .pointer (some ⟨w0.heap.size + 1, 0, none⟩) := Zp A 1 rfl;have z0 := Ze B.1.recd 0 _ rfl;have z1 := Ze B.1.recd 1 _ rfl;have z2 := Ze B.1.recd 2 _ rfl;have z3 := Ze B.1.recd 3 _ rfl;refine Zk ?_ B rfl;clear A B C;go_simp;all_goals go_arith
  ·exact Zg rfl fun a _ _ _ _ _ B A => Z9 rfl B (Zp A 0 rfl)
  ·refine Zg rfl fun a B _ _ _ D C A => ?_;have e13 : a (.tmp 13) = _ := Zh A 2 rfl;have e14 : a (.tmp 14) = _ := Zh A 3 rfl;have n9 := D.not1 9 (by kernel_rfl);refine Yk (f := 57) (args := #[.agg #[.int .i64 k, .int .i64 y, .int .i64 n, .slice au l.length cu], .int .i64 pa]) ?_ ((Zjf k y n pa l _ B (Z0 hu1 (C.2 n9)) HW.out h0 (by omega)).mono ?_)
   ·clear A C D;go_simp;all_goals go_arith
   ·rintro e w2 ⟨v', rfl, ho, g2⟩;exact ⟨_, rfl, g2, ⟨C.1.on g2, fun _ => (C.2 n9).trans g2⟩, Yf ho (Nat.zero_le _)⟩
  ·refine Zg rfl fun a B _ _ _ E C A => ?_;have e11 : a (.tmp 11) = _ := Zh A 0 rfl;have e12 : a (.tmp 12) = _ := Zh A 1 rfl;have e15 : ((fun v B => B.ownsRow 0 5 1 v 16 ((blk ⟨k, y, n, l⟩ pa).map bv))) (a (.tmp 15)) B := Zh A 4 rfl;have n9 := E.not1 9 (by kernel_rfl);have hB15 : Bytes B (a (.tmp 15)) (blk ⟨k, y, n, l⟩ pa) := Q1 e15;obtain ⟨vb2, vl2, hv2, hdb, hdl⟩ := (hD1.on (C.2 n9)).2.p;cases hv2;refine Yk (f := 73) (args := #[.agg #[.slice ab D.blocks.length cb, .slice al D.late.length cl], .int .i64 pa, a (.tmp 15)]) ?_ ((Zwu D pa (blk ⟨k, y, n, l⟩ pa) _ _ _ B hdb hdl hB15 hl256 hm hb16 hl16 h0 (by rw [HL.out]; exact h1) HB.out).mono ?_)
   ·clear A C E hdb hdl hB15 e15;go_simp;all_goals go_arith
   ·rintro e w2 ⟨v', rfl, hq, g2⟩;exact ⟨_, rfl, g2, ⟨C.1.on g2, fun _ => (C.2 n9).trans g2⟩, v', rfl, hq.mono C.1.size⟩
  ·refine Zg rfl fun a B _ _ _ _ C A => ?_;have e : (Zh9 (w0.heap.size + 1 + 1 + 1 + 1) (D.put pa (blk ⟨k, y, n, l⟩ pa))) (a (.tmp 16)) B := Zh A 5 rfl;exact Z9 rfl C e
  ·refine Zg rfl fun a B _ _ _ E C A => ?_;have e10 : (Zh9 (w0.heap.size + 1 + 1 + 1 + 1) (D.put pa (blk ⟨k, y, n, l⟩ pa))) (a (.tmp 10)) B := Zh A 6 rfl;obtain ⟨v', h10, hq⟩ := e10;refine Zk (v := v') ?_ C hq;clear A C E hq;go_simp;all_goals go_arith
  ·refine Zg rfl fun a B _ _ _ E C A => ?_;have e10 : (Zh9 (w0.heap.size + 1 + 1 + 1 + 1) (D.put pa (blk ⟨k, y, n, l⟩ pa))) (a (.tmp 10)) B := Zh A 6 rfl;obtain ⟨v', h10, hq⟩ := e10;refine Zk ?_ C rfl;clear A C E hq;go_simp;all_goals go_arith
  ·refine Zg rfl fun a w' _ _ _ C B A => ?_;have e2 : a (.tmp 2) = .pointer (some ⟨w0.heap.size + 1 + 1 + 1, 0, none⟩) := Zp A 2 rfl;have e17 : (Q4 (w0.heap.size + 1 + 1 + 1 + 1) (D.put pa (blk ⟨k, y, n, l⟩ pa))) (a (.tmp 17)) w' := Zh A 7 rfl;have hq := e17;obtain ⟨vb9, vl9, h9, ho, hlt⟩ := e17;obtain ⟨a5, c5, rfl⟩ := ho.form;obtain ⟨a8, c8, rfl⟩ := hlt.form;have hh := (hD1.on (B.2 C.un)).1;obtain ⟨hp1, hp2⟩ := Qe hh (.slice a5 (D.put pa (blk ⟨k, y, n, l⟩ pa)).blocks.length c5) (.slice a8 (D.put pa (blk ⟨k, y, n, l⟩ pa)).late.length c8);have hstep : Yx 30 w' _ := .inr ⟨_, _, _, hp2, hh, hp1, rfl⟩;obtain ⟨y0, y1⟩ := Xz hh rfl rfl;have f0 := Zr hh 0;have f1 := Zr hh 1;have cs := Zx;refine Yn (w' := _) ?_ hstep ⟨B.1.but hp2, fun h => by simp [upd] at h⟩ ⟨_, _, hp1, h9, hq.box hstep⟩;clear A B C hp1 hp2 hlt hh ho hstep hq;go_simp;all_goals go_arith
  ·exact Zg rfl fun a _ _ _ _ _ B A => Xp rfl B (Zh A 8 rfl)
 ·intro vs w' dn hdn hg ht;obtain ⟨q11, q12, q13, q14, q15, q16, q10, q17, q18, qo9, q5, -⟩ := ht;have r11 : vs 0 = _ := q11;have r12 : vs 1 = _ := q12;have r13 : vs 2 = _ := q13;have r14 : vs 3 = _ := q14;replace q15 : ((fun v w' => w'.ownsRow 0 5 1 v 16 ((blk ⟨k, y, n, l⟩ pa).map bv))) (vs 4) w' := q15;replace q16 : (Zh9 (w0.heap.size + 1 + 1 + 1 + 1) (D.put pa (blk ⟨k, y, n, l⟩ pa))) (vs 5) w' := q16;replace q10 : (Zh9 (w0.heap.size + 1 + 1 + 1 + 1) (D.put pa (blk ⟨k, y, n, l⟩ pa))) (vs 6) w' := q10;replace q17 : (Q4 (w0.heap.size + 1 + 1 + 1 + 1) (D.put pa (blk ⟨k, y, n, l⟩ pa))) (vs 7) w' := q17;have r18 : vs 8 = _ := q18;replace qo9 : ((fun _ v w' => Zvs (w0.heap.size + 1 + 1 + 1 + 1) (w0.heap.size + 1 + 1 + 1) (D.put pa (blk ⟨k, y, n, l⟩ pa)) v w')) (vs 9) (vs 7) w' := qo9;have r5 : vs 10 = _ := q5;clear q11 q12 q13 q14 q18 q5;simp only [Yc, Act.put, List.setIfInBounds_toArray, List.set_cons_zero, List.set_cons_succ, Nat.reduceAdd, r11, r12, r13, r14, r18, r5];clear r11 r12 r13 r14 r18 r5;obtain ⟨vb9, vl9, hh, h9, hQ⟩ := qo9;have hE : Zcx w0 vd #[.int .i64 k, .int .i64 y, .int .i64 n, .slice au l.length cu] S (D.put pa (blk ⟨k, y, n, l⟩ pa)) w' := ⟨hg.1, vb9, vl9, hh, by rw [← h9]; exact hQ.s S⟩;clear q15 q16 q17 hdn hg hh hQ h9 hG1 hD1 hu1;go_wp2_with fail;go_ret;exact ⟨rfl, hE⟩
theorem Zfh (args : Array Value) (w : World) : (callFunc 71 args).run Tryz.prog w = .ok (.enter 71 args) w := by
 simp [callFunc, Tryz.func71, Tryz.f71, mark]
theorem Zlh (S : Nat → Prop) (d : Dk) (p k y n : Int) (l : List UInt8) (u : Value) (vd : Array Value) (w0 w : World) (hF : d.Fine 900) (hu : Bytes w0 u l) (hV : Zcx w0 vd #[.int .i64 k, .int .i64 y, .int .i64 n, u] S d w) :
  Calls Tryz.prog 70 #[.int .i64 p, .func (.func 71) #[] #[.pointer (some ⟨w0.heap.size + 1, 0, none⟩), .pointer (some ⟨w0.heap.size + 1 + 1 + 1, 0, none⟩)]] w fun e w' => e = .returned (.int .i64 (d.pairE p ⟨k, y, n, l⟩)) ∧ Zcx w0 vd #[.int .i64 k, .int .i64 y, .int .i64 n, u] S (d.pairD p ⟨k, y, n, l⟩) w' := by
 have h12 := hF.len;by_cases hout : p < 0 ∨ 6 ≤ p
 ·have he : d.pairE p ⟨k, y, n, l⟩ = 3 := by unfold Dk.pairE; rw [if_pos (by omega)]
  have hd : d.pairD p ⟨k, y, n, l⟩ = d := by unfold Dk.pairD; rw [he, if_neg (by omega)]
  rw [he, hd];refine (Zmj _ _ p w hout).mono ?_;rintro e w' ⟨rfl, rfl⟩;exact ⟨rfl, hV⟩
 ·have he : d.pairE p ⟨k, y, n, l⟩ = Yd ⟨k, y, n, l⟩ := by unfold Dk.pairE; rw [if_neg (by omega)]
  by_cases hw : Yd ⟨k, y, n, l⟩ = 0
  ·have hd : d.pairD p ⟨k, y, n, l⟩ = d.pairW p ⟨k, y, n, l⟩ := by unfold Dk.pairD; rw [he, if_pos hw]
   rw [hd, he, hw];have e0 : p * 2 + ((0 : Nat) : Int) = 2 * p := by omega
   have e1 : p * 2 + ((1 : Nat) : Int) = 2 * p + 1 := by omega
   refine (Zhj _ _ p w (by omega) (by omega) Zfh (fun i w' => Zcx w0 vd #[.int .i64 k, .int .i64 y, .int .i64 n, u] S (match i with | 0 => d | 1 => d.put (2 * p) (blk ⟨k, y, n, l⟩ (2 * p)) | _ => d.pairW p ⟨k, y, n, l⟩) w') (fun _ _ => False) hV ?_).mono ?_
   ·intro i w' hi hI
    match i, hi, hI with
    | 0, _, hI =>
     rw [e0];refine (Zpm S d (2 * p) k y n l u vd w0 w' hu hw (hF.mono (by omega)) (by omega) (by omega) hI).mono ?_;rintro e w2 ⟨rfl, hV2⟩;exact ⟨0, rfl, fun _ => hV2, fun h => absurd rfl h⟩
    | 1, _, hI =>
     rw [e1];have hF1 : (d.put (2 * p) (blk ⟨k, y, n, l⟩ (2 * p))).Fine 999 := by
      refine ⟨hF.len, by show (d.late ++ [_]).length ≤ _; have := hF.few; simp; omega, hF.block, fun x hx => ?_, fun x hx => ?_⟩
      ·rcases List.mem_append.1 (show x ∈ d.late ++ [_] from hx) with h1 | h1
       ·exact hF.late x h1
       ·rw [List.mem_singleton.1 h1]; exact Zkf _ _ hw
      ·rcases List.mem_append.1 (show x ∈ d.late ++ [_] from hx) with h1 | h1
       ·exact hF.place x h1
       ·rw [List.mem_singleton.1 h1]; show 0 ≤ 2 * p ∧ 2 * p < 12; omega
     refine (Zpm S _ (2 * p + 1) k y n l u vd w0 w' hu hw hF1 (by omega) (by omega) hI).mono ?_;rintro e w2 ⟨rfl, hV2⟩;have e2 : (d.put (2 * p) (blk ⟨k, y, n, l⟩ (2 * p))).put (2 * p + 1) (blk ⟨k, y, n, l⟩ (2 * p + 1)) = d.pairW p ⟨k, y, n, l⟩ := by simp [Dk.pairW, Dk.put]
     rw [e2] at hV2;exact ⟨0, rfl, fun _ => hV2, fun h => absurd rfl h⟩
   ·rintro e w' ⟨E, rfl, hE0, hE1⟩;by_cases hE : E = 0
    ·exact ⟨by rw [hE], hE0 hE⟩
    ·exact (hE1 hE).elim
  ·have hd : d.pairD p ⟨k, y, n, l⟩ = d := by unfold Dk.pairD; rw [he, if_neg hw]
   rw [hd, he];refine (Zhj _ _ p w (by omega) (by omega) Zfh (fun i w' => i = 0 ∧ Zcx w0 vd #[.int .i64 k, .int .i64 y, .int .i64 n, u] S d w') (fun E w' => E = Yd ⟨k, y, n, l⟩ ∧ Zcx w0 vd #[.int .i64 k, .int .i64 y, .int .i64 n, u] S d w') ⟨rfl, hV⟩ ?_).mono ?_
   ·rintro i w' hi ⟨-, hI⟩;refine (Znz S d _ k y n l u vd w0 w' hu hw hI).mono ?_;rintro e w2 ⟨rfl, hV2⟩;exact ⟨_, rfl, fun h => absurd h hw, fun _ => ⟨rfl, hV2⟩⟩
   ·rintro e w' ⟨E, rfl, hE0, hE1⟩;by_cases hE : E = 0
    ·exact absurd (hE0 hE).1 (by omega)
    ·exact ⟨by rw [(hE1 hE).1], (hE1 hE).2⟩
theorem Zcx.start (S : Nat → Prop) (w : World) (d : Dk) (vb vl : Value) (rc : Array Value) (hd : Xs S d (.agg #[vb, vl]) w) : Zcx w #[vb, vl] rc S d ((((w.alloc (.cells #[vb, vl] 30)).alloc (.cells rc 51)).alloc (.cells #[.slice none 0 0, .slice none 0 0] 30)).alloc (.cells #[vb, vl] 30)) := by
 have g1 := Zd w (.cells #[vb, vl] 30);have k1 := Zj w #[vb, vl] 30;have s1 := World.size_alloc w (.cells #[vb, vl] 30);generalize World.alloc w _ = w1 at *;have g2 := Zd w1 (.cells rc 51);have k2 := Zj w1 rc 51;have s2 := World.size_alloc w1 (.cells rc 51);generalize World.alloc w1 _ = w2 at *;have g3 := Zd w2 (.cells #[.slice none 0 0, .slice none 0 0] 30);have k3 := Zj w2 #[.slice none 0 0, .slice none 0 0] 30;have s3 := World.size_alloc w2 (.cells #[.slice none 0 0, .slice none 0 0] 30);generalize World.alloc w2 _ = w3 at *;have g4 := Zd w3 (.cells #[vb, vl] 30);have k4 := Zj w3 #[vb, vl] 30;generalize World.alloc w3 _ = w4 at *;rw [s3, s2, s1] at k4;rw [s2, s1] at k3;rw [s1] at k2;have gA := ((g1.trans g2).trans g3).trans g4;exact ⟨⟨gA, (((g2.trans g3).trans g4).block _ (Za k1)).trans k1, ((g3.trans g4).block _ (Za k2)).trans k2, (g4.block _ (Za k3)).trans k3, Za k4⟩, vb, vl, k4, (hd.grow gA).mono V0⟩
theorem Zzn : Zzq := by
 intro S d p k y n l v u w hS hF hd hu;obtain ⟨ab, cb, al, cl, rfl, -, -⟩ := hd.form;obtain ⟨au, cu, rfl, -, -⟩ := Yh hu;have hst := Zcx.start S w d _ _ #[.int .i64 k, .int .i64 y, .int .i64 n, .slice au l.length cu] hd;obtain ⟨E, hE⟩ : ∃ E, E = d.pairE p ⟨k, y, n, l⟩ := ⟨_, rfl⟩;obtain ⟨D, hD⟩ : ∃ D, D = d.pairD p ⟨k, y, n, l⟩ := ⟨_, rfl⟩;have hED : E ≠ 0 → D = d := by
  intro h; rw [hD]; unfold Dk.pairD; rw [if_neg (by rw [← hE]; exact h)]
 rw [← hE, ← hD];have HE : Hid _ := hE;have HD : Hid _ := hD;clear hE hD;have hb16 := hF.b16;have hl16 := hF.l16;have hl256 : d.blocks.length ≤ 256 := by have := hF.len; omega
 have hm : d.late.length ≤ 1000 := by have := hF.few; omega
 by_cases h0 : E = 0
 ·subst h0;clear hED;go_enter Tryz.func38, Tryz.ntmps38;go_wp2_with fail;refine (Zlh S d p k y n l _ _ w _ hF hu hst).mono ?_;rw [← HE.out, ← HD.out];rintro e w1 ⟨rfl, hG, vb, vl, hP⟩;obtain ⟨a5, c5, a8, c8, hv, -, -⟩ := hP.2.form;cases hv;have x0 := Ze hP.1 0 _ rfl;have x1 := Ze hP.1 1 _ rfl;have y0 := Ze hG.zero 0 _ rfl;have y1 := Ze hG.zero 1 _ rfl;have f0 := Zr hG.zero 0;have f1 := Zr hG.zero 1;have cs := Zx;obtain ⟨-, hp2⟩ := Qe hG.zero (.slice a5 D.blocks.length c5) (.slice a8 D.late.length c8);have gE := hp2.grow hG.grow (by omega);have hdE := (hP.2.but hp2 (fun h => h.elim (fun h => by have := hS _ h; omega) (fun h => by omega))).mono (Ya (B := w.heap.size) (by omega));clear hst hd hG hP hp2;go_wp2_with fail;exact bodyPost_ret (v := .tuple #[.agg #[.slice a5 D.blocks.length c5, .slice a8 D.late.length c8], .int .i64 0]) (by simp [results, Tryz.results38, go_sem, y0, y1, cs]) rfl ⟨_, rfl, hdE, gE⟩
 ·have d0 : (E != 0) = true := by simp [h0]
  obtain rfl := hED h0;clear hED h0;go_enter Tryz.func38, Tryz.ntmps38;go_wp2_with fail;refine (Zlh S D p k y n l _ _ w _ hF hu hst).mono ?_;rw [← HE.out, ← HD.out];rintro e w1 ⟨rfl, hG, -, -, -⟩;have x0 := Ze hG.disk 0 _ rfl;have x1 := Ze hG.disk 1 _ rfl;have hd1 := hd.grow hG.grow;obtain ⟨vb2, vl2, hv2, hdb, hdl⟩ := hd1.p;cases hv2;clear hst hd hd1;go_wp2_with fail;clear x0 x1;refine (Zfd D _ _ _ hdb hdl hl256 hm hb16 hl16).mono ?_;rintro e w2 ⟨v2, rfl, hA, g2⟩;have hQ := hA.q;obtain ⟨vb3, vl3, rfl, ho, hlt⟩ := hA.q;obtain ⟨a5, c5, rfl⟩ := ho.form;obtain ⟨a8, c8, rfl⟩ := hlt.form;have hG2 := hG.on g2;have hsz := hG.size;have y0 := Ze hG2.zero 0 _ rfl;have y1 := Ze hG2.zero 1 _ rfl;have f0 := Zr hG2.zero 0;have f1 := Zr hG2.zero 1;have cs := Zx;obtain ⟨-, hp2⟩ := Qe hG2.zero (.slice a5 D.blocks.length c5) (.slice a8 D.late.length c8);have gE := hp2.grow hG2.grow (by omega);have hdE := ((hQ.s S).but hp2 (fun h => h.elim (fun h => by have := hS _ h; omega) (fun h => by omega))).mono (Ya (B := w.heap.size) (by omega));clear hG hG2 hp2 hQ hA ho hlt hsz hdb hdl g2;go_wp2_with fail;exact bodyPost_ret (v := .tuple #[.agg #[.slice a5 D.blocks.length c5, .slice a8 D.late.length c8], .int .i64 E]) (by simp [results, Tryz.results38, go_sem, y0, y1, cs]) rfl ⟨_, rfl, hdE, gE⟩
end Go.Proofs.YtpdnapbchcdhlabGreat
