import Derived.Test.YtpdnapbchcdhlacGreatPRead
set_option maxHeartbeats 8000000
namespace Go.Proofs.YtpdnapbchcdhlacGreat
set_option maxRecDepth 100000
open Go.RowKit
open Plain Reg
theorem Zlf (K : Nat) (caps : Array Value) (p : Int) (w : World) (h : p < 0 ∨ 6 ≤ p) :
  Calls Tryz.prog 78 #[.int .i64 p, .func (.func K) #[] caps] w fun e w' => e = .returned (.int .i64 3) ∧ w = w' := by
 by_cases h0 : p < 0
 ·clear h;go_enter Tryz.func78, Tryz.ntmps78;go_wp2_with fail;go_ret;exact ⟨rfl, rfl⟩
 ·have h1 : 6 ≤ p := by omega
  have h2 : 0 ≤ p := by omega
  clear h h0;go_enter Tryz.func78, Tryz.ntmps78;go_wp2_with fail;go_ret;exact ⟨rfl, rfl⟩
theorem Zgw (K : Nat) (caps : Array Value) (p : Int) (w : World) (h0 : 0 ≤ p) (h1 : p < 6) (hK : ∀ (args : Array Value) (w : World), (callFunc K args).run Tryz.prog w = .ok (.enter K args) w) (I : Nat → World → Prop) (F : Int → World → Prop) (hI : I 0 w)
  (hc : ∀ (n : Nat) (w : World), n < 2 → I n w → Calls Tryz.prog K (#[.int .i64 (p * 2 + (n : Int))] ++ caps) w fun e w' => ∃ E : Int, e = .returned (.int .i64 E) ∧ (E = 0 → I (n + 1) w') ∧ (E ≠ 0 → F E w')) :
  Calls Tryz.prog 78 #[.int .i64 p, .func (.func K) #[] caps] w fun e w' => ∃ E : Int, e = .returned (.int .i64 E) ∧ (E = 0 → I 2 w') ∧ (E ≠ 0 → F E w') := by
 go_enter Tryz.func78, Tryz.ntmps78;go_wp2_with fail;go_loopw [13] (fun i wr => ∃ k : Nat, k ≤ 2 ∧ i = .int .i64 k ∧ I k wr) (fun i _ => 2 - (intOf i).toNat)
 case atStart => exact ⟨0, by omega, rfl, hI⟩
 case round =>
  obtain ⟨k, hk, rfl, hIk⟩ := hrel;by_cases hlt : k < 2
  ·go_wp2_with fail;refine (hc k _ hlt hIk).mono ?_;rintro e w1 ⟨E, rfl, hE0, hE1⟩;by_cases hE : E = 0
   ·subst hE;have hI1 := hE0 rfl;clear hE0 hE1;go_wp2_with fail;go_roundw
    case rel => exact ⟨k + 1, by omega, by go_num, hI1⟩
    case measure => simp [intOf]; omega
   ·have d0 : (E != 0) = true := by simp [hE]
    have hF := hE1 hE;clear hE0 hE1;go_wp2_with fail;go_ret;exact ⟨E, rfl, fun h => absurd h hE, fun _ => hF⟩
  ·have hk2 : k = 2 := by omega
   subst hk2;go_wp2_with fail;go_ret;exact ⟨0, rfl, fun _ => hIk, fun h => absurd rfl h⟩
variable {o : Obj} {rs : List Rec} {tv : Value} {us : List Value} {vd : Array Value} {w w' w0 w3 : World}
structure K4 (w0 : World) (vd : Array Value) (s : Int) (rs : List Rec) (tv : Value) (us : List Value) (w : World) : Prop where
 grow : Zn w0 w
 disk : w.heap[w0.heap.size]? = some (.cells vd 26 (0, 0))
 told : w.heap[w0.heap.size + 1 + 1]? = some (.cells #[tv] 58 (0, 0))
 bad : w.heap[w0.heap.size + 1 + 1 + 1]? = some (.cells #[.int .i64 s] 3 (0, 0))
 rows : Vm (w0.heap.size + 1 + 1 + 1 + 1) tv rs us w
theorem K4.on {s : Int} (h : K4 w0 vd s rs tv us w) (hg : Zn w w') : K4 w0 vd s rs tv us w' :=
 ⟨h.grow.trans hg, (hg.block _ (Za h.disk)).trans h.disk, (hg.block _ (Za h.told)).trans h.told, (hg.block _ (Za h.bad)).trans h.bad, h.rows.grow hg⟩
theorem K4.but {s : Int} (h : K4 w0 vd s rs tv us w) (hg : Zo (w0.heap.size + 1) w w') : K4 w0 vd s rs tv us w' :=
 ⟨hg.grow h.grow (by omega), (hg.block _ (Za h.disk) (by omega)).trans h.disk, (hg.block _ (Za h.told) (by omega)).trans h.told, (hg.block _ (Za h.bad) (by omega)).trans h.bad, h.rows.other hg (by omega)⟩
def Zrp : Obj := .cells #[.int .i64 0, .int .i64 0, .int .i64 0, .slice none 0 0] 61 (0, 0)
def J3 (w0 : World) (vd : Array Value) (s : Int) (rs : List Rec) (w : World) : Prop := (∃ tv us, K4 w0 vd s rs tv us w) ∧ w.heap[w0.heap.size + 1]? = some Zrp
theorem K4.less {s : Int} (h : K4 w0 vd s rs tv us w) (s' : Int) : K4 w0 vd s' rs tv us (w.setCell ⟨w0.heap.size + 1 + 1 + 1, 0, none⟩ (.int .i64 s')) := by
 have hg : Zo (w0.heap.size + 1 + 1 + 1) w (w.setCell ⟨w0.heap.size + 1 + 1 + 1, 0, none⟩ (.int .i64 s')) := (Zo.refl _ _).set _ _ _;refine ⟨hg.grow h.grow (by omega), (hg.block _ (Za h.disk) (by omega)).trans h.disk, (hg.block _ (Za h.told) (by omega)).trans h.told, ?_, h.rows.other hg (by omega)⟩;have := Ye h.bad 0 (.int .i64 s');simpa using this
theorem K4.more {s : Int} {v' u : Value} {r : Rec} (h : K4 w0 vd s rs tv us w) (hg : (w.alloc o).grownBy w3 tv.ownBlock)
  (hown : w3.ownsRow (w0.heap.size + 1 + 1 + 1 + 1) 61 4 v' (rs.length + 1) (Kz rs us ++ [.int .i64 r.kind, .int .i64 r.key, .int .i64 r.ver, u])) (hu : w.ownsRow (w0.heap.size + 1 + 1 + 1 + 1) 5 1 u r.data.length (r.data.map bv)) :
  K4 w0 vd s (rs ++ [r]) v' (us ++ [u]) (w3.setCell ⟨w0.heap.size + 1 + 1, 0, none⟩ v') := by
 have hsz := Za h.bad;have hB := J1 (by omega) h.rows.row hg;have hS : Vm _ v' (rs ++ [r]) (us ++ [u]) w3 := Vm.snoc h.rows.len hown (fun i hi => (h.rows.each i hi).imp fun _ x => ⟨x.1, Zb9 h.rows.row hg (by decide) x.2⟩) (Zb9 h.rows.row hg (by decide) hu);have g3 : Zn w0 w3 := Ya (h.grow.trans (Zb _ _)) hg (fun k hk => by have := (h.rows.row.lt k hk).1; omega);have hb : Zo (w0.heap.size + 1 + 1) w3 (w3.setCell ⟨w0.heap.size + 1 + 1, 0, none⟩ v') := (Zo.refl _ _).set _ _ _;have k1 := (hB.block _ (by omega)).trans h.disk;have k2 := (hB.block _ (by omega)).trans h.told;have k3 := (hB.block _ (by omega)).trans h.bad;refine ⟨hb.grow g3 (by omega), (hb.block _ (Za k1) (by omega)).trans k1, ?_, (hb.block _ (Za k3) (by omega)).trans k3, hS.other hb (by omega)⟩;have := Ye k2 0 v';simpa using this
theorem K4.keeps {s : Int} {x : Value} {o' : Obj} (h : K4 w0 vd s rs tv us w) (hg : (w.alloc o).grownBy w3 tv.ownBlock) (hz : w.heap[w0.heap.size + 1]? = some o') : (w3.setCell ⟨w0.heap.size + 1 + 1, 0, none⟩ x).heap[w0.heap.size + 1]? = some o' := by
 have hsz := Za h.bad;have hB := J1 (by omega) h.rows.row hg;have hb : Zo (w0.heap.size + 1 + 1) w3 (w3.setCell ⟨w0.heap.size + 1 + 1, 0, none⟩ x) := (Zo.refl _ _).set _ _ _;have k1 := (hB.block _ (by omega)).trans hz;exact (hb.block _ (Za k1) (by omega)).trans k1
def Zab (d : Dk) (a : Int) : List Rec := if (Z5 d a).kind = 1 then [] else [Z5 d a]
theorem Zqm (d : Dk) (pa s E : Int) (rs : List Rec) (r : Rec) (vb vl : Value) (w0 w : World) (hF : d.Fine 1000) (hd : Vb d (.agg #[vb, vl]) w0) (h0 : 0 ≤ pa) (h1 : pa < 12) (HX : Hid (E = Qa d pa)) (HR : Hid (r = Y3 (Yp d pa) pa)) (hE : E ≠ 0) (hV : J3 w0 #[vb, vl] s rs w) :
  Calls Tryz.prog 79 #[.int .i64 pa, .pointer (some ⟨w0.heap.size, 0, none⟩), .pointer (some ⟨w0.heap.size + 1 + 1 + 1, 0, none⟩), .pointer (some ⟨w0.heap.size + 1 + 1, 0, none⟩)] w fun e w' => e = .returned (.int .i64 0) ∧ J3 w0 #[vb, vl] s rs w' := by
 obtain ⟨ab, cb, al, cl, hv, hb, hl⟩ := hd.form;cases hv;obtain ⟨⟨tv, us, hV⟩, hZ⟩ := hV;have hdw : Vb d (.agg #[.slice ab d.blocks.length cb, .slice al d.late.length cl]) w := Zfk _ _ _ _ hV.grow hd;have x0 := Zc hV.disk 0 _ rfl;have x1 := Zc hV.disk 1 _ rfl;have hB : w0.heap.size + 1 + 1 + 1 + 1 ≤ w.heap.size := Za hV.bad;have HC : Hid _ := hB;clear hb hl hB;go_enter Tryz.func79, Tryz.ntmps79;go_wp2_with fail;refine (Zd4 d pa _ _ hF hdw h0 h1).mono ?_;rw [← HX.out, ← HR.out];rintro e w1 ⟨dv, rfl, ho, g1⟩;obtain ⟨a1, c1, rfl⟩ := Yc ho;have hV1 := hV.on g1;have hZ1 := (g1.block _ (Za hZ)).trans hZ;have ho1 := Yk ho (base' := w0.heap.size + 1 + 1 + 1 + 1) HC.out;have g2 := Zb w1 (.cells #[.int .i64 r.kind, .int .i64 r.key, .int .i64 r.ver, .slice a1 r.data.length c1] 61);have hR2 := Zg w1 #[.int .i64 r.kind, .int .i64 r.key, .int .i64 r.ver, .slice a1 r.data.length c1] 61;have hV2 := hV1.on g2;have hZ2 := (g2.block _ (Za hZ1)).trans hZ1;have ho2 := Yb ho1 g2;have HSZ : Hid (w0.heap.size + 1 + 1 + 1 + 1 ≤ w1.heap.size) := Nat.le_trans HC.out g1.size;have hne : w1.heap.size ≠ w0.heap.size + 1 + 1 + 1 := fun h => by have := Za hV1.bad; omega
 clear x0 x1 hV hZ hdw ho ho1 hd g1 hV1 hZ1 g2;have d0 : (E == 0) = false := Vg hE;clear hne hR2 ho2 hE;go_wp2_with fail;go_ret;exact ⟨rfl, ⟨_, _, hV2⟩, hZ2⟩
theorem Znh (d : Dk) (pa s : Int) (rs : List Rec) (r : Rec) (vb vl : Value) (w0 w : World) (hF : d.Fine 1000) (hd : Vb d (.agg #[vb, vl]) w0) (h0 : 0 ≤ pa) (h1 : pa < 12) (HX : Hid (0 = Qa d pa)) (HR : Hid (r = Y3 (Yp d pa) pa)) (hk : r.kind = 1) (hs0 : -5 ≤ s) (hs1 : s ≤ 5) (hV : J3 w0 #[vb, vl] s rs w) :
  Calls Tryz.prog 79 #[.int .i64 pa, .pointer (some ⟨w0.heap.size, 0, none⟩), .pointer (some ⟨w0.heap.size + 1 + 1 + 1, 0, none⟩), .pointer (some ⟨w0.heap.size + 1 + 1, 0, none⟩)] w fun e w' => e = .returned (.int .i64 0) ∧ J3 w0 #[vb, vl] (s - 1) rs w' := by
 obtain ⟨ab, cb, al, cl, hv, hb, hl⟩ := hd.form;cases hv;obtain ⟨⟨tv, us, hV⟩, hZ⟩ := hV;have hdw : Vb d (.agg #[.slice ab d.blocks.length cb, .slice al d.late.length cl]) w := Zfk _ _ _ _ hV.grow hd;have x0 := Zc hV.disk 0 _ rfl;have x1 := Zc hV.disk 1 _ rfl;have hB : w0.heap.size + 1 + 1 + 1 + 1 ≤ w.heap.size := Za hV.bad;have HC : Hid _ := hB;clear hb hl hB;go_enter Tryz.func79, Tryz.ntmps79;go_wp2_with fail;refine (Zd4 d pa _ _ hF hdw h0 h1).mono ?_;rw [← HX.out, ← HR.out];rintro e w1 ⟨dv, rfl, ho, g1⟩;obtain ⟨a1, c1, rfl⟩ := Yc ho;have hV1 := hV.on g1;have hZ1 := (g1.block _ (Za hZ)).trans hZ;have ho1 := Yk ho (base' := w0.heap.size + 1 + 1 + 1 + 1) HC.out;have g2 := Zb w1 (.cells #[.int .i64 r.kind, .int .i64 r.key, .int .i64 r.ver, .slice a1 r.data.length c1] 61);have hR2 := Zg w1 #[.int .i64 r.kind, .int .i64 r.key, .int .i64 r.ver, .slice a1 r.data.length c1] 61;have hV2 := hV1.on g2;have hZ2 := (g2.block _ (Za hZ1)).trans hZ1;have ho2 := Yb ho1 g2;have HSZ : Hid (w0.heap.size + 1 + 1 + 1 + 1 ≤ w1.heap.size) := Nat.le_trans HC.out g1.size;have hne : w1.heap.size ≠ w0.heap.size + 1 + 1 + 1 := fun h => by have := Za hV1.bad; omega
 clear x0 x1 hV hZ hdw ho ho1 hd g1 hV1 hZ1 g2;have hV3 := hV2.less (s - 1);have hb3 : Zo (w0.heap.size + 1 + 1 + 1) (w1.alloc (.cells #[.int .i64 r.kind, .int .i64 r.key, .int .i64 r.ver, .slice a1 r.data.length c1] 61)) _ := (Zo.refl _ _).set 0 none (.int .i64 (s - 1));have hZ3 := (hb3.block _ (Za hZ2) (by omega)).trans hZ2;have hR3 := (hb3.block _ (Za hR2) hne).trans hR2;have ho3 := Kj hb3 (by omega) ho2;have y0 := Zc hV2.bad 0 _ rfl;have f0 := Zi hV2.bad 0;have z0 := Zc hR3 0 _ rfl;have d1 : (r.kind != 1) = false := by simp [hk]
 clear hk hne hb3 hR2 hR3 hV2 hZ2 ho2 ho3;go_wp2_with fail;go_ret;exact ⟨rfl, ⟨_, _, hV3⟩, hZ3⟩
theorem Zng (d : Dk) (pa s : Int) (rs : List Rec) (r : Rec) (vb vl : Value) (w0 w : World) (hF : d.Fine 1000) (hd : Vb d (.agg #[vb, vl]) w0) (h0 : 0 ≤ pa) (h1 : pa < 12) (HX : Hid (0 = Qa d pa)) (HR : Hid (r = Y3 (Yp d pa) pa)) (hk : r.kind ≠ 1) (hs0 : -5 ≤ s) (hs1 : s ≤ 5) (hrs : rs.length ≤ 10) (hV : J3 w0 #[vb, vl] s rs w) :
  Calls Tryz.prog 79 #[.int .i64 pa, .pointer (some ⟨w0.heap.size, 0, none⟩), .pointer (some ⟨w0.heap.size + 1 + 1 + 1, 0, none⟩), .pointer (some ⟨w0.heap.size + 1 + 1, 0, none⟩)] w fun e w' => e = .returned (.int .i64 0) ∧ J3 w0 #[vb, vl] (s - 1) (rs ++ [r]) w' := by
 obtain ⟨i0, hif, hz0, hz1, hz2⟩ := info_parts Ztt;obtain ⟨ab, cb, al, cl, hv, hb, hl⟩ := hd.form;cases hv;obtain ⟨⟨tv, us, hV⟩, hZ⟩ := hV;have hdw : Vb d (.agg #[.slice ab d.blocks.length cb, .slice al d.late.length cl]) w := Zfk _ _ _ _ hV.grow hd;have x0 := Zc hV.disk 0 _ rfl;have x1 := Zc hV.disk 1 _ rfl;have hB : w0.heap.size + 1 + 1 + 1 + 1 ≤ w.heap.size := Za hV.bad;have HC : Hid _ := hB;clear hb hl hB;go_enter Tryz.func79, Tryz.ntmps79;go_wp2_with fail;refine (Zd4 d pa _ _ hF hdw h0 h1).mono ?_;rw [← HX.out, ← HR.out];rintro e w1 ⟨dv, rfl, ho, g1⟩;obtain ⟨a1, c1, rfl⟩ := Yc ho;have hV1 := hV.on g1;have hZ1 := (g1.block _ (Za hZ)).trans hZ;have ho1 := Yk ho (base' := w0.heap.size + 1 + 1 + 1 + 1) HC.out;have g2 := Zb w1 (.cells #[.int .i64 r.kind, .int .i64 r.key, .int .i64 r.ver, .slice a1 r.data.length c1] 61);have hR2 := Zg w1 #[.int .i64 r.kind, .int .i64 r.key, .int .i64 r.ver, .slice a1 r.data.length c1] 61;have hV2 := hV1.on g2;have hZ2 := (g2.block _ (Za hZ1)).trans hZ1;have ho2 := Yb ho1 g2;have HSZ : Hid (w0.heap.size + 1 + 1 + 1 + 1 ≤ w1.heap.size) := Nat.le_trans HC.out g1.size;have hne : w1.heap.size ≠ w0.heap.size + 1 + 1 + 1 := fun h => by have := Za hV1.bad; omega
 clear x0 x1 hV hZ hdw ho ho1 hd g1 hV1 hZ1 g2;have hV3 := hV2.less (s - 1);have hb3 : Zo (w0.heap.size + 1 + 1 + 1) (w1.alloc (.cells #[.int .i64 r.kind, .int .i64 r.key, .int .i64 r.ver, .slice a1 r.data.length c1] 61)) _ := (Zo.refl _ _).set 0 none (.int .i64 (s - 1));have hZ3 := (hb3.block _ (Za hZ2) (by omega)).trans hZ2;have hR3 := (hb3.block _ (Za hR2) hne).trans hR2;have ho3 := Kj hb3 (by omega) ho2;have y0 := Zc hV2.bad 0 _ rfl;have f0 := Zi hV2.bad 0;have z0 := Zc hR3 0 _ rfl;have d1 : (r.kind != 1) = true := by simp [hk]
 have z1 := Zc hR3 1 _ rfl;have z2 := Zc hR3 2 _ rfl;have z3 := Zc hR3 3 _ rfl;have t0 := Zc hV3.told 0 _ rfl;have HV : Hid _ := hV3;obtain ⟨at_, ct, htv⟩ := hV3.rows.form;subst htv;have hrow := hV3.rows.row;obtain ⟨W3, hW3⟩ : ∃ W3, W3 = World.setCell (w1.alloc (.cells #[.int .i64 r.kind, .int .i64 r.key, .int .i64 r.ver, .slice a1 r.data.length c1] 61)) ⟨w0.heap.size + 1 + 1 + 1, 0, none⟩ (.int .i64 (s - 1)) := ⟨_, rfl⟩;have hnew : ∀ (j : Nat) u, [Value.int .i64 r.kind, .int .i64 r.key, .int .i64 r.ver, .slice a1 r.data.length c1][j]? = some u → (W3.alloc (.cells #[.int .i64 r.kind, .int .i64 r.key, .int .i64 r.ver, .slice a1 r.data.length c1] 61)).cell? ((⟨w1.heap.size + 1, 0, none⟩ : Addr).add j) = some u := by
  intro j u hj;have h := Zqd W3 _ _ _ _ 61 j u hj;rw [show W3.heap.size = w1.heap.size + 1 from by rw [hW3]; simp] at h;exact h
 rw [← hW3] at HV hrow hZ3 ho3;have HW3 : Hid _ := hW3;rw [hW3] at hnew hrow;clear hW3;clear hk hne hb3 hR2 hR3 hV2 hZ2 ho2 hV3;go_wp2_with (first
  | (at_builtin; refine wpList_append_own _ rfl (.tmp 21) (.tmp 23) 58 rfl (w0.heap.size + 1 + 1 + 1 + 1) 61 i0 (.agg #[.int .i64 0, .int .i64 0, .int .i64 0, .slice none 0 0]) 4 48 Tryz.underlying58 hif hz0 hz1 hz2 rfl (by decide) (.slice at_ rs.length ct) rs.length (Kz rs us) rfl (hrow.alloc _) ⟨w1.heap.size + 1, 0, none⟩ 1 1 [.int .i64 r.kind, .int .i64 r.key, .int .i64 r.ver, .slice a1 r.data.length c1] rfl rfl hnew (by intro u hu; simp at hu; rcases hu with rfl | rfl | rfl | rfl <;> rfl) (by unfold maxLen; omega) (by omega) (by have := HSZ.out; simp; omega) ?_; intro v4 w4 hown4 hgrow4 _; rw [← HW3.out] at hgrow4; have hE := HV.out.more (r := r) hgrow4 hown4 ho3; have hZE := HV.out.keeps (x := v4) hgrow4 hZ3; have hB4 := J1 (by have := Za HV.out.bad; omega) HV.out.rows.row hgrow4; have ht4 := (hB4.block _ (by omega)).trans HV.out.told; have y4 := Zc ht4 0 _ rfl; have f4 := Zi ht4 0; have hsl := Y4 hown4; obtain ⟨a4, c4, hv4⟩ := hsl; subst hv4; clear hgrow4 hown4 hrow hnew hB4 ht4 HV))
 go_ret;exact ⟨rfl, ⟨_, _, hE⟩, hZE⟩
theorem Zqn (d : Dk) (pa s : Int) (rs : List Rec) (vb vl : Value) (w0 w : World) (hF : d.Fine 1000) (hd : Vb d (.agg #[vb, vl]) w0) (h0 : 0 ≤ pa) (h1 : pa < 12) (hs0 : -5 ≤ s) (hs1 : s ≤ 5) (hrs : rs.length ≤ 10) (hV : J3 w0 #[vb, vl] s rs w) :
  Calls Tryz.prog 79 #[.int .i64 pa, .pointer (some ⟨w0.heap.size, 0, none⟩), .pointer (some ⟨w0.heap.size + 1 + 1 + 1, 0, none⟩), .pointer (some ⟨w0.heap.size + 1 + 1, 0, none⟩)] w fun e w' => e = .returned (.int .i64 0) ∧ J3 w0 #[vb, vl] (s - 1 + Y5 d pa) (rs ++ Zab d pa) w' := by
 by_cases hE : Qa d pa = 0
 ·have hS : Z5 d pa = Y3 (Yp d pa) pa := by unfold Z5; rw [if_pos hE]
  have hB : s - 1 + Y5 d pa = s - 1 := by unfold Y5; rw [if_pos hE]; omega
  rw [hB];by_cases hk : (Y3 (Yp d pa) pa).kind = 1
  ·have hT : rs ++ Zab d pa = rs := by unfold Zab; rw [hS, if_pos hk, List.append_nil]
   rw [hT];exact Znh d pa s rs _ vb vl w0 w hF hd h0 h1 (show 0 = Qa d pa from hE.symm) (show _ = Y3 (Yp d pa) pa from rfl) hk hs0 hs1 hV
  ·have hT : Zab d pa = [Y3 (Yp d pa) pa] := by unfold Zab; rw [hS, if_neg hk]
   rw [hT];exact Zng d pa s rs _ vb vl w0 w hF hd h0 h1 (show 0 = Qa d pa from hE.symm) (show _ = Y3 (Yp d pa) pa from rfl) hk hs0 hs1 hrs hV
 ·have hS : Z5 d pa = Rec.free := by unfold Z5; rw [if_neg hE]
  have hB : s - 1 + Y5 d pa = s := by unfold Y5; rw [if_neg hE]; omega
  have hT : rs ++ Zab d pa = rs := by unfold Zab; rw [hS, if_pos (show Rec.free.kind = 1 from rfl), List.append_nil]
  rw [hB, hT];exact Zqm d pa s _ rs _ vb vl w0 w hF hd h0 h1 (show _ = Qa d pa from rfl) (show _ = Y3 (Yp d pa) pa from rfl) hE hV
def sN (d : Dk) (p : Int) : Nat → Int
 | 0 => 2
 | n + 1 => sN d p n - 1 + Y5 d (p * 2 + (n : Int))
def rN (d : Dk) (p : Int) : Nat → List Rec
 | 0 => []
 | n + 1 => rN d p n ++ Zab d (p * 2 + (n : Int))
theorem Zws (d : Dk) (p : Int) : ∀ n : Nat, 2 - (n : Int) ≤ sN d p n ∧ sN d p n ≤ 2
 | 0 => by simp [sN]
 | n + 1 => by
  have ih := Zws d p n;have := V0 d (p * 2 + (n : Int));simp only [sN];omega
theorem Zss (d : Dk) (p : Int) : ∀ n, (rN d p n).length ≤ n
 | 0 => by simp [rN]
 | n + 1 => by
  have ih := Zss d p n;have : (Zab d (p * 2 + (n : Int))).length ≤ 1 := by unfold Zab; split <;> simp
  simp only [rN, List.length_append];omega
theorem look_ok (d : Dk) (p : Int) (hn : d.noPair p = false) : Zgn (rN d p 2) (sN d p 2) = d.how p ∧ (rN d p 2).headD Rec.free = d.tell p := by
 have e0 : p * 2 + ((0 : Nat) : Int) = 2 * p := by omega
 have e1 : p * 2 + ((1 : Nat) : Int) = 2 * p + 1 := by omega
 have hr : rN d p 2 = Zab d (2 * p) ++ Zab d (2 * p + 1) := by simp only [rN, e0, e1, List.nil_append]
 have hs : sN d p 2 = Y5 d (2 * p) + Y5 d (2 * p + 1) := by simp only [sN, e0, e1]; omega
 rw [hr, hs];unfold Dk.how Dk.tell K2 Zab;rw [hn];by_cases k0 : (Z5 d (2 * p)).kind = 1
 ·have s0 : Yt d (2 * p) = 0 := by unfold Yt; rw [if_pos k0]
  by_cases k1 : (Z5 d (2 * p + 1)).kind = 1
  ·have s1 : Yt d (2 * p + 1) = 0 := by unfold Yt; rw [if_pos k1]
   rw [s0, s1];simp [k0, k1, Zgn]
  ·have s1 : Yt d (2 * p + 1) = 1 := by unfold Yt; rw [if_neg k1]
   rw [s0, s1];simp [k0, k1, Zgn]
 ·have s0 : Yt d (2 * p) = 1 := by unfold Yt; rw [if_neg k0]
  by_cases k1 : (Z5 d (2 * p + 1)).kind = 1
  ·have s1 : Yt d (2 * p + 1) = 0 := by unfold Yt; rw [if_pos k1]
   rw [s0, s1];simp [k0, k1, Zgn]
  ·have s1 : Yt d (2 * p + 1) = 1 := by unfold Yt; rw [if_neg k1]
   rw [s0, s1];simp [k0, k1, Zgn]
theorem Zi7 (args : Array Value) (w : World) : (callFunc 79 args).run Tryz.prog w = .ok (.enter 79 args) w := by
 simp [callFunc, Tryz.func79, Tryz.f79, mark]
theorem Zql (d : Dk) (p : Int) (vb vl : Value) (w0 w : World) (hF : d.Fine 1000) (hd : Vb d (.agg #[vb, vl]) w0) (hV : J3 w0 #[vb, vl] 2 [] w) :
  Calls Tryz.prog 78 #[.int .i64 p, .func (.func 79) #[] #[.pointer (some ⟨w0.heap.size, 0, none⟩), .pointer (some ⟨w0.heap.size + 1 + 1 + 1, 0, none⟩), .pointer (some ⟨w0.heap.size + 1 + 1, 0, none⟩)]] w fun e w' => ∃ E s rs, e = .returned (.int .i64 E) ∧ J3 w0 #[vb, vl] s rs w' ∧ rs.length ≤ 2 ∧ Zgn rs s = d.how p ∧ rs.headD Rec.free = d.tell p := by
 have h12 := hF.len;by_cases hout : p < 0 ∨ 6 ≤ p
 ·refine (Zlf _ _ p w hout).mono ?_;rintro e w' ⟨rfl, rfl⟩;have hn : d.noPair p = true := by unfold Dk.noPair; exact decide_eq_true (by omega)
  have hh : d.how p = 4 := by unfold Dk.how; rw [if_pos hn]
  have ht : d.tell p = Rec.free := by unfold Dk.tell; rw [if_pos hn]
  exact ⟨3, 2, [], rfl, hV, by simp, by rw [hh]; rfl, by rw [ht]; rfl⟩
 ·have hn : d.noPair p = false := by unfold Dk.noPair; exact decide_eq_false (by omega)
  refine (Zgw _ _ p w (by omega) (by omega) Zi7 (fun n w' => J3 w0 #[vb, vl] (sN d p n) (rN d p n) w') (fun _ _ => False) hV ?_).mono ?_
  ·intro n w' hn2 hI;have hs := Zws d p n;have hr := Zss d p n;refine (Zqn d (p * 2 + (n : Int)) _ _ vb vl w0 w' hF hd (by omega) (by omega) (by omega) (by omega) (by omega) hI).mono ?_;rintro e w2 ⟨rfl, hV2⟩;exact ⟨0, rfl, fun _ => hV2, fun h => absurd rfl h⟩
  ·rintro e w' ⟨E, rfl, hE0, hE1⟩;by_cases hE : E = 0
   ·obtain ⟨k1, k2⟩ := look_ok d p hn;exact ⟨E, _, _, rfl, hE0 hE, Zss d p 2, k1, k2⟩
   ·exact (hE1 hE).elim
theorem J3.start (w : World) (vd : Array Value) : J3 w vd 2 [] ((((w.alloc (.cells vd 26)).alloc (.cells #[.int .i64 0, .int .i64 0, .int .i64 0, .slice none 0 0] 61)).alloc (.cells #[.slice none 0 0] 58)).alloc (.cells #[.int .i64 2] 3)) := by
 have g1 := Zb w (.cells vd 26);have k1 := Zg w vd 26;have s1 := World.size_alloc w (.cells vd 26);generalize World.alloc w _ = w1 at *;have g2 := Zb w1 (.cells #[.int .i64 0, .int .i64 0, .int .i64 0, .slice none 0 0] 61);have k2 := Zg w1 #[.int .i64 0, .int .i64 0, .int .i64 0, .slice none 0 0] 61;have s2 := World.size_alloc w1 (.cells #[.int .i64 0, .int .i64 0, .int .i64 0, .slice none 0 0] 61);generalize World.alloc w1 _ = w2 at *;have g3 := Zb w2 (.cells #[.slice none 0 0] 58);have k3 := Zg w2 #[.slice none 0 0] 58;have s3 := World.size_alloc w2 (.cells #[.slice none 0 0] 58);generalize World.alloc w2 _ = w3 at *;have g4 := Zb w3 (.cells #[.int .i64 2] 3);have k4 := Zg w3 #[.int .i64 2] 3;generalize World.alloc w3 _ = w4 at *;rw [s3, s2, s1] at k4;rw [s2, s1] at k3;rw [s1] at k2;refine ⟨⟨.slice none 0 0, [], ((g1.trans g2).trans g3).trans g4, (((g2.trans g3).trans g4).block _ (Za k1)).trans k1, (g4.block _ (Za k3)).trans k3, k4, Vm.nil _ _⟩, ?_⟩;exact ((g3.trans g4).block _ (Za k2)).trans k2
theorem Zai (d : Dk) (p : Int) (v : Value) (w : World) (hF : d.Fine 1000) (hd : Vb d v w) :
  Calls Tryz.prog 44 #[v, .int .i64 p] w fun e w' => ∃ dv, e = .returned (.tuple #[.int .i64 (d.how p), .agg #[.int .i64 (d.tell p).kind, .int .i64 (d.tell p).key, .int .i64 (d.tell p).ver, dv]]) ∧ w'.ownsRow w.heap.size 5 1 dv (d.tell p).data.length ((d.tell p).data.map bv) ∧ Zn w w' := by
 obtain ⟨ab, cb, al, cl, rfl, -, -⟩ := hd.form;have hst := J3.start w #[.slice ab d.blocks.length cb, .slice al d.late.length cl];obtain ⟨H, hH⟩ : ∃ H, H = d.how p := ⟨_, rfl⟩;obtain ⟨R, hR⟩ : ∃ R, R = d.tell p := ⟨_, rfl⟩;rw [← hH, ← hR];have HH : Hid _ := hH;have HR : Hid _ := hR;clear hH hR;go_enter Tryz.func44, Tryz.ntmps44;go_wp2_with fail;refine (Zql d p _ _ w _ hF hd hst).mono ?_;rintro e w1 ⟨E, s, rs, rfl, ⟨⟨tv, us, hG⟩, hZ⟩, hl2, hh, ht⟩;rw [← HH.out] at hh;rw [← HR.out] at ht;obtain ⟨ao, c, hfo, hfc⟩ := Zm4 rs us _ tv w1 hG.rows;rw [ht] at hfo hfc;clear hst ht;have HN : Hid _ := hh;clear hh;go_wp2_with fail;refine Yx [px (tv), px (.int .i64 s), px (.int .i64 H), px (tv), px (.agg #[.int .i64 R.kind, .int .i64 R.key, .int .i64 R.ver, .slice ao R.data.length c]), px (.int .i64 H), pl ((fun _ w' => w'.heap[w.heap.size + 1]? = some (.cells #[.int .i64 R.kind, .int .i64 R.key, .int .i64 R.ver, .slice ao R.data.length c] 61 (0, 0))))] [none, none, none, none, none, none, some ((fun w1 w2 => Zo (w.heap.size + 1) w1 w2))] (fun dn w' => K4 w #[.slice ab d.blocks.length cb, .slice al d.late.length cl] s rs tv us w' ∧ (dn 6 = false → w'.heap[w.heap.size + 1]? = some Zrp)) (by kernel_rfl) (by kernel_rfl) ⟨se, se, se, se, se, se, Yj (Zb6 _ _), trivial⟩ ⟨⟨(fun w1 => Zo.refl _ w1), ⟨x5, x5, x5, x5, x5, x5, .inl (by kernel_rfl), trivial⟩⟩, trivial⟩ ⟨n5, n5, n5, n5, n5, n5, fun _ _ _ _ h => h, trivial⟩ ⟨hG.on (Zn.refl _).drew, fun _ => hZ⟩ ?_ ?_
 ·refine ⟨?_, ?_, ?_, ?_, ?_, ?_, ?_, trivial⟩
  ·refine Zd rfl fun a _ _ _ _ C B A => ?_;have e6 : a (.tmp 6) = .pointer (some ⟨w.heap.size + 1 + 1, 0, none⟩) := Zl A 6 rfl;have z0 := Zc B.1.told 0 _ rfl;refine Zh ?_ B rfl;clear A B C;go_simp;all_goals go_arith
  ·refine Zd rfl fun a _ _ _ _ C B A => ?_;have e7 : a (.tmp 7) = .pointer (some ⟨w.heap.size + 1 + 1 + 1, 0, none⟩) := Zl A 7 rfl;have z0 := Zc B.1.bad 0 _ rfl;refine Zh ?_ B rfl;clear A B C;go_simp;all_goals go_arith
  ·refine Zd rfl fun a B _ _ _ D C A => ?_;have e11 : a (.tmp 11) = _ := Ze A 0 rfl;have e12 : a (.tmp 12) = _ := Ze A 1 rfl;refine Yf (f := 81) (args := #[tv, .int .i64 s]) ?_ ((Zsz rs us s _ tv B C.1.rows hl2).mono ?_)
   ·clear A C D;go_simp;all_goals go_arith
   ·rw [HN.out];rintro e w2 ⟨rfl, g2⟩;exact ⟨_, rfl, g2, ⟨C.1.on g2, fun h => (g2.block _ (Za (C.2 h))).trans (C.2 h)⟩, rfl⟩
  ·refine Zd rfl fun a _ _ _ _ C B A => ?_;have e6 : a (.tmp 6) = .pointer (some ⟨w.heap.size + 1 + 1, 0, none⟩) := Zl A 6 rfl;have z0 := Zc B.1.told 0 _ rfl;refine Zh ?_ B rfl;clear A B C;go_simp;all_goals go_arith
  ·refine Zd rfl fun a B _ _ _ D C A => ?_;have e14 : a (.tmp 14) = _ := Ze A 3 rfl;refine Yf (f := 82) (args := #[tv]) ?_ ((hfc B C.1.rows).mono ?_)
   ·clear A C D;go_simp;all_goals go_arith
   ·rintro e w2 ⟨rfl, g2⟩;exact ⟨_, rfl, g2, ⟨C.1.on g2, fun h => (g2.block _ (Za (C.2 h))).trans (C.2 h)⟩, rfl⟩
  ·exact Zd rfl fun a _ _ _ _ _ B A => Xc rfl B (Ze A 2 rfl)
  ·refine Zd rfl fun a w' _ _ _ C B A => ?_;have e5 : a (.tmp 5) = .pointer (some ⟨w.heap.size + 1, 0, none⟩) := Zl A 5 rfl;have e15 : a (.tmp 15) = _ := Ze A 4 rfl;have hh : w'.heap[w.heap.size + 1]? = some (.cells #[.int .i64 0, .int .i64 0, .int .i64 0, .slice none 0 0] 61 (0, 0)) := B.2 C.un;obtain ⟨hp1, hp2⟩ := Yd hh (.int .i64 R.kind) (.int .i64 R.key) (.int .i64 R.ver) (.slice ao R.data.length c);obtain ⟨z0, z1, z2, z3⟩ := Z4 hh rfl rfl rfl rfl;obtain ⟨f0, f1, f2, f3⟩ := Yr hh;have cs := Zr;refine Yg (w' := _) ?_ hp2 ⟨B.1.but hp2, fun h => by simp [upd] at h⟩ hp1;clear A B C hp1 hp2 hh;go_simp;all_goals go_arith
 ·intro vs w' dn hdn hg ht;obtain ⟨q11, q12, q13, q14, q15, q4, qo6, -⟩ := ht;have r11 : vs 0 = _ := q11;have r12 : vs 1 = _ := q12;have r13 : vs 2 = _ := q13;have r14 : vs 3 = _ := q14;have r15 : vs 4 = _ := q15;have r4 : vs 5 = _ := q4;replace qo6 : ((fun _ w' => w'.heap[w.heap.size + 1]? = some (.cells #[.int .i64 R.kind, .int .i64 R.key, .int .i64 R.ver, .slice ao R.data.length c] 61 (0, 0)))) (vs 6) w' := qo6;clear q11 q12 q13 q14 q15 q4;simp only [Yi, Act.put, List.setIfInBounds_toArray, List.set_cons_zero, List.set_cons_succ, r11, r12, r13, r14, r15, r4];clear r11 r12 r13 r14 r15 r4;obtain ⟨y0, y1, y2, y3⟩ := Z4 qo6 rfl rfl rfl rfl;have gE := hg.1.grow;have hoE := Yk (hfo w' hg.1.rows) (base' := w.heap.size) (by omega);clear hg hdn qo6 hG hZ hfo hfc;go_wp2_with fail;exact bodyPost_ret (v := .tuple #[.int .i64 H, .agg #[.int .i64 R.kind, .int .i64 R.key, .int .i64 R.ver, .slice ao R.data.length c]]) (by simp [results, Tryz.results44, go_sem, y0, y1, y2, y3]) rfl ⟨_, rfl, hoE, gE⟩
theorem Zyi : Zyv := fun d p v w hF hd => Zai d p v w (hF.mono (by omega)) hd
end Go.Proofs.YtpdnapbchcdhlacGreat
