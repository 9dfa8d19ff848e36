import Derived.Test.YtgaecpdokgklpadGreatDoorIdxO
set_option maxHeartbeats 8000000
namespace Go.Proofs.YtgaecpdokgklpadGreatDoor
set_option maxRecDepth 100000
open Go.RowKit
open Plain Reg
theorem Zgy {w : World} {g : Nat} {T : TypeId} {f} {c0 c1 c2 c3 c4 : Value} (h : w.heap[g]? = some (.cells #[c0, c1, c2, c3, c4] T f)) (x0 x1 x2 x3 x4 : Value) :
  (((((w.setCell ⟨g, 0, none⟩ x0).setCell ⟨g, 1, none⟩ x1).setCell ⟨g, 2, none⟩ x2).setCell ⟨g, 3, none⟩ x3).setCell ⟨g, 4, none⟩ x4).heap[g]? = some (.cells #[x0, x1, x2, x3, x4] T f) ∧ Zp g w (((((w.setCell ⟨g, 0, none⟩ x0).setCell ⟨g, 1, none⟩ x1).setCell ⟨g, 2, none⟩ x2).setCell ⟨g, 3, none⟩ x3).setCell ⟨g, 4, none⟩ x4) := by
 refine ⟨?_, (((((Zp.refl g w).set _ _ _).set _ _ _).set _ _ _).set _ _ _).set _ _ _⟩;have h1 := heap_set (heap_set (heap_set (heap_set (heap_set h 0 x0) 1 x1) 2 x2) 3 x3) 4 x4;simpa using h1
def Ziu (B : Nat) (r : Rec) (v : Value) (w : World) : Prop := ∃ a c, v = .agg #[.int .i64 r.kind, .int .i64 r.key, .int .i64 r.ver, .slice a r.data.length c] ∧ w.ownsRow B 5 1 (.slice a r.data.length c) r.data.length (r.data.map bv)
theorem Zs0 (B : Nat) (r : Rec) : X7 (Ziu B r) := by
 rintro v w w' hg ⟨a, c, h1, h2⟩; exact ⟨a, c, h1, Z8 h2 hg⟩
theorem Zs7 {B : Nat} {r : Rec} {v : Value} {w w' : World} (hs : Y1 61 w w') (h : Ziu B r v w) : Ziu B r v w' := by
 obtain ⟨a, c, h1, h2⟩ := h; exact ⟨a, c, h1, Vu (by decide) hs h2⟩
def Zos (B : Nat) (x : Ent) (v : Value) (w : World) : Prop := ∃ a c, v = .agg #[.int .i64 x.rc.kind, .int .i64 x.rc.key, .int .i64 x.rc.ver, .slice a x.rc.data.length c, .int .i64 x.pair] ∧ w.ownsRow B 5 1 (.slice a x.rc.data.length c) x.rc.data.length (x.rc.data.map bv)
theorem Zwa (B : Nat) (x : Ent) : X7 (Zos B x) := by
 rintro v w w' hg ⟨a, c, h1, h2⟩; exact ⟨a, c, h1, Z8 h2 hg⟩
theorem Zwg {B : Nat} {x : Ent} {v : Value} {w w' : World} (hs : Y1 61 w w') (h : Zos B x v w) : Zos B x v w' := by
 obtain ⟨a, c, h1, h2⟩ := h; exact ⟨a, c, h1, Vu (by decide) hs h2⟩
def Zvv (B g : Nat) (x : Ent) (w : World) : Prop := ∃ a c, w.heap[g]? = some (.cells #[.int .i64 x.rc.kind, .int .i64 x.rc.key, .int .i64 x.rc.ver, .slice a x.rc.data.length c, .int .i64 x.pair] 61 (0, 0)) ∧ w.ownsRow B 5 1 (.slice a x.rc.data.length c) x.rc.data.length (x.rc.data.map bv)
theorem Zs2 (B g : Nat) (x : Ent) : X7 (fun _ w => Zvv B g x w) := by
 rintro v w w' hg ⟨a, c, h1, h2⟩; exact ⟨a, c, (hg.block _ (Za h1)).trans h1, Z8 h2 hg⟩
theorem Zgk (x : Ent) (a0 : Option Addr) (c0 : Nat) (w : World) (hm : x.rc.data.length ≤ 140737488355328) (hb : Bytes w (.slice a0 x.rc.data.length c0) x.rc.data) :
  Calls Tryz.prog 107 #[.agg #[.int .i64 x.rc.kind, .int .i64 x.rc.key, .int .i64 x.rc.ver, .slice a0 x.rc.data.length c0, .int .i64 x.pair]] w fun e w' => ∃ v, e = .returned v ∧ Zos w.heap.size x v w' ∧ Zj w w' := by
 have g0 := Zw w (.cells #[.int .i64 x.rc.kind, .int .i64 x.rc.key, .int .i64 x.rc.ver, .slice a0 x.rc.data.length c0, .int .i64 x.pair] 61) (.cells #[.int .i64 0, .int .i64 0, .int .i64 0, .slice none 0 0, .int .i64 0] 61);have hx0 := Zk w #[.int .i64 x.rc.kind, .int .i64 x.rc.key, .int .i64 x.rc.ver, .slice a0 x.rc.data.length c0, .int .i64 x.pair] 61;have hy0 := Zk (w.alloc (.cells #[.int .i64 x.rc.kind, .int .i64 x.rc.key, .int .i64 x.rc.ver, .slice a0 x.rc.data.length c0, .int .i64 x.pair] 61)) #[.int .i64 0, .int .i64 0, .int .i64 0, .slice none 0 0, .int .i64 0] 61;have hx1 := ((Zd (w.alloc (.cells #[.int .i64 x.rc.kind, .int .i64 x.rc.key, .int .i64 x.rc.ver, .slice a0 x.rc.data.length c0, .int .i64 x.pair] 61)) (.cells #[.int .i64 0, .int .i64 0, .int .i64 0, .slice none 0 0, .int .i64 0] 61)).block _ (Za hx0)).trans hx0;rw [World.size_alloc] at hy0;clear hx0;go_enter Tryz.func107, Tryz.ntmps107;go_wp2_with fail;generalize World.alloc (World.alloc w _) _ = W at *
 refine Y2 [px (.pointer (some ⟨w.heap.size, 0, none⟩)), px (.agg #[.int .i64 x.rc.kind, .int .i64 x.rc.key, .int .i64 x.rc.ver, .slice a0 x.rc.data.length c0]), pl ((Ziu (w.heap.size + 2) x.rc)), px (.pointer (some ⟨w.heap.size, 4, none⟩)), px (.int .i64 x.pair), pl ((Zos (w.heap.size + 2) x)), pl ((fun _ w' => Zvv (w.heap.size + 2) (w.heap.size + 1) x w'))] [none, none, none, none, none, none, some ((Y1 61))] (fun dn w' => Zj w w' ∧ w.heap.size + 2 ≤ w'.heap.size ∧ w'.heap[w.heap.size]? = some (.cells #[.int .i64 x.rc.kind, .int .i64 x.rc.key, .int .i64 x.rc.ver, .slice a0 x.rc.data.length c0, .int .i64 x.pair] 61 (0, 0)) ∧ (dn 6 = false → w'.heap[w.heap.size + 1]? = some (.cells #[.int .i64 0, .int .i64 0, .int .i64 0, .slice none 0 0, .int .i64 0] 61 (0, 0)))) (by kernel_rfl) (by kernel_rfl) ⟨se, se, Ym (Zs0 _ _), se, se, Ym (Zwa _ _), Ym (Zs2 _ _ _), trivial⟩ ⟨⟨(fun w => .inl rfl), ⟨x5, x5, .inr ((fun v _ w1 w' hs hq => Zs7 hs hq)), x5, x5, .inr ((fun v _ w1 w' hs hq => Zwg hs hq)), .inl (by kernel_rfl), trivial⟩⟩, trivial⟩ ⟨n5, n5, n5, n5, n5, n5, fun _ _ _ _ h => h, trivial⟩ ⟨g0.drew, Za hy0, hx1, fun _ => hy0⟩ ?_ ?_
 ·refine ⟨?_, ?_, ?_, ?_, ?_, ?_, ?_, trivial⟩
  ·refine Ze rfl fun a w' ek ef dn hr hg hin => ?_;have e1 : a (.tmp 1) = .pointer (some ⟨w.heap.size, 0, none⟩) := Zr hin 1 rfl;refine Zs ?_ hg rfl;clear hin hg;go_simp;all_goals go_arith
  ·refine Ze rfl fun a w' ek ef dn hr hg hin => ?_;have e3 : a (.tmp 3) = _ := Zg hin 0 rfl;have z0 := Zf hg.2.2.1 0 _ rfl;have z1 := Zf hg.2.2.1 1 _ rfl;have z2 := Zf hg.2.2.1 2 _ rfl;have z3 := Zf hg.2.2.1 3 _ rfl;refine Zs ?_ hg rfl;clear hin hg hr;go_simp;all_goals go_arith
  ·refine Ze rfl fun a w' ek ef dn hr hg hin => ?_;have e4 : a (.tmp 4) = _ := Zg hin 1 rfl;refine Ye (f := 15) (args := #[.agg #[.int .i64 x.rc.kind, .int .i64 x.rc.key, .int .i64 x.rc.ver, .slice a0 x.rc.data.length c0]]) ?_ ((Zdc x.rc.kind x.rc.key x.rc.ver x.rc.data _ w' hm (Z2 hb hg.1)).mono ?_)
   ·clear hin hg hr;go_simp;all_goals go_arith
   ·rintro e w2 ⟨v', rfl, ho, g2⟩;obtain ⟨a9, c9, rfl⟩ := Yd ho;exact ⟨_, rfl, g2, ⟨hg.1.trans g2, Nat.le_trans hg.2.1 g2.size, (g2.block _ (Za hg.2.2.1)).trans hg.2.2.1, fun h => (g2.block _ (Za (hg.2.2.2 h))).trans (hg.2.2.2 h)⟩, a9, c9, rfl, Yi ho hg.2.1⟩
  ·refine Ze rfl fun a w' ek ef dn hr hg hin => ?_;have e1 : a (.tmp 1) = .pointer (some ⟨w.heap.size, 0, none⟩) := Zr hin 1 rfl;refine Zs ?_ hg rfl;clear hin hg;go_simp;all_goals go_arith
  ·refine Ze rfl fun a w' ek ef dn hr hg hin => ?_;have e6 : a (.tmp 6) = _ := Zg hin 3 rfl;have z4 := Zf hg.2.2.1 4 _ rfl;refine Zs ?_ hg rfl;clear hin hg hr;go_simp;all_goals go_arith
  ·refine Ze rfl fun a w' ek ef dn hr hg hin => ?_;have e5 : ((Ziu (w.heap.size + 2) x.rc)) (a (.tmp 5)) w' := Zg hin 2 rfl;have e7 : a (.tmp 7) = _ := Zg hin 4 rfl;obtain ⟨a9, c9, h5, ho⟩ := e5;refine Zs (v := .agg #[.int .i64 x.rc.kind, .int .i64 x.rc.key, .int .i64 x.rc.ver, .slice a9 x.rc.data.length c9, .int .i64 x.pair]) ?_ hg ⟨a9, c9, rfl, ho⟩;clear hin hg hr ho;go_simp;all_goals go_arith
  ·refine Ze rfl fun a w' ek ef dn hr hg hin => ?_;have e2 : a (.tmp 2) = .pointer (some ⟨w.heap.size + 1, 0, none⟩) := Zr hin 2 rfl;have e8 : ((Zos (w.heap.size + 2) x)) (a (.tmp 8)) w' := Zg hin 5 rfl;obtain ⟨a9, c9, h8, ho⟩ := e8;have hh := hg.2.2.2 hr.un;obtain ⟨hp1, hp2⟩ := Zgy hh (.int .i64 x.rc.kind) (.int .i64 x.rc.key) (.int .i64 x.rc.ver) (.slice a9 x.rc.data.length c9) (.int .i64 x.pair);have hstep : Y1 61 w' _ := .inr ⟨_, _, _, hp2, hh, hp1, rfl⟩;obtain ⟨y0, y1, y2, y3, y4⟩ := Vx hh rfl rfl rfl rfl rfl;obtain ⟨f0, f1, f2, f3⟩ := Y0 hh;have f4 := Zn hh 4;have cs := Zv;refine Yt (w' := _) ?_ hstep ⟨hp2.grow hg.1 (by omega), Nat.le_trans hg.2.1 hp2.size, (hp2.block _ (Za hg.2.2.1) (by omega)).trans hg.2.2.1, fun h => by simp [upd] at h⟩ ⟨a9, c9, hp1, Vu (by decide) hstep ho⟩;clear hin hg hr hp1 hp2 hh ho hstep;go_simp;all_goals go_arith
 ·intro vs w' dn hdn hg ht;obtain ⟨q3, q4, q5, q6, q7, q8, qo6, -⟩ := ht;have r3 : vs 0 = .pointer (some ⟨w.heap.size, 0, none⟩) := q3;have r4 : vs 1 = .agg #[.int .i64 x.rc.kind, .int .i64 x.rc.key, .int .i64 x.rc.ver, .slice a0 x.rc.data.length c0] := q4;replace q5 : ((Ziu (w.heap.size + 2) x.rc)) (vs 2) w' := q5;have r6 : vs 3 = .pointer (some ⟨w.heap.size, 4, none⟩) := q6;have r7 : vs 4 = .int .i64 x.pair := q7;replace q8 : ((Zos (w.heap.size + 2) x)) (vs 5) w' := q8;replace qo6 : ((fun _ w' => Zvv (w.heap.size + 2) (w.heap.size + 1) x w')) (vs 6) w' := qo6;clear q3 q4 q6 q7;simp only [Ya, Act.put, List.setIfInBounds_toArray, List.set_cons_zero, List.set_cons_succ, Nat.reduceAdd, r3, r4, r6, r7];clear r3 r4 r6 r7;obtain ⟨a9, c9, hp, ho⟩ := qo6;obtain ⟨y0, y1, y2, y3, y4⟩ := Vx hp rfl rfl rfl rfl rfl;have gE := hg.1;have hoE := Yi ho (base' := w.heap.size) (by omega);clear q5 q8 hdn hg hp ho hx1 hy0 g0;go_wp2_with fail;exact bodyPost_ret (v := .agg #[.int .i64 x.rc.kind, .int .i64 x.rc.key, .int .i64 x.rc.ver, .slice a9 x.rc.data.length c9, .int .i64 x.pair]) (by simp [results, Tryz.results107, go_sem, y0, y1, y2, y3, y4]) rfl ⟨_, rfl, ⟨a9, c9, rfl, hoE⟩, gE⟩
theorem Zlw (Pr : Ent → Bool) {l : List Ent} {k : Nat} (h : k < l.length) : (l.take (k + 1)).filter Pr = (l.take k).filter Pr ++ (if Pr l[k] = true then [l[k]] else []) := by
 rw [List.take_succ_eq_append_getElem h, List.filter_append]
 congr 1
 by_cases hp : Pr l[k] = true
 ·rw [if_pos hp, List.filter_cons_of_pos hp]; rfl
 ·rw [if_neg hp, List.filter_cons_of_neg hp]; rfl
theorem Yq.made {α : Type} {sh : Qb α} {S0 : Nat → Prop} {B : Nat} {v : Value} {w : World} (h : w.ownsRow B sh.T sh.size v 0 []) : Yq sh S0 B v [] [] w := ⟨rfl, fun i hi => by simp at hi, h⟩
abbrev NoS : Nat → Prop := fun _ => False
theorem Za2 (K : Nat) (caps : Array Value) (Pr : Ent → Bool) (S : Nat → Prop) (l : List Ent) (v : Value) (w : World) (hK : ∀ (args : Array Value) (w : World), (callFunc K args).run Tryz.prog w = .ok (.enter K args) w) (hl : Ys S w v l) (hn : l.length ≤ 1000000) (h8 : ∀ x ∈ l, x.rc.data.length ≤ 8)
  (hc : ∀ (x : Ent) (a : Option Addr) (c : Nat) (w' : World), x ∈ l → Zj w w' → Calls Tryz.prog K (#[.agg #[.int .i64 x.rc.kind, .int .i64 x.rc.key, .int .i64 x.rc.ver, .slice a x.rc.data.length c, .int .i64 x.pair]] ++ caps) w' fun e w2 => e = .returned (.bool (Pr x)) ∧ Zj w' w2) :
  Calls Tryz.prog 66 #[v, .func (.func K) #[] caps] w fun e w' => ∃ v' css, e = .returned v' ∧ Yq Yy NoS w.heap.size v' (l.filter Pr) css w' ∧ Zj w w' := by
 obtain ⟨i0, hif, hz0, hz1, hz2⟩ := info_parts Zdl;obtain ⟨ao, cp, rfl⟩ := hl.form;obtain ⟨F, hF⟩ : ∃ F, F = l.filter Pr := ⟨_, rfl⟩;rw [← hF];have HF : Hid _ := hF;clear hF;go_enter Tryz.func66, Tryz.ntmps66;go_wp2_with (at_make; refine wpList_make_own _ rfl _ _ 28 rfl w.heap.size 61 i0 (.agg #[.int .i64 0, .int .i64 0, .int .i64 0, .slice none 0 0, .int .i64 0]) 5 Tryz.underlying28 hif hz0 hz1 .i64 .i64 _ l.length rfl rfl rfl (by rw [hz2]; omega) (by unfold maxLen; omega) (Nat.le_refl _) ?_; intro w1 hown1 hgrow1);have hR0 : Yq Yy NoS w.heap.size (.slice (some ⟨w.heap.size, 0, none⟩) 0 l.length) [] [] w1 := Yq.made hown1;have g0 : Zj w w1 := Yn (Zj.refl _) hgrow1 (fun k e => by cases e);clear hown1 hgrow1;go_loopw [5, 13] (fun o i wr => ∃ (k : Nat) (css : List (List Value)), k ≤ l.length ∧ i = .int .i64 k ∧ Yq Yy NoS w.heap.size o ((l.take k).filter Pr) css wr ∧ Zj w wr) (fun _ i _ => l.length - (intOf i).toNat)
 case atStart => exact ⟨0, [], Nat.zero_le _, rfl, hR0, g0⟩
 case round =>
  clear hR0 g0;obtain ⟨k, css, hk, rfl, hR, hg⟩ := hrel;by_cases hlt : k < l.length
  ·obtain ⟨b, off, a1, c1, hv1, q0, q1, q2, q3, q4, hu⟩ := Zb6 (hl.grow hg) k hlt;cases hv1;have HT : Hid ((l.take (k + 1)).filter Pr = (l.take k).filter Pr ++ (if Pr l[k] = true then [l[k]] else [])) := Zlw Pr hlt;have hxl : ((l.take k).filter Pr).length ≤ 1000000 := Nat.le_trans (List.length_filter_le _ _) (by rw [List.length_take]; omega);have HM : Hid (l[k] ∈ l) := List.getElem_mem hlt;have HB : Hid (l[k].rc.data.length ≤ 8) := h8 _ (List.getElem_mem hlt);generalize l[k] = x at *;generalize (l.take k).filter Pr = xs at *;obtain ⟨a0, c0, rfl⟩ := hR.form;have g1 := Zd wr (.cells #[.int .i64 x.rc.kind, .int .i64 x.rc.key, .int .i64 x.rc.ver, .slice a1 x.rc.data.length c1, .int .i64 x.pair] 61);have hX1 := Zk wr #[.int .i64 x.rc.kind, .int .i64 x.rc.key, .int .i64 x.rc.ver, .slice a1 x.rc.data.length c1, .int .i64 x.pair] 61;have hR1 := hR.grow g1;have hu1 := hu.grow g1;have gw1 := hg.trans g1;clear hR hu hg g1;obtain ⟨x0, x1, x2, x3, x4⟩ := Vx hX1 rfl rfl rfl rfl rfl;go_wp2_with fail;refine (hc x a1 c1 _ HM.out gw1).mono ?_;rintro e w2 ⟨rfl, g2⟩;have hR2 := hR1.grow g2;have hu2 := hu1.grow g2;have hX2 := (g2.block _ (Za hX1)).trans hX1;have gw2 := gw1.trans g2;clear hR1 hu1 hX1 gw1 g2 x0 x1 x2 x3 x4 q0 q1 q2 q3 q4;generalize wr.heap.size = gx at *;obtain ⟨P, hP⟩ : ∃ P, P = Pr x := ⟨_, rfl⟩;rw [← hP];have HP : Hid _ := hP;clear hP;obtain ⟨x0, x1, x2, x3, x4⟩ := Vx hX2 rfl rfl rfl rfl rfl;cases P with
   | false =>
    have HT2 : Hid ((l.take (k + 1)).filter Pr = xs) := by show _ = _; rw [HT.out, ← HP.out]; simp
    clear HT HP hX2 hu2;go_wp2_with fail;go_roundw
    case rel => exact ⟨k + 1, _, by omega, by go_num, by rw [HT2.out]; exact hR2, gw2⟩
    case measure => simp [intOf]; omega
   | true =>
    have HT2 : Hid ((l.take (k + 1)).filter Pr = xs ++ [x]) := by show _ = _; rw [HT.out, ← HP.out]; simp
    clear HT HP;go_wp2_with fail;refine (Zgk x a1 c1 _ (by have := HB.out; omega) hu2.p).mono ?_;rintro e w3 ⟨v3, rfl, ⟨a3, c3, rfl, ho3⟩, g3⟩;have hR3 := hR2.grow g3;have gw3 := gw2.trans g3;have HO3 : Hid (w3.ownsRow w.heap.size 5 1 (.slice a3 x.rc.data.length c3) x.rc.data.length (x.rc.data.map bv)) := Yi ho3 gw2.size;have HSZ : Hid (w.heap.size ≤ w3.heap.size) := gw3.size;have hnew : ∀ (j : Nat) u, ([.int .i64 x.rc.kind, .int .i64 x.rc.key, .int .i64 x.rc.ver, .slice a3 x.rc.data.length c3, .int .i64 x.pair] : List Value)[j]? = some u → (w3.alloc (.cells #[.int .i64 x.rc.kind, .int .i64 x.rc.key, .int .i64 x.rc.ver, .slice a3 x.rc.data.length c3, .int .i64 x.pair] 61)).cell? ((⟨w3.heap.size, 0, none⟩ : Addr).add j) = some u := fun j u hj => Zh1 w3 _ _ _ _ _ 61 j u hj
    clear hR2 hu2 hX2 gw2 g3 ho3 x0 x1 x2 x3 x4;go_wp2_with (first | (at_builtin; refine wpList_append_own _ rfl (.tmp 20) (.tmp 23) 28 rfl (w.heap.size) 61 i0 (.agg #[.int .i64 0, .int .i64 0, .int .i64 0, .slice none 0 0, .int .i64 0]) 5 56 Tryz.underlying28 hif hz0 hz1 hz2 rfl (by decide) (.slice a0 xs.length c0) _ _ rfl (hR3.row.alloc _) ⟨w3.heap.size, 0, none⟩ 1 1 [.int .i64 x.rc.kind, .int .i64 x.rc.key, .int .i64 x.rc.ver, .slice a3 x.rc.data.length c3, .int .i64 x.pair] rfl rfl hnew (by intro u hu; simp at hu; rcases hu with rfl | rfl | rfl | rfl | rfl <;> rfl) (by unfold maxLen; omega) (by omega) (by have := HSZ.out; simp; omega) ?_; intro v4 w4 hown4 hgrow4 _; have hR6 := hR3.step (x := x) (by decide) (fun b h => h.elim) ⟨_, rfl, Zf4 _ (Nat.le_refl _) HO3.out⟩ hgrow4 hown4; have g6 : Zj w w4 := Yn (gw3.trans (Zd _ _)) hgrow4 (fun k hk => (hR3.row.lt k hk).1); have hsl := Qw hown4; obtain ⟨a4, c4, hv4⟩ := hsl; subst hv4; clear hgrow4 hown4 hR3 hnew gw3));go_roundw
    case rel => exact ⟨k + 1, _, by omega, by go_num, by rw [HT2.out]; exact hR6, g6⟩
    case measure => simp [intOf]; omega
  ·have HE : Hid (F = (l.take k).filter Pr) := by show F = _; rw [HF.out, List.take_of_length_le (by omega)]
   rw [← HE.out] at hR;obtain ⟨a0, c0, rfl⟩ := hR.form;go_wp2_with fail;go_ret;exact ⟨_, _, rfl, hR, hg⟩
end Go.Proofs.YtgaecpdokgklpadGreatDoor
namespace Go.Proofs.YtgaecpdokgklpadGreatDoor
set_option maxRecDepth 100000
open Plain
theorem Zbk (a : Ent) : ¬ Y3 a a = true := by simp [Y3]
theorem Zgf {a b : Ent} (h : Y3 a b = true) : ¬ Y3 b a = true := fun h2 => Zbk a (Jf h h2)
theorem Zsq : ∀ (a b : List Ent), a.Pairwise Ups → b.Pairwise Ups → (∀ x, x ∈ a ↔ x ∈ b) → a = b
 | [], [], _, _, _ => rfl
 | [], y :: b, _, _, h => absurd ((h y).2 (by simp)) (by simp)
 | x :: a, [], _, _, h => absurd ((h x).1 (by simp)) (by simp)
 | x :: a, y :: b, ha, hb, h => by
  obtain ⟨ha1, ha2⟩ := List.pairwise_cons.1 ha;obtain ⟨hb1, hb2⟩ := List.pairwise_cons.1 hb;have hxy : x = y := by
   rcases List.mem_cons.1 ((h x).1 (by simp)) with h1 | h1
   ·exact h1
   ·rcases List.mem_cons.1 ((h y).2 (by simp)) with h2 | h2
    ·exact h2.symm
    ·exact absurd (ha1 y h2).1 (Zgf (hb1 x h1).1)
  subst hxy;rw [Zsq a b ha2 hb2 fun z => ?_];constructor
  ·intro hz;rcases List.mem_cons.1 ((h z).1 (by simp [hz])) with rfl | h2
   ·exact absurd (ha1 z hz).1 (Zbk z)
   ·exact h2
  ·intro hz;rcases List.mem_cons.1 ((h z).2 (by simp [hz])) with rfl | h2
   ·exact absurd (hb1 z hz).1 (Zbk z)
   ·exact h2
def Zaa (ys : List Ent) : Prop := ys.Pairwise fun a b => a.pair ≠ b.pair
theorem Zd8 {ys : List Ent} (h : Zaa ys) {a b : Nat} {x y : Ent} (hab : a < b) (hx : ys[a]? = some x) (hy : ys[b]? = some y) : x.pair ≠ y.pair := by
 obtain ⟨h1, rfl⟩ := List.getElem?_eq_some_iff.1 hx;obtain ⟨h2, rfl⟩ := List.getElem?_eq_some_iff.1 hy;exact List.pairwise_iff_getElem.1 h a b h1 h2 hab
theorem Zj8 {xs ys : List Ent} (h : Zaa xs) (hp : ys.Perm xs) : Zaa ys := (hp.pairwise_iff (fun h e => h e.symm)).2 h
def Ord (i : Nat) (ys : List Ent) : Prop := ∀ a b x y, a < b → b < i → ys[a]? = some x → ys[b]? = some y → Ups x y
def Zot (i j : Nat) (ys : List Ent) : Prop := (∀ a b x y, a < b → b ≤ i → a ≠ j → b ≠ j → ys[a]? = some x → ys[b]? = some y → Ups x y) ∧ ∀ m x y, j < m → m ≤ i → ys[j]? = some x → ys[m]? = some y → Ups x y
theorem Zqu {i : Nat} {ys : List Ent} (h : Ord i ys) : Zot i i ys := ⟨fun a b x y h1 h2 h3 h4 hx hy => h a b x y h1 (by omega) hx hy, fun m x y h1 h2 => by omega⟩
def Zeu (ys : List Ent) (j : Nat) (x y : Ent) : List Ent := (ys.set (j + 1) x).set j y
theorem Zp1 {ys : List Ent} {j : Nat} {x y : Ent} (hx : ys[j]? = some x) (hy : ys[j + 1]? = some y) : (Zeu ys j x y).Perm ys := by
 obtain ⟨h1, rfl⟩ := List.getElem?_eq_some_iff.1 hx;obtain ⟨h2, rfl⟩ := List.getElem?_eq_some_iff.1 hy;exact List.set_set_perm h2 h1
theorem Ze8 {ys : List Ent} {j : Nat} {x y : Ent} (hl : j + 1 < ys.length) (a : Nat) : (Zeu ys j x y)[a]? = if a = j then some y else if a = j + 1 then some x else ys[a]? := by
 unfold Zeu;by_cases h1 : a = j
 ·subst h1;rw [if_pos rfl, List.getElem?_set_self (by simp; omega)]
 ·rw [if_neg h1, List.getElem?_set_ne (by omega)];by_cases h2 : a = j + 1
  ·subst h2;rw [if_pos rfl, List.getElem?_set_self hl]
  ·rw [if_neg h2, List.getElem?_set_ne (by omega)]
theorem Zua {i j : Nat} {ys : List Ent} {x y : Ent} (h : Zot i (j + 1) ys) (hx : ys[j]? = some x) (hy : ys[j + 1]? = some y) (hlt : Y3 y x = true) (hne : x.pair ≠ y.pair) (hi : j + 1 ≤ i) : Zot i j (Zeu ys j x y) := by
 have hl : j + 1 < ys.length := (List.getElem?_eq_some_iff.1 hy).1;refine ⟨fun a b u v h1 h2 h3 h4 hu hv => ?_, fun m u v h1 h2 hu hv => ?_⟩
 ·rw [Ze8 hl, if_neg h3] at hu;rw [Ze8 hl, if_neg h4] at hv;by_cases ha : a = j + 1
  ·rw [if_pos ha] at hu;rw [if_neg (by omega)] at hv;cases hu;exact h.1 j b _ v (by omega) h2 (by omega) (by omega) hx hv
  ·rw [if_neg ha] at hu;by_cases hb : b = j + 1
   ·rw [if_pos hb] at hv;cases hv;exact h.1 a j u _ (by omega) (by omega) (by omega) (by omega) hu hx
   ·rw [if_neg hb] at hv;exact h.1 a b u v h1 h2 ha hb hu hv
 ·rw [Ze8 hl, if_pos rfl] at hu;rw [Ze8 hl, if_neg (by omega)] at hv;cases hu;by_cases hm : m = j + 1
  ·rw [if_pos hm] at hv;cases hv;exact ⟨hlt, hne.symm⟩
  ·rw [if_neg hm] at hv;exact h.2 m _ v (by omega) h2 hy hv
theorem Zub {i : Nat} {ys : List Ent} (h : Zot i 0 ys) : Ord (i + 1) ys := fun a b x y h1 h2 hx hy => by
 by_cases ha : a = 0
 ·subst ha; exact h.2 b x y h1 (by omega) hx hy
 ·exact h.1 a b x y h1 (by omega) ha (by omega) hx hy
theorem Zwu {i j : Nat} {ys : List Ent} {x y : Ent} (h : Zot i (j + 1) ys) (hn : Zaa ys) (hx : ys[j]? = some x) (hy : ys[j + 1]? = some y) (hlt : ¬ Y3 y x = true) (hi : j + 1 ≤ i) : Ord (i + 1) ys := fun a b u v h1 h2 hu hv => by
 have hU : Y3 x y = true := Zcq hlt (Zd8 hn (Nat.lt_succ_self j) hx hy).symm;by_cases ha : a = j + 1
 ·subst ha; exact h.2 b u v h1 (by omega) hu hv
 ·by_cases hb : b = j + 1
  ·subst hb;refine ⟨?_, Zd8 hn h1 hu hv⟩;rw [hy] at hv; cases hv;by_cases haj : a = j
   ·subst haj; rw [hx] at hu; cases hu; exact hU
   ·exact Jf (h.1 a j u x (by omega) (by omega) ha (by omega) hu hx).1 hU
  ·exact h.1 a b u v h1 (by omega) ha hb hu hv
theorem Zwt {ys : List Ent} (h : Ord ys.length ys) : ys.Pairwise Ups := List.pairwise_iff_getElem.2 fun a b ha hb hab => h a b _ _ hab hb (List.getElem?_eq_getElem ha) (List.getElem?_eq_getElem hb)
def X0 (d : Dk) : Nat → List Ent
 | 0 => []
 | n + 1 => if (d.tell (n : Int)).kind = 1 then X0 d n else X0 d n ++ [⟨d.tell (n : Int), (n : Int)⟩]
theorem Zd9 (d : Dk) (x : Ent) : ∀ n, x ∈ X0 d n ↔ ∃ p : Nat, p < n ∧ (d.tell (p : Int)).kind ≠ 1 ∧ x = ⟨d.tell (p : Int), (p : Int)⟩
 | 0 => by simp [X0]
 | n + 1 => by
  have ih := Zd9 d x n;unfold X0;by_cases h : (d.tell (n : Int)).kind = 1
  ·rw [if_pos h, ih];constructor
   ·rintro ⟨p, h1, h2⟩; exact ⟨p, by omega, h2⟩
   ·rintro ⟨p, h1, h2, h3⟩;refine ⟨p, ?_, h2, h3⟩;rcases Nat.lt_succ_iff_lt_or_eq.1 h1 with h4 | rfl
    ·exact h4
    ·exact absurd h h2
  ·rw [if_neg h, List.mem_append, ih, List.mem_singleton];constructor
   ·rintro (⟨p, h1, h2⟩ | rfl)
    ·exact ⟨p, by omega, h2⟩
    ·exact ⟨n, by omega, h, rfl⟩
   ·rintro ⟨p, h1, h2, h3⟩;rcases Nat.lt_succ_iff_lt_or_eq.1 h1 with h4 | rfl
    ·exact .inl ⟨p, h4, h2, h3⟩
    ·exact .inr h3
theorem Zea (d : Dk) : ∀ n, (X0 d n).length ≤ n
 | 0 => by simp [X0]
 | n + 1 => by
  have ih := Zea d n;unfold X0;split
  ·omega
  ·simp; omega
theorem Zc3 (d : Dk) : ∀ n, Zaa (X0 d n)
 | 0 => by simp [X0, Zaa]
 | n + 1 => by
  have ih := Zc3 d n;unfold X0;split
  ·exact ih
  ·refine List.pairwise_append.2 ⟨ih, by simp, fun x hx y hy => ?_⟩;obtain ⟨p, h1, _, rfl⟩ := (Zd9 d x n).1 hx;rw [List.mem_singleton.1 hy];show (p : Int) ≠ (n : Int);omega
theorem Zmy (d : Dk) (n : Nat) (hn : n ≤ 1000) {ys : List Ent} (hp : ys.Perm (X0 d n)) (ho : ys.Pairwise Ups) : ys = Yf d n :=
 Zsq _ _ ho ((Y5 _).1 (Vh d n hn)).1 fun x => by rw [hp.mem_iff, Zd9, Qj]
theorem Zoo {e : Ent} : ∀ {l : List Ent}, (∀ x ∈ l, Y3 e x = true) → (l.filter fun x => Y3 x e) = [] ∧ (l.filter fun x => Y3 e x) = l := by
 intro l h;refine ⟨List.filter_eq_nil_iff.2 fun x hx => Zgf (h x hx), List.filter_eq_self.2 h⟩
theorem Zdi (e : Ent) : ∀ l : List Ent, l.Pairwise Ups → (∀ x ∈ l, x.pair ≠ e.pair) → (l.filter fun x => Y3 x e) ++ [e] ++ (l.filter fun x => Y3 e x) = Zbn e l
 | [], _, _ => by simp [Zbn]
 | x :: l, hp, hne => by
  obtain ⟨h1, h2⟩ := List.pairwise_cons.1 hp;unfold Zbn;by_cases h : Y3 e x = true
  ·rw [if_pos h];obtain ⟨k1, k2⟩ := Zoo (e := e) (l := x :: l) fun y hy => by
    rcases List.mem_cons.1 hy with rfl | hy
    ·exact h
    ·exact Jf h (h1 y hy).1
   rw [k1, k2]; rfl
  ·have f1 : (x :: l).filter (fun x => Y3 x e) = x :: l.filter (fun x => Y3 x e) := List.filter_cons_of_pos (Zcq h fun e' => hne x (by simp) e'.symm);have f2 : (x :: l).filter (fun x => Y3 e x) = l.filter (fun x => Y3 e x) := List.filter_cons_of_neg h;rw [if_neg h, f1, f2, ← Zdi e l h2 fun y hy => hne y (by simp [hy])];rfl
theorem Zro {l : List Ent} {key ver : Int} {k : Nat} (hk : k < l.length) (h0 : ∀ x ∈ l.take k, ¬ (x.rc.key = key ∧ x.rc.ver = ver)) (h1 : l[k].rc.key = key ∧ l[k].rc.ver = ver) : Za1 l key ver = some l[k] := by
 unfold Za1;have e : l = l.take k ++ l[k] :: l.drop (k + 1) := by
  rw [← List.drop_eq_getElem_cons hk, List.take_append_drop]
 have h2 : (l.take k).find? (fun x => decide (x.rc.key = key ∧ x.rc.ver = ver)) = none := List.find?_eq_none.2 fun x hx => by simpa using h0 x hx
 conv => lhs; rw [e]
 rw [List.find?_append, h2, Option.none_or, List.find?_cons_of_pos (by simpa using h1)]
theorem Zcf {l : List Ent} {k : Nat} (hk : k < l.length) {x : Ent} (h : x ∈ l.take (k + 1)) : x ∈ l.take k ∨ x = l[k] := by
 rw [List.take_succ_eq_append_getElem hk] at h;rcases List.mem_append.1 h with h | h
 ·exact .inl h
 ·exact .inr (List.mem_singleton.1 h)
theorem Zkx : ∀ (n : Nat) (l : List Nat), (∀ m, m < n → m ∈ l) → n ≤ l.length
 | 0, _, _ => Nat.zero_le _
 | n + 1, l, h => by
  have h1 := Zkx n (l.erase n) fun m hm => (List.mem_erase_of_ne (by omega)).2 (h m (by omega))
  have h2 := List.length_erase_of_mem (h n (by omega));have h3 := List.length_pos_of_mem (h n (by omega));omega
theorem Zuo {l : List Ent} {f : Nat} (h0 : ∀ n : Nat, n < f → ∃ x ∈ l, x.pair = (n : Int)) (h1 : f = l.length ∨ ∀ x ∈ l, x.pair ≠ (f : Int)) : Zap l f := by
 refine ⟨h0, ?_⟩;rcases h1 with rfl | h1
 ·intro x hx hp;have := Zkx (l.length + 1) (l.map fun x => x.pair.toNat) fun m hm => by
   rcases Nat.lt_succ_iff_lt_or_eq.1 hm with h2 | rfl
   ·obtain ⟨y, hy, hyp⟩ := h0 m h2;exact List.mem_map.2 ⟨y, hy, by rw [hyp]; rfl⟩
   ·exact List.mem_map.2 ⟨x, hx, by rw [hp]; rfl⟩
  rw [List.length_map] at this;omega
 ·exact h1
end Go.Proofs.YtgaecpdokgklpadGreatDoor
