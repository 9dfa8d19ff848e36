import Derived.Test.YtgaecpdokgklpadGreatDoorIdxO
set_option maxHeartbeats 8000000
namespace Go.Proofs.YtgaecpdokgklpadGreatDoor
set_option maxRecDepth 100000
open Go.RowKit
open Plain Reg
theorem Zgd {w : World} {g : Nat} {T : TypeId} {f} {c0 c1 c2 c3 c4 : Value} (h : w.heap[g]? = some (.cells #[c0, c1, c2, c3, c4] T f)) (x0 x1 x2 x3 x4 : Value) :
  (((((w.setCell ⟨g, 0, none⟩ x0).setCell ⟨g, 1, none⟩ x1).setCell ⟨g, 2, none⟩ x2).setCell ⟨g, 3, none⟩ x3).setCell ⟨g, 4, none⟩ x4).heap[g]? = some (.cells #[x0, x1, x2, x3, x4] T f) ∧ Zp g w (((((w.setCell ⟨g, 0, none⟩ x0).setCell ⟨g, 1, none⟩ x1).setCell ⟨g, 2, none⟩ x2).setCell ⟨g, 3, none⟩ x3).setCell ⟨g, 4, none⟩ x4) := by
 refine ⟨?_, (((((Zp.refl g w).set _ _ _).set _ _ _).set _ _ _).set _ _ _).set _ _ _⟩;have h1 := heap_set (heap_set (heap_set (heap_set (heap_set h 0 x0) 1 x1) 2 x2) 3 x3) 4 x4;simpa using h1
def Zh3 (B : Nat) (r : Rec) (v : Value) (w : World) : Prop := ∃ a c, v = .agg #[.int .i64 r.kind, .int .i64 r.key, .int .i64 r.ver, .slice a r.data.length c] ∧ w.ownsRow B 5 1 (.slice a r.data.length c) r.data.length (r.data.map bv)
theorem Zry (B : Nat) (r : Rec) : Xy (Zh3 B r) := by
 rintro v w w' hg ⟨a, c, h1, h2⟩; exact ⟨a, c, h1, Z5 h2 hg⟩
theorem Zr5 {B : Nat} {r : Rec} {v : Value} {w w' : World} (hs : Yu 61 w w') (h : Zh3 B r v w) : Zh3 B r v w' := by
 obtain ⟨a, c, h1, h2⟩ := h; exact ⟨a, c, h1, Vi (by decide) hs h2⟩
def Zns (B : Nat) (x : Ent) (v : Value) (w : World) : Prop := ∃ a c, v = .agg #[.int .i64 x.rc.kind, .int .i64 x.rc.key, .int .i64 x.rc.ver, .slice a x.rc.data.length c, .int .i64 x.pair] ∧ w.ownsRow B 5 1 (.slice a x.rc.data.length c) x.rc.data.length (x.rc.data.map bv)
theorem Zu3 (B : Nat) (x : Ent) : Xy (Zns B x) := by
 rintro v w w' hg ⟨a, c, h1, h2⟩; exact ⟨a, c, h1, Z5 h2 hg⟩
theorem Zu9 {B : Nat} {x : Ent} {v : Value} {w w' : World} (hs : Yu 61 w w') (h : Zns B x v w) : Zns B x v w' := by
 obtain ⟨a, c, h1, h2⟩ := h; exact ⟨a, c, h1, Vi (by decide) hs h2⟩
def Zup (B g : Nat) (x : Ent) (w : World) : Prop := ∃ a c, w.heap[g]? = some (.cells #[.int .i64 x.rc.kind, .int .i64 x.rc.key, .int .i64 x.rc.ver, .slice a x.rc.data.length c, .int .i64 x.pair] 61 (0, 0)) ∧ w.ownsRow B 5 1 (.slice a x.rc.data.length c) x.rc.data.length (x.rc.data.map bv)
theorem Zr0 (B g : Nat) (x : Ent) : Xy (fun _ w => Zup B g x w) := by
 rintro v w w' hg ⟨a, c, h1, h2⟩; exact ⟨a, c, (hg.block _ (Zb h1)).trans h1, Z5 h2 hg⟩
theorem Zfz (x : Ent) (a0 : Option Addr) (c0 : Nat) (w : World) (hm : x.rc.data.length ≤ 140737488355328) (hb : Bytes w (.slice a0 x.rc.data.length c0) x.rc.data) :
  Calls Tryz.prog 107 #[.agg #[.int .i64 x.rc.kind, .int .i64 x.rc.key, .int .i64 x.rc.ver, .slice a0 x.rc.data.length c0, .int .i64 x.pair]] w fun e w' => ∃ v, e = .returned v ∧ Zns w.heap.size x v w' ∧ Zj w w' := by
 have g0 := Zx w (.cells #[.int .i64 x.rc.kind, .int .i64 x.rc.key, .int .i64 x.rc.ver, .slice a0 x.rc.data.length c0, .int .i64 x.pair] 61) (.cells #[.int .i64 0, .int .i64 0, .int .i64 0, .slice none 0 0, .int .i64 0] 61);have hx0 := Zk w #[.int .i64 x.rc.kind, .int .i64 x.rc.key, .int .i64 x.rc.ver, .slice a0 x.rc.data.length c0, .int .i64 x.pair] 61;have hy0 := Zk (w.alloc (.cells #[.int .i64 x.rc.kind, .int .i64 x.rc.key, .int .i64 x.rc.ver, .slice a0 x.rc.data.length c0, .int .i64 x.pair] 61)) #[.int .i64 0, .int .i64 0, .int .i64 0, .slice none 0 0, .int .i64 0] 61;have hx1 := ((Zd (w.alloc (.cells #[.int .i64 x.rc.kind, .int .i64 x.rc.key, .int .i64 x.rc.ver, .slice a0 x.rc.data.length c0, .int .i64 x.pair] 61)) (.cells #[.int .i64 0, .int .i64 0, .int .i64 0, .slice none 0 0, .int .i64 0] 61)).block _ (Zb hx0)).trans hx0;rw [World.size_alloc] at hy0;clear hx0;go_enter Tryz.func107, Tryz.ntmps107;go_wp2_with fail;generalize World.alloc (World.alloc w _) _ = W at *
 refine Y5 [px (.pointer (some ⟨w.heap.size, 0, none⟩)), px (.agg #[.int .i64 x.rc.kind, .int .i64 x.rc.key, .int .i64 x.rc.ver, .slice a0 x.rc.data.length c0]), pl ((Zh3 (w.heap.size + 2) x.rc)), px (.pointer (some ⟨w.heap.size, 4, none⟩)), px (.int .i64 x.pair), pl ((Zns (w.heap.size + 2) x)), pl ((fun _ w' => Zup (w.heap.size + 2) (w.heap.size + 1) x w'))] [none, none, none, none, none, none, some ((Yu 61))] (fun dn w' => Zj w w' ∧ w.heap.size + 2 ≤ w'.heap.size ∧ w'.heap[w.heap.size]? = some (.cells #[.int .i64 x.rc.kind, .int .i64 x.rc.key, .int .i64 x.rc.ver, .slice a0 x.rc.data.length c0, .int .i64 x.pair] 61 (0, 0)) ∧ (dn 6 = false → w'.heap[w.heap.size + 1]? = some (.cells #[.int .i64 0, .int .i64 0, .int .i64 0, .slice none 0 0, .int .i64 0] 61 (0, 0)))) (by kernel_rfl) (by kernel_rfl) ⟨se, se, Yn (Zry _ _), se, se, Yn (Zu3 _ _), Yn (Zr0 _ _ _), trivial⟩ ⟨⟨(fun w => .inl rfl), ⟨x5, x5, .inr ((fun v _ w1 w' hs hq => Zr5 hs hq)), x5, x5, .inr ((fun v _ w1 w' hs hq => Zu9 hs hq)), .inl (by kernel_rfl), trivial⟩⟩, trivial⟩ ⟨n5, n5, n5, n5, n5, n5, fun _ _ _ _ h => h, trivial⟩ ⟨g0.drew, Zb hy0, hx1, fun _ => hy0⟩ ?_ ?_
 ·refine ⟨?_, ?_, ?_, ?_, ?_, ?_, ?_, trivial⟩
  ·refine Ze rfl fun a w' ek ef dn hr hg hin => ?_;have e1 : a (.tmp 1) = .pointer (some ⟨w.heap.size, 0, none⟩) := Zt hin 1 rfl;refine Zr ?_ hg rfl;clear hin hg;go_simp;all_goals go_arith
  ·refine Ze rfl fun a w' ek ef dn hr hg hin => ?_;have e3 : a (.tmp 3) = _ := Zg hin 0 rfl;have z0 := Zh hg.2.2.1 0 _ rfl;have z1 := Zh hg.2.2.1 1 _ rfl;have z2 := Zh hg.2.2.1 2 _ rfl;have z3 := Zh hg.2.2.1 3 _ rfl;refine Zr ?_ hg rfl;clear hin hg hr;go_simp;all_goals go_arith
  ·refine Ze rfl fun a w' ek ef dn hr hg hin => ?_;have e4 : a (.tmp 4) = _ := Zg hin 1 rfl;refine Yf (f := 15) (args := #[.agg #[.int .i64 x.rc.kind, .int .i64 x.rc.key, .int .i64 x.rc.ver, .slice a0 x.rc.data.length c0]]) ?_ ((Zcy x.rc.kind x.rc.key x.rc.ver x.rc.data _ w' hm (Z0 hb hg.1)).mono ?_)
   ·clear hin hg hr;go_simp;all_goals go_arith
   ·rintro e w2 ⟨v', rfl, ho, g2⟩;obtain ⟨a9, c9, rfl⟩ := Ye ho;exact ⟨_, rfl, g2, ⟨hg.1.trans g2, Nat.le_trans hg.2.1 g2.size, (g2.block _ (Zb hg.2.2.1)).trans hg.2.2.1, fun h => (g2.block _ (Zb (hg.2.2.2 h))).trans (hg.2.2.2 h)⟩, a9, c9, rfl, Yi ho hg.2.1⟩
  ·refine Ze rfl fun a w' ek ef dn hr hg hin => ?_;have e1 : a (.tmp 1) = .pointer (some ⟨w.heap.size, 0, none⟩) := Zt hin 1 rfl;refine Zr ?_ hg rfl;clear hin hg;go_simp;all_goals go_arith
  ·refine Ze rfl fun a w' ek ef dn hr hg hin => ?_;have e6 : a (.tmp 6) = _ := Zg hin 3 rfl;have z4 := Zh hg.2.2.1 4 _ rfl;refine Zr ?_ hg rfl;clear hin hg hr;go_simp;all_goals go_arith
  ·refine Ze rfl fun a w' ek ef dn hr hg hin => ?_;have e5 : ((Zh3 (w.heap.size + 2) x.rc)) (a (.tmp 5)) w' := Zg hin 2 rfl;have e7 : a (.tmp 7) = _ := Zg hin 4 rfl;obtain ⟨a9, c9, h5, ho⟩ := e5;refine Zr (v := .agg #[.int .i64 x.rc.kind, .int .i64 x.rc.key, .int .i64 x.rc.ver, .slice a9 x.rc.data.length c9, .int .i64 x.pair]) ?_ hg ⟨a9, c9, rfl, ho⟩;clear hin hg hr ho;go_simp;all_goals go_arith
  ·refine Ze rfl fun a w' ek ef dn hr hg hin => ?_;have e2 : a (.tmp 2) = .pointer (some ⟨w.heap.size + 1, 0, none⟩) := Zt hin 2 rfl;have e8 : ((Zns (w.heap.size + 2) x)) (a (.tmp 8)) w' := Zg hin 5 rfl;obtain ⟨a9, c9, h8, ho⟩ := e8;have hh := hg.2.2.2 hr.un;obtain ⟨hp1, hp2⟩ := Zgd hh (.int .i64 x.rc.kind) (.int .i64 x.rc.key) (.int .i64 x.rc.ver) (.slice a9 x.rc.data.length c9) (.int .i64 x.pair);have hstep : Yu 61 w' _ := .inr ⟨_, _, _, hp2, hh, hp1, rfl⟩;obtain ⟨y0, y1, y2, y3, y4⟩ := Kl hh rfl rfl rfl rfl rfl;obtain ⟨f0, f1, f2, f3⟩ := Yw hh;have f4 := Zu hh 4;have cs := Zv;refine Y7 (w' := _) ?_ hstep ⟨hp2.grow hg.1 (by omega), Nat.le_trans hg.2.1 hp2.size, (hp2.block _ (Zb hg.2.2.1) (by omega)).trans hg.2.2.1, fun h => by simp [upd] at h⟩ ⟨a9, c9, hp1, Vi (by decide) hstep ho⟩;clear hin hg hr hp1 hp2 hh ho hstep;go_simp;all_goals go_arith
 ·intro vs w' dn hdn hg ht;obtain ⟨q3, q4, q5, q6, q7, q8, qo6, -⟩ := ht;have r3 : vs 0 = .pointer (some ⟨w.heap.size, 0, none⟩) := q3;have r4 : vs 1 = .agg #[.int .i64 x.rc.kind, .int .i64 x.rc.key, .int .i64 x.rc.ver, .slice a0 x.rc.data.length c0] := q4;replace q5 : ((Zh3 (w.heap.size + 2) x.rc)) (vs 2) w' := q5;have r6 : vs 3 = .pointer (some ⟨w.heap.size, 4, none⟩) := q6;have r7 : vs 4 = .int .i64 x.pair := q7;replace q8 : ((Zns (w.heap.size + 2) x)) (vs 5) w' := q8;replace qo6 : ((fun _ w' => Zup (w.heap.size + 2) (w.heap.size + 1) x w')) (vs 6) w' := qo6;clear q3 q4 q6 q7;simp only [Z9, Act.put, List.setIfInBounds_toArray, List.set_cons_zero, List.set_cons_succ, Nat.reduceAdd, r3, r4, r6, r7];clear r3 r4 r6 r7;obtain ⟨a9, c9, hp, ho⟩ := qo6;obtain ⟨y0, y1, y2, y3, y4⟩ := Kl hp rfl rfl rfl rfl rfl;have gE := hg.1;have hoE := Yi ho (base' := w.heap.size) (by omega);clear q5 q8 hdn hg hp ho hx1 hy0 g0;go_wp2_with fail;exact bodyPost_ret (v := .agg #[.int .i64 x.rc.kind, .int .i64 x.rc.key, .int .i64 x.rc.ver, .slice a9 x.rc.data.length c9, .int .i64 x.pair]) (by simp [results, Tryz.results107, go_sem, y0, y1, y2, y3, y4]) rfl ⟨_, rfl, ⟨a9, c9, rfl, hoE⟩, gE⟩
theorem Zk3 (Pr : Ent → Bool) {l : List Ent} {k : Nat} (h : k < l.length) : (l.take (k + 1)).filter Pr = (l.take k).filter Pr ++ (if Pr l[k] = true then [l[k]] else []) := by
 rw [List.take_succ_eq_append_getElem h, List.filter_append]
 congr 1
 by_cases hp : Pr l[k] = true
 ·rw [if_pos hp, List.filter_cons_of_pos hp]; rfl
 ·rw [if_neg hp, List.filter_cons_of_neg hp]; rfl
theorem Yo.made {α : Type} {sh : Xz α} {S0 : Nat → Prop} {B : Nat} {v : Value} {w : World} (h : w.ownsRow B sh.T sh.size v 0 []) : Yo sh S0 B v [] [] w := ⟨rfl, fun i hi => by simp at hi, h⟩
abbrev NoS : Nat → Prop := fun _ => False
theorem Zai (K : Nat) (caps : Array Value) (Pr : Ent → Bool) (S : Nat → Prop) (l : List Ent) (v : Value) (w : World) (hK : ∀ (args : Array Value) (w : World), (callFunc K args).run Tryz.prog w = .ok (.enter K args) w) (hl : Yp S w v l) (hn : l.length ≤ 1000000) (h8 : ∀ x ∈ l, x.rc.data.length ≤ 8)
  (hc : ∀ (x : Ent) (a : Option Addr) (c : Nat) (w' : World), x ∈ l → Zj w w' → Calls Tryz.prog K (#[.agg #[.int .i64 x.rc.kind, .int .i64 x.rc.key, .int .i64 x.rc.ver, .slice a x.rc.data.length c, .int .i64 x.pair]] ++ caps) w' fun e w2 => e = .returned (.bool (Pr x)) ∧ Zj w' w2) :
  Calls Tryz.prog 66 #[v, .func (.func K) #[] caps] w fun e w' => ∃ v' css, e = .returned v' ∧ Yo Ys NoS w.heap.size v' (l.filter Pr) css w' ∧ Zj w w' := by
 obtain ⟨i0, hif, hz0, hz1, hz2⟩ := info_parts Zc7;obtain ⟨ao, cp, rfl⟩ := hl.form;obtain ⟨F, hF⟩ : ∃ F, F = l.filter Pr := ⟨_, rfl⟩;rw [← hF];have HF : Hid _ := hF;clear hF;go_enter Tryz.func66, Tryz.ntmps66;go_wp2_with (at_make; refine wpList_make_own _ rfl _ _ 28 rfl w.heap.size 61 i0 (.agg #[.int .i64 0, .int .i64 0, .int .i64 0, .slice none 0 0, .int .i64 0]) 5 Tryz.underlying28 hif hz0 hz1 .i64 .i64 _ l.length rfl rfl rfl (by rw [hz2]; omega) (by unfold maxLen; omega) (Nat.le_refl _) ?_; intro w1 hown1 hgrow1);have hR0 : Yo Ys NoS w.heap.size (.slice (some ⟨w.heap.size, 0, none⟩) 0 l.length) [] [] w1 := Yo.made hown1;have g0 : Zj w w1 := Yl (Zj.refl _) hgrow1 (fun k e => by cases e);clear hown1 hgrow1;go_loopw [5, 13] (fun o i wr => ∃ (k : Nat) (css : List (List Value)), k ≤ l.length ∧ i = .int .i64 k ∧ Yo Ys NoS w.heap.size o ((l.take k).filter Pr) css wr ∧ Zj w wr) (fun _ i _ => l.length - (intOf i).toNat)
 case atStart => exact ⟨0, [], Nat.zero_le _, rfl, hR0, g0⟩
 case round =>
  clear hR0 g0;obtain ⟨k, css, hk, rfl, hR, hg⟩ := hrel;by_cases hlt : k < l.length
  ·obtain ⟨b, off, a1, c1, hv1, q0, q1, q2, q3, q4, hu⟩ := Zbr (hl.grow hg) k hlt;cases hv1;have HT : Hid ((l.take (k + 1)).filter Pr = (l.take k).filter Pr ++ (if Pr l[k] = true then [l[k]] else [])) := Zk3 Pr hlt;have hxl : ((l.take k).filter Pr).length ≤ 1000000 := Nat.le_trans (List.length_filter_le _ _) (by rw [List.length_take]; omega);have HM : Hid (l[k] ∈ l) := List.getElem_mem hlt;have HB : Hid (l[k].rc.data.length ≤ 8) := h8 _ (List.getElem_mem hlt);generalize l[k] = x at *;generalize (l.take k).filter Pr = xs at *;obtain ⟨a0, c0, rfl⟩ := hR.form;have g1 := Zd wr (.cells #[.int .i64 x.rc.kind, .int .i64 x.rc.key, .int .i64 x.rc.ver, .slice a1 x.rc.data.length c1, .int .i64 x.pair] 61);have hX1 := Zk wr #[.int .i64 x.rc.kind, .int .i64 x.rc.key, .int .i64 x.rc.ver, .slice a1 x.rc.data.length c1, .int .i64 x.pair] 61;have hR1 := hR.grow g1;have hu1 := hu.grow g1;have gw1 := hg.trans g1;clear hR hu hg g1;obtain ⟨x0, x1, x2, x3, x4⟩ := Kl hX1 rfl rfl rfl rfl rfl;go_wp2_with fail;refine (hc x a1 c1 _ HM.out gw1).mono ?_;rintro e w2 ⟨rfl, g2⟩;have hR2 := hR1.grow g2;have hu2 := hu1.grow g2;have hX2 := (g2.block _ (Zb hX1)).trans hX1;have gw2 := gw1.trans g2;clear hR1 hu1 hX1 gw1 g2 x0 x1 x2 x3 x4 q0 q1 q2 q3 q4;generalize wr.heap.size = gx at *;obtain ⟨P, hP⟩ : ∃ P, P = Pr x := ⟨_, rfl⟩;rw [← hP];have HP : Hid _ := hP;clear hP;obtain ⟨x0, x1, x2, x3, x4⟩ := Kl hX2 rfl rfl rfl rfl rfl;cases P with
   | false =>
    have HT2 : Hid ((l.take (k + 1)).filter Pr = xs) := by show _ = _; rw [HT.out, ← HP.out]; simp
    clear HT HP hX2 hu2;go_wp2_with fail;go_roundw
    case rel => exact ⟨k + 1, _, by omega, by go_num, by rw [HT2.out]; exact hR2, gw2⟩
    case measure => simp [intOf]; omega
   | true =>
    have HT2 : Hid ((l.take (k + 1)).filter Pr = xs ++ [x]) := by show _ = _; rw [HT.out, ← HP.out]; simp
    clear HT HP;go_wp2_with fail;refine (Zfz x a1 c1 _ (by have := HB.out; omega) hu2.p).mono ?_;rintro e w3 ⟨v3, rfl, ⟨a3, c3, rfl, ho3⟩, g3⟩;have hR3 := hR2.grow g3;have gw3 := gw2.trans g3;have HO3 : Hid (w3.ownsRow w.heap.size 5 1 (.slice a3 x.rc.data.length c3) x.rc.data.length (x.rc.data.map bv)) := Yi ho3 gw2.size;have HSZ : Hid (w.heap.size ≤ w3.heap.size) := gw3.size;have hnew : ∀ (j : Nat) u, ([.int .i64 x.rc.kind, .int .i64 x.rc.key, .int .i64 x.rc.ver, .slice a3 x.rc.data.length c3, .int .i64 x.pair] : List Value)[j]? = some u → (w3.alloc (.cells #[.int .i64 x.rc.kind, .int .i64 x.rc.key, .int .i64 x.rc.ver, .slice a3 x.rc.data.length c3, .int .i64 x.pair] 61)).cell? ((⟨w3.heap.size, 0, none⟩ : Addr).add j) = some u := fun j u hj => Zhc w3 _ _ _ _ _ 61 j u hj
    clear hR2 hu2 hX2 gw2 g3 ho3 x0 x1 x2 x3 x4;go_wp2_with (first | (at_builtin; refine wpList_append_own _ rfl (.tmp 20) (.tmp 23) 28 rfl (w.heap.size) 61 i0 (.agg #[.int .i64 0, .int .i64 0, .int .i64 0, .slice none 0 0, .int .i64 0]) 5 56 Tryz.underlying28 hif hz0 hz1 hz2 rfl (by decide) (.slice a0 xs.length c0) _ _ rfl (hR3.row.alloc _) ⟨w3.heap.size, 0, none⟩ 1 1 [.int .i64 x.rc.kind, .int .i64 x.rc.key, .int .i64 x.rc.ver, .slice a3 x.rc.data.length c3, .int .i64 x.pair] rfl rfl hnew (by intro u hu; simp at hu; rcases hu with rfl | rfl | rfl | rfl | rfl <;> rfl) (by unfold maxLen; omega) (by omega) (by have := HSZ.out; simp; omega) ?_; intro v4 w4 hown4 hgrow4 _; have hR6 := hR3.step (x := x) (by decide) (fun b h => h.elim) ⟨_, rfl, Zfj _ (Nat.le_refl _) HO3.out⟩ hgrow4 hown4; have g6 : Zj w w4 := Yl (gw3.trans (Zd _ _)) hgrow4 (fun k hk => (hR3.row.lt k hk).1); have hsl := Qo hown4; obtain ⟨a4, c4, hv4⟩ := hsl; subst hv4; clear hgrow4 hown4 hR3 hnew gw3));go_roundw
    case rel => exact ⟨k + 1, _, by omega, by go_num, by rw [HT2.out]; exact hR6, g6⟩
    case measure => simp [intOf]; omega
  ·have HE : Hid (F = (l.take k).filter Pr) := by show F = _; rw [HF.out, List.take_of_length_le (by omega)]
   rw [← HE.out] at hR;obtain ⟨a0, c0, rfl⟩ := hR.form;go_wp2_with fail;go_ret;exact ⟨_, _, rfl, hR, hg⟩
end Go.Proofs.YtgaecpdokgklpadGreatDoor
namespace Go.Proofs.YtgaecpdokgklpadGreatDoor
set_option maxRecDepth 100000
open Plain
theorem Za1 (a : Ent) : ¬ Yv a a = true := by simp [Yv]
theorem Zfu {a b : Ent} (h : Yv a b = true) : ¬ Yv b a = true := fun h2 => Za1 a (Kx h h2)
theorem Zrq : ∀ (a b : List Ent), a.Pairwise Ups → b.Pairwise Ups → (∀ x, x ∈ a ↔ x ∈ b) → a = b
 | [], [], _, _, _ => rfl
 | [], y :: b, _, _, h => absurd ((h y).2 (by simp)) (by simp)
 | x :: a, [], _, _, h => absurd ((h x).1 (by simp)) (by simp)
 | x :: a, y :: b, ha, hb, h => by
  obtain ⟨ha1, ha2⟩ := List.pairwise_cons.1 ha;obtain ⟨hb1, hb2⟩ := List.pairwise_cons.1 hb;have hxy : x = y := by
   rcases List.mem_cons.1 ((h x).1 (by simp)) with h1 | h1
   ·exact h1
   ·rcases List.mem_cons.1 ((h y).2 (by simp)) with h2 | h2
    ·exact h2.symm
    ·exact absurd (ha1 y h2).1 (Zfu (hb1 x h1).1)
  subst hxy;rw [Zrq a b ha2 hb2 fun z => ?_];constructor
  ·intro hz;rcases List.mem_cons.1 ((h z).1 (by simp [hz])) with rfl | h2
   ·exact absurd (ha1 z hz).1 (Za1 z)
   ·exact h2
  ·intro hz;rcases List.mem_cons.1 ((h z).2 (by simp [hz])) with rfl | h2
   ·exact absurd (hb1 z hz).1 (Za1 z)
   ·exact h2
def Js (ys : List Ent) : Prop := ys.Pairwise fun a b => a.pair ≠ b.pair
theorem Zdr {ys : List Ent} (h : Js ys) {a b : Nat} {x y : Ent} (hab : a < b) (hx : ys[a]? = some x) (hy : ys[b]? = some y) : x.pair ≠ y.pair := by
 obtain ⟨h1, rfl⟩ := List.getElem?_eq_some_iff.1 hx;obtain ⟨h2, rfl⟩ := List.getElem?_eq_some_iff.1 hy;exact List.pairwise_iff_getElem.1 h a b h1 h2 hab
theorem Zje {xs ys : List Ent} (h : Js xs) (hp : ys.Perm xs) : Js ys := (hp.pairwise_iff (fun h e => h e.symm)).2 h
def Ord (i : Nat) (ys : List Ent) : Prop := ∀ a b x y, a < b → b < i → ys[a]? = some x → ys[b]? = some y → Ups x y
def Znt (i j : Nat) (ys : List Ent) : Prop := (∀ a b x y, a < b → b ≤ i → a ≠ j → b ≠ j → ys[a]? = some x → ys[b]? = some y → Ups x y) ∧ ∀ m x y, j < m → m ≤ i → ys[j]? = some x → ys[m]? = some y → Ups x y
theorem Zpv {i : Nat} {ys : List Ent} (h : Ord i ys) : Znt i i ys := ⟨fun a b x y h1 h2 h3 h4 hx hy => h a b x y h1 (by omega) hx hy, fun m x y h1 h2 => by omega⟩
def Zea (ys : List Ent) (j : Nat) (x y : Ent) : List Ent := (ys.set (j + 1) x).set j y
theorem Zo2 {ys : List Ent} {j : Nat} {x y : Ent} (hx : ys[j]? = some x) (hy : ys[j + 1]? = some y) : (Zea ys j x y).Perm ys := by
 obtain ⟨h1, rfl⟩ := List.getElem?_eq_some_iff.1 hx;obtain ⟨h2, rfl⟩ := List.getElem?_eq_some_iff.1 hy;exact List.set_set_perm h2 h1
theorem Zen {ys : List Ent} {j : Nat} {x y : Ent} (hl : j + 1 < ys.length) (a : Nat) : (Zea ys j x y)[a]? = if a = j then some y else if a = j + 1 then some x else ys[a]? := by
 unfold Zea;by_cases h1 : a = j
 ·subst h1;rw [if_pos rfl, List.getElem?_set_self (by simp; omega)]
 ·rw [if_neg h1, List.getElem?_set_ne (by omega)];by_cases h2 : a = j + 1
  ·subst h2;rw [if_pos rfl, List.getElem?_set_self hl]
  ·rw [if_neg h2, List.getElem?_set_ne (by omega)]
theorem Zs7 {i j : Nat} {ys : List Ent} {x y : Ent} (h : Znt i (j + 1) ys) (hx : ys[j]? = some x) (hy : ys[j + 1]? = some y) (hlt : Yv y x = true) (hne : x.pair ≠ y.pair) (hi : j + 1 ≤ i) : Znt i j (Zea ys j x y) := by
 have hl : j + 1 < ys.length := (List.getElem?_eq_some_iff.1 hy).1;refine ⟨fun a b u v h1 h2 h3 h4 hu hv => ?_, fun m u v h1 h2 hu hv => ?_⟩
 ·rw [Zen hl, if_neg h3] at hu;rw [Zen hl, if_neg h4] at hv;by_cases ha : a = j + 1
  ·rw [if_pos ha] at hu;rw [if_neg (by omega)] at hv;cases hu;exact h.1 j b _ v (by omega) h2 (by omega) (by omega) hx hv
  ·rw [if_neg ha] at hu;by_cases hb : b = j + 1
   ·rw [if_pos hb] at hv;cases hv;exact h.1 a j u _ (by omega) (by omega) (by omega) (by omega) hu hx
   ·rw [if_neg hb] at hv;exact h.1 a b u v h1 h2 ha hb hu hv
 ·rw [Zen hl, if_pos rfl] at hu;rw [Zen hl, if_neg (by omega)] at hv;cases hu;by_cases hm : m = j + 1
  ·rw [if_pos hm] at hv;cases hv;exact ⟨hlt, hne.symm⟩
  ·rw [if_neg hm] at hv;exact h.2 m _ v (by omega) h2 hy hv
theorem Zs8 {i : Nat} {ys : List Ent} (h : Znt i 0 ys) : Ord (i + 1) ys := fun a b x y h1 h2 hx hy => by
 by_cases ha : a = 0
 ·subst ha; exact h.2 b x y h1 (by omega) hx hy
 ·exact h.1 a b x y h1 (by omega) ha (by omega) hx hy
theorem Zvn {i j : Nat} {ys : List Ent} {x y : Ent} (h : Znt i (j + 1) ys) (hn : Js ys) (hx : ys[j]? = some x) (hy : ys[j + 1]? = some y) (hlt : ¬ Yv y x = true) (hi : j + 1 ≤ i) : Ord (i + 1) ys := fun a b u v h1 h2 hu hv => by
 have hU : Yv x y = true := Zce hlt (Zdr hn (Nat.lt_succ_self j) hx hy).symm;by_cases ha : a = j + 1
 ·subst ha; exact h.2 b u v h1 (by omega) hu hv
 ·by_cases hb : b = j + 1
  ·subst hb;refine ⟨?_, Zdr hn h1 hu hv⟩;rw [hy] at hv; cases hv;by_cases haj : a = j
   ·subst haj; rw [hx] at hu; cases hu; exact hU
   ·exact Kx (h.1 a j u x (by omega) (by omega) ha (by omega) hu hx).1 hU
  ·exact h.1 a b u v h1 (by omega) ha hb hu hv
theorem Zvm {ys : List Ent} (h : Ord ys.length ys) : ys.Pairwise Ups := List.pairwise_iff_getElem.2 fun a b ha hb hab => h a b _ _ hab hb (List.getElem?_eq_getElem ha) (List.getElem?_eq_getElem hb)
def Xu (d : Dk) : Nat → List Ent
 | 0 => []
 | n + 1 => if (d.tell (n : Int)).kind = 1 then Xu d n else Xu d n ++ [⟨d.tell (n : Int), (n : Int)⟩]
theorem Zds (d : Dk) (x : Ent) : ∀ n, x ∈ Xu d n ↔ ∃ p : Nat, p < n ∧ (d.tell (p : Int)).kind ≠ 1 ∧ x = ⟨d.tell (p : Int), (p : Int)⟩
 | 0 => by simp [Xu]
 | n + 1 => by
  have ih := Zds d x n;unfold Xu;by_cases h : (d.tell (n : Int)).kind = 1
  ·rw [if_pos h, ih];constructor
   ·rintro ⟨p, h1, h2⟩; exact ⟨p, by omega, h2⟩
   ·rintro ⟨p, h1, h2, h3⟩;refine ⟨p, ?_, h2, h3⟩;rcases Nat.lt_succ_iff_lt_or_eq.1 h1 with h4 | rfl
    ·exact h4
    ·exact absurd h h2
  ·rw [if_neg h, List.mem_append, ih, List.mem_singleton];constructor
   ·rintro (⟨p, h1, h2⟩ | rfl)
    ·exact ⟨p, by omega, h2⟩
    ·exact ⟨n, by omega, h, rfl⟩
   ·rintro ⟨p, h1, h2, h3⟩;rcases Nat.lt_succ_iff_lt_or_eq.1 h1 with h4 | rfl
    ·exact .inl ⟨p, h4, h2, h3⟩
    ·exact .inr h3
theorem Zdt (d : Dk) : ∀ n, (Xu d n).length ≤ n
 | 0 => by simp [Xu]
 | n + 1 => by
  have ih := Zdt d n;unfold Xu;split
  ·omega
  ·simp; omega
theorem Zcq (d : Dk) : ∀ n, Js (Xu d n)
 | 0 => by simp [Xu, Js]
 | n + 1 => by
  have ih := Zcq d n;unfold Xu;split
  ·exact ih
  ·refine List.pairwise_append.2 ⟨ih, by simp, fun x hx y hy => ?_⟩;obtain ⟨p, h1, _, rfl⟩ := (Zds d x n).1 hx;rw [List.mem_singleton.1 hy];show (p : Int) ≠ (n : Int);omega
theorem Zl6 (d : Dk) (n : Nat) (hn : n ≤ 1000) {ys : List Ent} (hp : ys.Perm (Xu d n)) (ho : ys.Pairwise Ups) : ys = Yc d n :=
 Zrq _ _ ho ((Yy _).1 (Q6 d n hn)).1 fun x => by rw [hp.mem_iff, Zds, Qb]
theorem Znp {e : Ent} : ∀ {l : List Ent}, (∀ x ∈ l, Yv e x = true) → (l.filter fun x => Yv x e) = [] ∧ (l.filter fun x => Yv e x) = l := by
 intro l h;refine ⟨List.filter_eq_nil_iff.2 fun x hx => Zfu (h x hx), List.filter_eq_self.2 h⟩
theorem Zc4 (e : Ent) : ∀ l : List Ent, l.Pairwise Ups → (∀ x ∈ l, x.pair ≠ e.pair) → (l.filter fun x => Yv x e) ++ [e] ++ (l.filter fun x => Yv e x) = Za5 e l
 | [], _, _ => by simp [Za5]
 | x :: l, hp, hne => by
  obtain ⟨h1, h2⟩ := List.pairwise_cons.1 hp;unfold Za5;by_cases h : Yv e x = true
  ·rw [if_pos h];obtain ⟨k1, k2⟩ := Znp (e := e) (l := x :: l) fun y hy => by
    rcases List.mem_cons.1 hy with rfl | hy
    ·exact h
    ·exact Kx h (h1 y hy).1
   rw [k1, k2]; rfl
  ·have f1 : (x :: l).filter (fun x => Yv x e) = x :: l.filter (fun x => Yv x e) := List.filter_cons_of_pos (Zce h fun e' => hne x (by simp) e'.symm);have f2 : (x :: l).filter (fun x => Yv e x) = l.filter (fun x => Yv e x) := List.filter_cons_of_neg h;rw [if_neg h, f1, f2, ← Zc4 e l h2 fun y hy => hne y (by simp [hy])];rfl
theorem Zqq {l : List Ent} {key ver : Int} {k : Nat} (hk : k < l.length) (h0 : ∀ x ∈ l.take k, ¬ (x.rc.key = key ∧ x.rc.ver = ver)) (h1 : l[k].rc.key = key ∧ l[k].rc.ver = ver) : Zah l key ver = some l[k] := by
 unfold Zah;have e : l = l.take k ++ l[k] :: l.drop (k + 1) := by
  rw [← List.drop_eq_getElem_cons hk, List.take_append_drop]
 have h2 : (l.take k).find? (fun x => decide (x.rc.key = key ∧ x.rc.ver = ver)) = none := List.find?_eq_none.2 fun x hx => by simpa using h0 x hx
 conv => lhs; rw [e]
 rw [List.find?_append, h2, Option.none_or, List.find?_cons_of_pos (by simpa using h1)]
theorem Zb1 {l : List Ent} {k : Nat} (hk : k < l.length) {x : Ent} (h : x ∈ l.take (k + 1)) : x ∈ l.take k ∨ x = l[k] := by
 rw [List.take_succ_eq_append_getElem hk] at h;rcases List.mem_append.1 h with h | h
 ·exact .inl h
 ·exact .inr (List.mem_singleton.1 h)
theorem Zj3 : ∀ (n : Nat) (l : List Nat), (∀ m, m < n → m ∈ l) → n ≤ l.length
 | 0, _, _ => Nat.zero_le _
 | n + 1, l, h => by
  have h1 := Zj3 n (l.erase n) fun m hm => (List.mem_erase_of_ne (by omega)).2 (h m (by omega))
  have h2 := List.length_erase_of_mem (h n (by omega));have h3 := List.length_pos_of_mem (h n (by omega));omega
theorem Ztl {l : List Ent} {f : Nat} (h0 : ∀ n : Nat, n < f → ∃ x ∈ l, x.pair = (n : Int)) (h1 : f = l.length ∨ ∀ x ∈ l, x.pair ≠ (f : Int)) : J5 l f := by
 refine ⟨h0, ?_⟩;rcases h1 with rfl | h1
 ·intro x hx hp;have := Zj3 (l.length + 1) (l.map fun x => x.pair.toNat) fun m hm => by
   rcases Nat.lt_succ_iff_lt_or_eq.1 hm with h2 | rfl
   ·obtain ⟨y, hy, hyp⟩ := h0 m h2;exact List.mem_map.2 ⟨y, hy, by rw [hyp]; rfl⟩
   ·exact List.mem_map.2 ⟨x, hx, by rw [hp]; rfl⟩
  rw [List.length_map] at this;omega
 ·exact h1
end Go.Proofs.YtgaecpdokgklpadGreatDoor
