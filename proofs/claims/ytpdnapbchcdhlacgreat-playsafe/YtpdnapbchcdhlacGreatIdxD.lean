import Derived.Test.YtpdnapbchcdhlacGreatIdxA
set_option maxHeartbeats 8000000
namespace Go.Proofs.YtpdnapbchcdhlacGreat
set_option maxRecDepth 100000
open Go.RowKit
open Plain Reg
variable {B g : Nat} {w : World} {xs : List Ent}
theorem Zty (S0 : Nat → Prop) (n : Nat) (w : World) (h0 : 0 < n) (hn : n ≤ 100000000) :
  Calls Tryz.prog 186 #[.slice none 0 0, .int .i64 (n : Int)] w fun e w' => ∃ v', e = .returned v' ∧ Yv Y8 S0 w.heap.size v' [] [] w' ∧ Zn w w' := by
 obtain ⟨i0, hif, hz0, hz1, hz2⟩ := info_parts Zan;have hrun := fun ty => Lib.run_append_nil_zeros (P := Tryz.prog) w 27 3 ty 92 i0 (.agg #[.int .i64 0, .int .i64 0, .int .i64 0, .slice none 0 0, .int .i64 0]) .i64 .i64 Tryz.underlying27 Tryz.underlying3 hif hz0 n h0 (by rw [hz1]; decide) (by omega) (by rw [hz2]; omega)
 have hge := grownCap_ge w n 0 92;have hcm := grownCap_le_maxLen w n 0 92 (by unfold maxLen; omega);generalize grownCap w n 0 92 = cap at *;have hR : Yv Y8 S0 w.heap.size (.slice (some ⟨w.heap.size, 0, none⟩) 0 cap) [] [] (w.drew.alloc (.cells (Builtin.zeroCells (Value.agg #[.int .i64 0, .int .i64 0, .int .i64 0, .slice none 0 0, .int .i64 0]).cells n ++ Builtin.zeroCells (Value.agg #[.int .i64 0, .int .i64 0, .int .i64 0, .slice none 0 0, .int .i64 0]).cells (cap - n)) 92)) := by
  refine Yv.made ⟨rfl, .inr ⟨w.heap.size, cap, _, rfl, Nat.le_refl _, heap_alloc_new w.drew _, Nat.zero_le _, hcm, ?_, by simp⟩⟩;have h5 : (Value.agg #[.int .i64 0, .int .i64 0, .int .i64 0, .slice none 0 0, .int .i64 0]).cells.size = 5 := by decide
  rw [Array.size_append, size_zeroCells, size_zeroCells, h5, ← Nat.add_mul, show n + (cap - n) = cap from by omega];rfl
 have gE : Zn w (w.drew.alloc (.cells (Builtin.zeroCells (Value.agg #[.int .i64 0, .int .i64 0, .int .i64 0, .slice none 0 0, .int .i64 0]).cells n ++ Builtin.zeroCells (Value.agg #[.int .i64 0, .int .i64 0, .int .i64 0, .slice none 0 0, .int .i64 0]).cells (cap - n)) 92)) := (Zn.refl w).drew.trans (Zb _ _);generalize World.alloc w.drew _ = W at *;have d0 : ¬ ((n : Int) < 0) := by omega
 have d1 : (0 : Int) < (n : Int) := by omega
 go_enter Tryz.func186, Tryz.ntmps186;go_wp2_with (at_builtin; refine Lib.wpList_append_run _ rfl _ _ _ _ rfl _ _ rfl rfl _ _ (hrun _) ?_);go_ret;exact ⟨_, rfl, hR, gE⟩
theorem Zia {xss : List (List Ent)} {k : Nat} (h : k < xss.length) : (xss.take (k + 1)).flatten = (xss.take k).flatten ++ xss[k] := by
 rw [List.take_succ_eq_append_getElem h, List.flatten_append]; simp
theorem Zdl : ∀ (xss : List (List Ent)), (∀ xs ∈ xss, xs.length ≤ 1000000) → xss.flatten.length ≤ xss.length * 1000000
 | [], _ => by simp
 | xs :: xss, h => by
  have h1 := Zdl xss fun xs hx => h xs (by simp [hx])
  have h2 := h xs (by simp);rw [List.flatten_cons, List.length_append, List.length_cons, Nat.add_mul]; omega
theorem Znx (S0 : Nat → Prop) (xss : List (List Ent)) (vs : List Value) (g cap : Nat) (w : World) (hS0 : ∀ b, S0 b → b < w.heap.size) (hlen : vs.length = xss.length) (h10 : xss.length ≤ 10) (hm : ∀ xs ∈ xss, xs.length ≤ 1000000) (hpos : 0 < xss.flatten.length)
  (hc : ∀ (j : Nat) (h : j < vs.length), w.cell? ⟨g, j, none⟩ = some vs[j]) (hs : ∀ (j : Nat) (h1 : j < vs.length) (h2 : j < xss.length), Ys S0 w vs[j] xss[j]) :
  Calls Tryz.prog 182 #[.slice (some ⟨g, 0, none⟩) xss.length cap] w fun e w' => ∃ v' css, e = .returned v' ∧ Yv Y8 S0 w.heap.size v' xss.flatten css w' ∧ Zn w w' := by
 obtain ⟨i0, hif, hz0, hz1, hz2⟩ := info_parts Zan;obtain ⟨F, hF⟩ : ∃ F, F = xss.flatten := ⟨_, rfl⟩;rw [← hF] at hpos ⊢;have HF : Hid _ := hF;have hFl : F.length ≤ 10000000 := by
  have h1 := Zdl xss hm;rw [← hF] at h1;omega
 have HC : Hid (∀ (j : Nat) (h : j < vs.length), w.cell? ⟨g, j, none⟩ = some vs[j]) := hc;have HS : Hid (∀ (j : Nat) (h1 : j < vs.length) (h2 : j < xss.length), Ys S0 w vs[j] xss[j]) := hs;clear hF hc hs;go_enter Tryz.func182, Tryz.ntmps182;go_wp2_with fail;go_loopw [3, 11] (fun sz i wr => ∃ k : Nat, k ≤ xss.length ∧ i = .int .i64 k ∧ sz = .int .i64 (((xss.take k).flatten.length : Nat) : Int) ∧ w = wr) (fun _ i _ => xss.length - (intOf i).toNat)
 case atStart => exact ⟨0, Nat.zero_le _, rfl, rfl, rfl⟩
 case round =>
  obtain ⟨k, hk, rfl, rfl, hww⟩ := hrel;subst hww;by_cases hlt : k < xss.length
  ·have hkv : k < vs.length := by omega
   have q0 := HC.out k hkv;obtain ⟨ao, cp, hv⟩ := (HS.out k hkv hlt).form;rw [hv] at q0;have HT : Hid ((xss.take (k + 1)).flatten.length = (xss.take k).flatten.length + xss[k].length) := by show _ = _; rw [Zia hlt, List.length_append]
   have h1 : xss[k].length ≤ 1000000 := hm _ (List.getElem_mem hlt);have h2 : (xss.take k).flatten.length ≤ 10000000 := by
    have h1 := Zdl (xss.take k) fun xs hx => hm xs (List.mem_of_mem_take hx)
    rw [List.length_take] at h1;omega
   generalize xss[k].length = n1 at *;generalize (xss.take k).flatten.length = n2 at *;have d1 : ¬ ((n2 : Int) + (n1 : Int) < 0) := by omega
   clear hv;go_wp2_with fail;go_roundw
   case rel => exact ⟨k + 1, by omega, by go_num, by rw [HT.out]; go_num, trivial⟩
   case measure => simp [intOf]; omega
  ·have HE : Hid ((xss.take k).flatten = F) := by show _ = _; rw [HF.out, List.take_of_length_le (by omega)]
   rw [HE.out];go_wp2_with fail;refine (Zty S0 F.length w hpos (by omega)).mono ?_;rintro e w1 ⟨v1, rfl, hR1, g1⟩;obtain ⟨a1, c1, rfl⟩ := hR1.form;clear HE;go_wp2_with fail;go_loopw [6, 27] (fun o i wr2 => ∃ (k : Nat) (css : List (List Value)), k ≤ xss.length ∧ i = .int .i64 k ∧ Yv Y8 S0 w.heap.size o ((xss.take k).flatten) css wr2 ∧ Zn w wr2) (fun _ i _ => xss.length - (intOf i).toNat)
   case atStart => exact ⟨0, [], Nat.zero_le _, rfl, hR1, g1⟩
   case round =>
    clear hR1 g1;obtain ⟨k2, css, hk2, rfl, hR, hg⟩ := hrel;by_cases hlt2 : k2 < xss.length
    ·have hkv : k2 < vs.length := by omega
     have q0 := (Below.cell hg (Zv (HC.out k2 hkv))).trans (HC.out k2 hkv);have hsl := (HS.out k2 hkv hlt2).grow hg;obtain ⟨ao, cp, hv⟩ := hsl.form;rw [hv] at q0 hsl;have HT : Hid ((xss.take (k2 + 1)).flatten = (xss.take k2).flatten ++ xss[k2]) := Zia hlt2;have h1 : xss[k2].length ≤ 1000000 := hm _ (List.getElem_mem hlt2);have h2 : (xss.take k2).flatten.length ≤ 10000000 := by
      have h1 := Zdl (xss.take k2) fun xs hx => hm xs (List.mem_of_mem_take hx)
      rw [List.length_take] at h1;omega
     generalize xss[k2] = ys at *;generalize (xss.take k2).flatten = xs at *;obtain ⟨a2, c2, rfl⟩ := hR.form;obtain ⟨v3, w3, css3, hrun, hR3, hgb⟩ := Yv.app (ty := 27) Tryz.underlying27 hif hz0 hz1 hz2 (by decide) (by decide) (by decide) hS0 hR hsl (fun b h => .inl h) (by unfold maxLen; omega) (by omega) hg.size;have g3 : Zn w w3 := Ya hg hgb (fun k hk => (hR.row.lt k hk).1);obtain ⟨a3, c3, rfl⟩ := hR3.form;rw [List.length_append] at hR3 hrun;clear hv hR hgb hsl hg;go_wp2_with (at_builtin; refine Lib.wpList_append_run _ rfl _ _ _ _ rfl _ _ rfl rfl _ _ hrun ?_);go_roundw
     case rel => exact ⟨k2 + 1, _, by omega, by go_num, by rw [HT.out]; exact hR3, g3⟩
     case measure => simp [intOf]; omega
    ·have HE : Hid ((xss.take k2).flatten = F) := by show _ = _; rw [HF.out, List.take_of_length_le (by omega)]
     rw [HE.out] at hR;obtain ⟨a2, c2, rfl⟩ := hR.form;go_wp2_with fail;go_ret;exact ⟨_, _, rfl, hR, hg⟩
theorem Zme {S : Nat → Prop} {e : Ent} {a : Option Addr} {c : Nat} (hS : S g) (hg : w.heap[g]? = some (.cells #[.int .i64 e.rc.kind, .int .i64 e.rc.key, .int .i64 e.rc.ver, .slice a e.rc.data.length c, .int .i64 e.pair] 92 (0, 0))) (hb : Z0 S w (.slice a e.rc.data.length c) e.rc.data) : Ys S w (.slice (some ⟨g, 0, none⟩) 1 1) [e] := by
 refine .inr ⟨g, 0, 1, hS, rfl, Nat.le_refl _, fun i hi => ?_⟩;obtain rfl : i = 0 := by simpa using hi
 refine ⟨[.int .i64 e.rc.kind, .int .i64 e.rc.key, .int .i64 e.rc.ver, .slice a e.rc.data.length c, .int .i64 e.pair], ⟨_, rfl, hb⟩, fun j u hj => ?_⟩;rw [Nat.zero_mul, Nat.zero_add];refine Zc hg j u ?_;simpa using hj
structure Zud (B : Nat) (xs ys zs : List Ent) (v1 v2 v3 : Value) (g : Nat) (w : World) : Prop where
 row : w.heap[g]? = some (.cells #[v1, v2, v3] 27 (0, 0))
 one : Ys (fun b => B ≤ b) w v1 xs
 two : Ys (fun b => B ≤ b) w v2 ys
 three : Ys (fun b => B ≤ b) w v3 zs
theorem Zi9 {ys zs : List Ent} {v1 v2 v3 : Value} (h : Zud B xs ys zs v1 v2 v3 g w) (hB : B ≤ w.heap.size) (h1 : xs.length ≤ 1000000) (h2 : ys.length ≤ 1000000) (h3 : zs.length ≤ 1000000) (hp : 0 < ys.length) :
  Calls Tryz.prog 182 #[.slice (some ⟨g, 0, none⟩) 3 3] w fun e w' => ∃ v', e = .returned v' ∧ Ys (fun b => B ≤ b) w' v' (xs ++ ys ++ zs) ∧ Zn w w' := by
 have hcap : ∀ {v : Value} {l : List Ent}, Ys (fun b => B ≤ b) w v l → Ys (fun b => B ≤ b ∧ b < w.heap.size) w v l := fun h => Z7.caps h (by decide)
 refine (Znx (fun b => B ≤ b ∧ b < w.heap.size) [xs, ys, zs] [v1, v2, v3] g 3 w (fun b h => h.2) rfl (by simp) ?_ (by simp; omega) ?_ ?_).mono ?_
 ·intro l hl;simp only [List.mem_cons, List.not_mem_nil, or_false] at hl;rcases hl with rfl | rfl | rfl <;> assumption
 ·intro j hj
  match j, hj with
  | 0, _ => exact Zc h.row 0 _ rfl
  | 1, _ => exact Zc h.row 1 _ rfl
  | 2, _ => exact Zc h.row 2 _ rfl
 ·intro j hj _
  match j, hj with
  | 0, _ => exact hcap h.one
  | 1, _ => exact hcap h.two
  | 2, _ => exact hcap h.three
 ·rintro e w' ⟨v', css, rfl, hR, hg⟩;refine ⟨v', rfl, ?_, hg⟩;have := (Yv.slice hR).mono (S' := fun b => B ≤ b) fun b hb => hb.elim (fun x => x.1) (fun x => by omega)
  simpa using this
theorem Yv.from {v : Value} {css : List (List Value)} (h : Yv Y8 NoS B v xs css w) : Ys (fun b => B ≤ b) w v xs := h.slice.mono fun _ h => h.elim (fun x => x.elim) (fun x => x)
theorem Zs4 (S : Nat → Prop) (l : List Ent) (e : Ent) (a : Option Addr) (c : Nat) (v : Value) (w : World) (hl : Ys S w v l) (hn : l.length ≤ 1000000) (h8 : ∀ x ∈ l, x.rc.data.length ≤ 8) (he8 : e.rc.data.length ≤ 8) (hne : ∀ x ∈ l, x.pair ≠ e.pair) (hb : Z0 S w (.slice a e.rc.data.length c) e.rc.data) :
  Calls Tryz.prog 158 #[v, .agg #[.int .i64 e.rc.kind, .int .i64 e.rc.key, .int .i64 e.rc.ver, .slice a e.rc.data.length c, .int .i64 e.pair]] w fun r w' => ∃ v', r = .returned v' ∧ Ys (fun b => w.heap.size ≤ b) w' v' ((l.filter fun x => Y2 x e) ++ [e] ++ (l.filter fun x => Y2 e x)) ∧ Zn w w' := by
 obtain ⟨ao, cp, rfl⟩ := hl.form;have g0 := Zb w (.cells #[.int .i64 e.rc.kind, .int .i64 e.rc.key, .int .i64 e.rc.ver, .slice a e.rc.data.length c, .int .i64 e.pair] 92);have hE0 := Zg w #[.int .i64 e.rc.kind, .int .i64 e.rc.key, .int .i64 e.rc.ver, .slice a e.rc.data.length c, .int .i64 e.pair] 92;have hf1 : (l.filter fun x => Y2 x e).length ≤ 1000000 := Nat.le_trans (List.length_filter_le _ _) hn;have hf2 : (l.filter fun x => Y2 e x).length ≤ 1000000 := Nat.le_trans (List.length_filter_le _ _) hn;obtain ⟨xs, hxs⟩ : ∃ xs, xs = l.filter fun x => Y2 x e := ⟨_, rfl⟩
 obtain ⟨zs, hzs⟩ : ∃ zs, zs = l.filter fun x => Y2 e x := ⟨_, rfl⟩
 rw [← hxs] at hf1 ⊢;rw [← hzs] at hf2 ⊢;have HX : Hid _ := hxs;have HZ : Hid _ := hzs;clear hxs hzs;go_enter Tryz.func158, Tryz.ntmps158;go_wp2_with fail;refine (Zhh 179 #[.pointer (some ⟨w.heap.size, 0, none⟩)] S l _ _ Zle (hl.grow g0) hn (fun x a' c' w' hx hg => Zub x e a' a c' c _ w' (hne x hx) ((hg.block _ (Za hE0)).trans hE0))).mono ?_;rintro r w1 ⟨rfl, g1⟩;have gw1 := g0.trans g1;have hE1 := (g1.block _ (Za hE0)).trans hE0;clear g0 g1 hE0 hne;go_wp2_with fail;refine (Zbd 180 #[.pointer (some ⟨w.heap.size, 0, none⟩)] (fun x => Y2 x e) S l _ _ Zld (hl.grow gw1) hn h8 (fun x a' c' w' _ hg => Zua x e a' a c' c _ w' ((hg.block _ (Za hE1)).trans hE1))).mono ?_;rw [← HX.out];rintro r w2 ⟨v2, css2, rfl, hR2, g2⟩;have gw2 := gw1.trans g2;have hE2 := (g2.block _ (Za hE1)).trans hE1;have hL2 := (hR2.less gw1.size).from;clear g2 hE1 hR2 gw1;obtain ⟨a2, c2, rfl⟩ := hL2.form;go_wp2_with fail;refine (Zbd 181 #[.pointer (some ⟨w.heap.size, 0, none⟩)] (fun x => Y2 e x) S l _ _ Zlc (hl.grow gw2) hn h8 (fun x a' c' w' _ hg => Zt9 x e a' a c' c _ w' ((hg.block _ (Za hE2)).trans hE2))).mono ?_;rw [← HZ.out];rintro r w3 ⟨v3, css3, rfl, hR3, g3⟩;have gw3 := gw2.trans g3;have hE3 := (g3.block _ (Za hE2)).trans hE2;have hL3 := (hR3.less gw2.size).from;have hL2' := hL2.grow g3;clear g3 hE2 hR3 gw2 hL2;obtain ⟨a3, c3, rfl⟩ := hL3.form;obtain ⟨x0, x1, x2, x3, x4⟩ := Qh hE3 rfl rfl rfl rfl rfl;go_wp2_with fail;refine (Zgj e a c _ (by omega) (hb.grow gw3).p).mono ?_
 rintro r w4 ⟨v4, rfl, ⟨a4, c4, rfl, ho4⟩, g4⟩;have gw4 := gw3.trans g4;have g5 := Zb w4 (.cells #[.int .i64 e.rc.kind, .int .i64 e.rc.key, .int .i64 e.rc.ver, .slice a4 e.rc.data.length c4, .int .i64 e.pair] 92);have h5 := Zg w4 #[.int .i64 e.rc.kind, .int .i64 e.rc.key, .int .i64 e.rc.ver, .slice a4 e.rc.data.length c4, .int .i64 e.pair] 92;have s5 := World.size_alloc w4 (.cells #[.int .i64 e.rc.kind, .int .i64 e.rc.key, .int .i64 e.rc.ver, .slice a4 e.rc.data.length c4, .int .i64 e.pair] 92);have hT : Zud w.heap.size xs [e] zs (.slice a2 xs.length c2) (.slice (some ⟨w4.heap.size, 0, none⟩) 1 1) (.slice a3 zs.length c3) (w4.heap.size + 1) ((w4.alloc (.cells #[.int .i64 e.rc.kind, .int .i64 e.rc.key, .int .i64 e.rc.ver, .slice a4 e.rc.data.length c4, .int .i64 e.pair] 92)).alloc (.cells #[.slice a2 xs.length c2, .slice (some ⟨w4.heap.size, 0, none⟩) 1 1, .slice a3 zs.length c3] 27)) := by
  have h6 := Zg (w4.alloc (.cells #[.int .i64 e.rc.kind, .int .i64 e.rc.key, .int .i64 e.rc.ver, .slice a4 e.rc.data.length c4, .int .i64 e.pair] 92)) #[.slice a2 xs.length c2, .slice (some ⟨w4.heap.size, 0, none⟩) 1 1, .slice a3 zs.length c3] 27;have g6 := Zb (w4.alloc (.cells #[.int .i64 e.rc.kind, .int .i64 e.rc.key, .int .i64 e.rc.ver, .slice a4 e.rc.data.length c4, .int .i64 e.pair] 92)) (.cells #[.slice a2 xs.length c2, .slice (some ⟨w4.heap.size, 0, none⟩) 1 1, .slice a3 zs.length c3] 27);rw [s5] at h6;have g46 := g5.trans g6;refine ⟨h6, (hL2'.grow g4).grow g46, Zme gw4.size ((g6.block _ (Za h5)).trans h5) ?_, (hL3.grow g4).grow g46⟩;have hbo := (Zcl (fun _ => False) (Yk ho4 gw3.size)).grow g46;exact hbo.mono fun b h => h.elim (fun x => x.elim) (fun x => x)
 have gw6 := gw4.trans (Zp w4 (.cells #[.int .i64 e.rc.kind, .int .i64 e.rc.key, .int .i64 e.rc.ver, .slice a4 e.rc.data.length c4, .int .i64 e.pair] 92) (.cells #[.slice a2 xs.length c2, .slice (some ⟨w4.heap.size, 0, none⟩) 1 1, .slice a3 zs.length c3] 27));clear x0 x1 x2 x3 x4 hE3 g5 h5 s5 g4 gw3 gw4 ho4 hL2' hL3;go_wp2_with fail;refine (Zi9 hT gw6.size hf1 (by simp) hf2 (by simp)).mono ?_;rintro r w7 ⟨v7, rfl, hL7, g7⟩;have gE := gw6.trans g7;clear hT gw6 g7;go_wp2_with fail;go_ret;exact ⟨_, rfl, hL7, gE⟩
end Go.Proofs.YtpdnapbchcdhlacGreat
namespace Go.Proofs.YtpdnapbchcdhlacGreat
set_option maxRecDepth 100000
open Plain
variable {i j k : Nat} {l ys : List Ent} {x y : Ent}
theorem Zbq (a : Ent) : ¬ Y2 a a = true := by simp [Y2]
theorem Zgf {a b : Ent} (h : Y2 a b = true) : ¬ Y2 b a = true := fun h2 => Zbq a (Jh h h2)
theorem Zrr : ∀ (a b : List Ent), a.Pairwise Ups → b.Pairwise Ups → (∀ x, x ∈ a ↔ x ∈ b) → a = b
 | [], [], _, _, _ => rfl
 | [], y :: b, _, _, h => absurd ((h y).2 (by simp)) (by simp)
 | x :: a, [], _, _, h => absurd ((h x).1 (by simp)) (by simp)
 | x :: a, y :: b, ha, hb, h => by
  obtain ⟨ha1, ha2⟩ := List.pairwise_cons.1 ha;obtain ⟨hb1, hb2⟩ := List.pairwise_cons.1 hb;have hxy : x = y := by
   rcases List.mem_cons.1 ((h x).1 (by simp)) with h1 | h1
   ·exact h1
   ·rcases List.mem_cons.1 ((h y).2 (by simp)) with h2 | h2
    ·exact h2.symm
    ·exact absurd (ha1 y h2).1 (Zgf (hb1 x h1).1)
  subst hxy;rw [Zrr a b ha2 hb2 fun z => ?_];constructor
  ·intro hz;rcases List.mem_cons.1 ((h z).1 (by simp [hz])) with rfl | h2
   ·exact absurd (ha1 z hz).1 (Zbq z)
   ·exact h2
  ·intro hz;rcases List.mem_cons.1 ((h z).2 (by simp [hz])) with rfl | h2
   ·exact absurd (hb1 z hz).1 (Zbq z)
   ·exact h2
def J9 (ys : List Ent) : Prop := ys.Pairwise fun a b => a.pair ≠ b.pair
theorem Zdu (h : J9 ys) {a b : Nat} (hab : a < b) (hx : ys[a]? = some x) (hy : ys[b]? = some y) : x.pair ≠ y.pair := by
 obtain ⟨h1, rfl⟩ := List.getElem?_eq_some_iff.1 hx;obtain ⟨h2, rfl⟩ := List.getElem?_eq_some_iff.1 hy;exact List.pairwise_iff_getElem.1 h a b h1 h2 hab
theorem Zjo {xs : List Ent} (h : J9 xs) (hp : ys.Perm xs) : J9 ys := (hp.pairwise_iff (fun h e => h e.symm)).2 h
def Ord (i : Nat) (ys : List Ent) : Prop := ∀ a b x y, a < b → b < i → ys[a]? = some x → ys[b]? = some y → Ups x y
def Zoa (i j : Nat) (ys : List Ent) : Prop := (∀ a b x y, a < b → b ≤ i → a ≠ j → b ≠ j → ys[a]? = some x → ys[b]? = some y → Ups x y) ∧ ∀ m x y, j < m → m ≤ i → ys[j]? = some x → ys[m]? = some y → Ups x y
theorem Zqa (h : Ord i ys) : Zoa i i ys := ⟨fun a b x y h1 h2 h3 h4 hx hy => h a b x y h1 (by omega) hx hy, fun m x y h1 h2 => by omega⟩
def Zen (ys : List Ent) (j : Nat) (x y : Ent) : List Ent := (ys.set (j + 1) x).set j y
theorem Zph (hx : ys[j]? = some x) (hy : ys[j + 1]? = some y) : (Zen ys j x y).Perm ys := by
 obtain ⟨h1, rfl⟩ := List.getElem?_eq_some_iff.1 hx;obtain ⟨h2, rfl⟩ := List.getElem?_eq_some_iff.1 hy;exact List.set_set_perm h2 h1
theorem Ze2 (hl : j + 1 < ys.length) (a : Nat) : (Zen ys j x y)[a]? = if a = j then some y else if a = j + 1 then some x else ys[a]? := by
 unfold Zen;by_cases h1 : a = j
 ·subst h1;rw [if_pos rfl, List.getElem?_set_self (by simp; omega)]
 ·rw [if_neg h1, List.getElem?_set_ne (by omega)];by_cases h2 : a = j + 1
  ·subst h2;rw [if_pos rfl, List.getElem?_set_self hl]
  ·rw [if_neg h2, List.getElem?_set_ne (by omega)]
theorem Zs7 (h : Zoa i (j + 1) ys) (hx : ys[j]? = some x) (hy : ys[j + 1]? = some y) (hlt : Y2 y x = true) (hne : x.pair ≠ y.pair) (hi : j + 1 ≤ i) : Zoa i j (Zen ys j x y) := by
 have hl : j + 1 < ys.length := (List.getElem?_eq_some_iff.1 hy).1;refine ⟨fun a b u v h1 h2 h3 h4 hu hv => ?_, fun m u v h1 h2 hu hv => ?_⟩
 ·rw [Ze2 hl, if_neg h3] at hu;rw [Ze2 hl, if_neg h4] at hv;by_cases ha : a = j + 1
  ·rw [if_pos ha] at hu;rw [if_neg (by omega)] at hv;cases hu;exact h.1 j b _ v (by omega) h2 (by omega) (by omega) hx hv
  ·rw [if_neg ha] at hu;by_cases hb : b = j + 1
   ·rw [if_pos hb] at hv;cases hv;exact h.1 a j u _ (by omega) (by omega) (by omega) (by omega) hu hx
   ·rw [if_neg hb] at hv;exact h.1 a b u v h1 h2 ha hb hu hv
 ·rw [Ze2 hl, if_pos rfl] at hu;rw [Ze2 hl, if_neg (by omega)] at hv;cases hu;by_cases hm : m = j + 1
  ·rw [if_pos hm] at hv;cases hv;exact ⟨hlt, hne.symm⟩
  ·rw [if_neg hm] at hv;exact h.2 m _ v (by omega) h2 hy hv
theorem Zs8 (h : Zoa i 0 ys) : Ord (i + 1) ys := fun a b x y h1 h2 hx hy => by
 by_cases ha : a = 0
 ·subst ha; exact h.2 b x y h1 (by omega) hx hy
 ·exact h.1 a b x y h1 (by omega) ha (by omega) hx hy
theorem Zvu (h : Zoa i (j + 1) ys) (hn : J9 ys) (hx : ys[j]? = some x) (hy : ys[j + 1]? = some y) (hlt : ¬ Y2 y x = true) (hi : j + 1 ≤ i) : Ord (i + 1) ys := fun a b u v h1 h2 hu hv => by
 have hU : Y2 x y = true := Zcy hlt (Zdu hn (Nat.lt_succ_self j) hx hy).symm;by_cases ha : a = j + 1
 ·subst ha; exact h.2 b u v h1 (by omega) hu hv
 ·by_cases hb : b = j + 1
  ·subst hb;refine ⟨?_, Zdu hn h1 hu hv⟩;rw [hy] at hv; cases hv;by_cases haj : a = j
   ·subst haj; rw [hx] at hu; cases hu; exact hU
   ·exact Jh (h.1 a j u x (by omega) (by omega) ha (by omega) hu hx).1 hU
  ·exact h.1 a b u v h1 (by omega) ha hb hu hv
theorem Zvt (h : Ord ys.length ys) : ys.Pairwise Ups := List.pairwise_iff_getElem.2 fun a b ha hb hab => h a b _ _ hab hb (List.getElem?_eq_getElem ha) (List.getElem?_eq_getElem hb)
def Qv (d : Dk) : Nat → List Ent
 | 0 => []
 | n + 1 => if (d.tell (n : Int)).kind = 1 then Qv d n else Qv d n ++ [⟨d.tell (n : Int), (n : Int)⟩]
theorem Zdw (d : Dk) (x : Ent) : ∀ n, x ∈ Qv d n ↔ ∃ p : Nat, p < n ∧ (d.tell (p : Int)).kind ≠ 1 ∧ x = ⟨d.tell (p : Int), (p : Int)⟩
 | 0 => by simp [Qv]
 | n + 1 => by
  have ih := Zdw d x n;unfold Qv;by_cases h : (d.tell (n : Int)).kind = 1
  ·rw [if_pos h, ih];constructor
   ·rintro ⟨p, h1, h2⟩; exact ⟨p, by omega, h2⟩
   ·rintro ⟨p, h1, h2, h3⟩;refine ⟨p, ?_, h2, h3⟩;rcases Nat.lt_succ_iff_lt_or_eq.1 h1 with h4 | rfl
    ·exact h4
    ·exact absurd h h2
  ·rw [if_neg h, List.mem_append, ih, List.mem_singleton];constructor
   ·rintro (⟨p, h1, h2⟩ | rfl)
    ·exact ⟨p, by omega, h2⟩
    ·exact ⟨n, by omega, h, rfl⟩
   ·rintro ⟨p, h1, h2, h3⟩;rcases Nat.lt_succ_iff_lt_or_eq.1 h1 with h4 | rfl
    ·exact .inl ⟨p, h4, h2, h3⟩
    ·exact .inr h3
theorem Zdx (d : Dk) : ∀ n, (Qv d n).length ≤ n
 | 0 => by simp [Qv]
 | n + 1 => by
  have ih := Zdx d n;unfold Qv;split
  ·omega
  ·simp; omega
theorem Zc5 (d : Dk) : ∀ n, J9 (Qv d n)
 | 0 => by simp [Qv, J9]
 | n + 1 => by
  have ih := Zc5 d n;unfold Qv;split
  ·exact ih
  ·refine List.pairwise_append.2 ⟨ih, by simp, fun x hx y hy => ?_⟩;obtain ⟨p, h1, _, rfl⟩ := (Zdw d x n).1 hx;rw [List.mem_singleton.1 hy];show (p : Int) ≠ (n : Int);omega
theorem Zl3 (d : Dk) (n : Nat) (hn : n ≤ 1000) (hp : ys.Perm (Qv d n)) (ho : ys.Pairwise Ups) : ys = Z3 d n :=
 Zrr _ _ ho ((Xp _).1 (V3 d n hn)).1 fun x => by rw [hp.mem_iff, Zdw, Vq]
theorem Zn6 {e : Ent} : ∀ {l : List Ent}, (∀ x ∈ l, Y2 e x = true) → (l.filter fun x => Y2 x e) = [] ∧ (l.filter fun x => Y2 e x) = l := by
 intro l h;refine ⟨List.filter_eq_nil_iff.2 fun x hx => Zgf (h x hx), List.filter_eq_self.2 h⟩
theorem Zdh (e : Ent) : ∀ l : List Ent, l.Pairwise Ups → (∀ x ∈ l, x.pair ≠ e.pair) → (l.filter fun x => Y2 x e) ++ [e] ++ (l.filter fun x => Y2 e x) = Zbt e l
 | [], _, _ => by simp [Zbt]
 | x :: l, hp, hne => by
  obtain ⟨h1, h2⟩ := List.pairwise_cons.1 hp;unfold Zbt;by_cases h : Y2 e x = true
  ·rw [if_pos h];obtain ⟨k1, k2⟩ := Zn6 (e := e) (l := x :: l) fun y hy => by
    rcases List.mem_cons.1 hy with rfl | hy
    ·exact h
    ·exact Jh h (h1 y hy).1
   rw [k1, k2]; rfl
  ·have f1 : (x :: l).filter (fun x => Y2 x e) = x :: l.filter (fun x => Y2 x e) := List.filter_cons_of_pos (Zcy h fun e' => hne x (by simp) e'.symm);have f2 : (x :: l).filter (fun x => Y2 e x) = l.filter (fun x => Y2 e x) := List.filter_cons_of_neg h;rw [if_neg h, f1, f2, ← Zdh e l h2 fun y hy => hne y (by simp [hy])];rfl
theorem Zqy {key ver : Int} (hk : k < l.length) (h0 : ∀ x ∈ l.take k, ¬ (x.rc.key = key ∧ x.rc.ver = ver)) (h1 : l[k].rc.key = key ∧ l[k].rc.ver = ver) : Zbc l key ver = some l[k] := by
 unfold Zbc;have e : l = l.take k ++ l[k] :: l.drop (k + 1) := by
  rw [← List.drop_eq_getElem_cons hk, List.take_append_drop]
 have h2 : (l.take k).find? (fun x => decide (x.rc.key = key ∧ x.rc.ver = ver)) = none := List.find?_eq_none.2 fun x hx => by simpa using h0 x hx
 conv => lhs; rw [e]
 rw [List.find?_append, h2, Option.none_or, List.find?_cons_of_pos (by simpa using h1)]
theorem Zcn (hk : k < l.length) (h : x ∈ l.take (k + 1)) : x ∈ l.take k ∨ x = l[k] := by
 rw [List.take_succ_eq_append_getElem hk] at h;rcases List.mem_append.1 h with h | h
 ·exact .inl h
 ·exact .inr (List.mem_singleton.1 h)
theorem Zke : ∀ (n : Nat) (l : List Nat), (∀ m, m < n → m ∈ l) → n ≤ l.length
 | 0, _, _ => Nat.zero_le _
 | n + 1, l, h => by
  have h1 := Zke n (l.erase n) fun m hm => (List.mem_erase_of_ne (by omega)).2 (h m (by omega))
  have h2 := List.length_erase_of_mem (h n (by omega));have h3 := List.length_pos_of_mem (h n (by omega));omega
theorem Zto {f : Nat} (h0 : ∀ n : Nat, n < f → ∃ x ∈ l, x.pair = (n : Int)) (h1 : f = l.length ∨ ∀ x ∈ l, x.pair ≠ (f : Int)) : Jp l f := by
 refine ⟨h0, ?_⟩;rcases h1 with rfl | h1
 ·intro x hx hp;have := Zke (l.length + 1) (l.map fun x => x.pair.toNat) fun m hm => by
   rcases Nat.lt_succ_iff_lt_or_eq.1 hm with h2 | rfl
   ·obtain ⟨y, hy, hyp⟩ := h0 m h2;exact List.mem_map.2 ⟨y, hy, by rw [hyp]; rfl⟩
   ·exact List.mem_map.2 ⟨x, hx, by rw [hp]; rfl⟩
  rw [List.length_map] at this;omega
 ·exact h1
end Go.Proofs.YtpdnapbchcdhlacGreat
namespace Go.Proofs.YtpdnapbchcdhlacGreat
set_option maxRecDepth 100000
open Go.RowKit
open Plain Reg
variable {S : Nat → Prop} {bs : List Bool} {g k : Nat} {l : List Ent} {w w2 : World} {x : Ent}
def Zyf : Ent := ⟨⟨0, 0, 0, []⟩, 0⟩
theorem Zq1 (S : Nat → Prop) (w : World) : Zrn S none (.tuple #[.agg #[.int .i64 0, .int .i64 0, .int .i64 0, .slice none 0 0, .int .i64 0], .bool false]) w := ⟨Zyf, none, 0, rfl, fun y h => by cases h⟩
theorem Zq0 {a : Option Addr} {c : Nat} (h : Z0 S w (.slice a x.rc.data.length c) x.rc.data) : Zrn S (some x) (.tuple #[.agg #[.int .i64 x.rc.kind, .int .i64 x.rc.key, .int .i64 x.rc.ver, .slice a x.rc.data.length c, .int .i64 x.pair], .bool true]) w := ⟨x, a, c, rfl, fun y e => by cases e; exact ⟨rfl, h⟩⟩
abbrev Zbl : Obj := .cells #[.int .i64 0, .int .i64 0, .int .i64 0, .slice none 0 0, .int .i64 0] 92 (0, 0)
theorem Zxx {S : Nat → Prop} {a2 : Option Addr} {c2 : Nat} (HO : w2.ownsRow (w.heap.size + 1) 5 1 (.slice a2 x.rc.data.length c2) x.rc.data.length (x.rc.data.map bv)) (gw2 : Zn w w2) (u0 u1 u2 u3 u4 : Value) :
  Zrn (Zs S w.heap.size) (some x) (.tuple #[.agg #[.int .i64 x.rc.kind, .int .i64 x.rc.key, .int .i64 x.rc.ver, .slice a2 x.rc.data.length c2, .int .i64 x.pair], .bool true]) (((((w2.setCell ⟨w.heap.size, 0, none⟩ u0).setCell ⟨w.heap.size, 1, none⟩ u1).setCell ⟨w.heap.size, 2, none⟩ u2).setCell ⟨w.heap.size, 3, none⟩ u3).setCell ⟨w.heap.size, 4, none⟩ u4) ∧ Zn w (((((w2.setCell ⟨w.heap.size, 0, none⟩ u0).setCell ⟨w.heap.size, 1, none⟩ u1).setCell ⟨w.heap.size, 2, none⟩ u2).setCell ⟨w.heap.size, 3, none⟩ u3).setCell ⟨w.heap.size, 4, none⟩ u4) := by
 have hb : ∀ o, (⟨w.heap.size, o, none⟩ : Addr).block < w.heap.size + 1 := fun _ => Nat.lt_succ_self _
 have hge : ∀ o, w.heap.size ≤ (⟨w.heap.size, o, none⟩ : Addr).block := fun _ => Nat.le_refl _
 exact ⟨Zq0 (Zcl S (Yk (Xk (Xk (Xk (Xk (Xk HO (hb 0) u0) (hb 1) u1) (hb 2) u2) (hb 3) u3) (hb 4) u4) (Nat.le_succ _))), Zx (Zx (Zx (Zx (Zx gw2 (hge 0) u0) (hge 1) u1) (hge 2) u2) (hge 3) u3) (hge 4) u4⟩
theorem Zyh (gw2 : Zn w w2) (u0 u1 u2 u3 u4 : Value) : Zn w (((((w2.setCell ⟨w.heap.size, 0, none⟩ u0).setCell ⟨w.heap.size, 1, none⟩ u1).setCell ⟨w.heap.size, 2, none⟩ u2).setCell ⟨w.heap.size, 3, none⟩ u3).setCell ⟨w.heap.size, 4, none⟩ u4) := by
 have hge : ∀ o, w.heap.size ≤ (⟨w.heap.size, o, none⟩ : Addr).block := fun _ => Nat.le_refl _
 exact Zx (Zx (Zx (Zx (Zx gw2 (hge 0) u0) (hge 1) u1) (hge 2) u2) (hge 3) u3) (hge 4) u4
theorem Zp5 (S : Nat → Prop) (l : List Ent) (key ver : Int) (v : Value) (w : World) (hl : Ys S w v l) (hn : l.length ≤ 1000000) (h8 : ∀ x ∈ l, x.rc.data.length ≤ 8) :
  Calls Tryz.prog 155 #[v, .int .i64 key, .int .i64 ver] w fun r w' => ∃ v', r = .returned v' ∧ Zrn (Zs S w.heap.size) (Zbc l key ver) v' w' ∧ Zn w w' := by
 obtain ⟨ao, cp, rfl⟩ := hl.form;have g0 := Zb w Zbl;have hz0 := Zg w #[.int .i64 0, .int .i64 0, .int .i64 0, .slice none 0 0, .int .i64 0] 92;obtain ⟨Q, hQ⟩ : ∃ Q, Q = Zbc l key ver := ⟨_, rfl⟩;rw [← hQ];have HQ0 : Hid _ := hQ;clear hQ;go_enter Tryz.func155, Tryz.ntmps155;go_wp2_with fail;generalize World.alloc w _ = W at *;go_loopw [12] (fun i wr => ∃ k : Nat, k ≤ l.length ∧ i = .int .i64 k ∧ (∀ x ∈ l.take k, ¬ (x.rc.key = key ∧ x.rc.ver = ver)) ∧ Zn w wr ∧ wr.heap[w.heap.size]? = some Zbl) (fun i _ => l.length - (intOf i).toNat)
 case atStart => exact ⟨0, Nat.zero_le _, rfl, fun x hx => by simp at hx, g0, hz0⟩
 case round =>
  clear g0 hz0;obtain ⟨k, hk, rfl, hno, hg, hz⟩ := hrel;by_cases hlt : k < l.length
  ·obtain ⟨b, off, a1, c1, hv1, q0, q1, q2, q3, q4, hu⟩ := Jb (hl.grow hg) k hlt;cases hv1;have HM : Hid (l[k].rc.data.length ≤ 8) := h8 _ (List.getElem_mem hlt);have HH : Hid (l[k].rc.key = key ∧ l[k].rc.ver = ver → Q = some l[k]) := fun h => by rw [HQ0.out]; exact Zqy hlt hno h
   have HD : Hid (¬ (l[k].rc.key = key ∧ l[k].rc.ver = ver) → ∀ x ∈ l.take (k + 1), ¬ (x.rc.key = key ∧ x.rc.ver = ver)) := fun h x hx => (Zcn hlt hx).elim (fun h2 => hno x h2) (fun e => by rw [e]; exact h)
   generalize l[k] = x at *;have g1 := Zb wr (.cells #[.int .i64 x.rc.kind, .int .i64 x.rc.key, .int .i64 x.rc.ver, .slice a1 x.rc.data.length c1, .int .i64 x.pair] 92);have hX1 := Zg wr #[.int .i64 x.rc.kind, .int .i64 x.rc.key, .int .i64 x.rc.ver, .slice a1 x.rc.data.length c1, .int .i64 x.pair] 92;have gw1 := hg.trans g1;have hz1 := (g1.block _ (Za hz)).trans hz;have hu1 := hu.grow g1;obtain ⟨x0, x1, x2, x3, x4⟩ := Qh hX1 rfl rfl rfl rfl rfl;have HSZ : Hid (w.heap.size + 1 ≤ wr.heap.size + 1) := Nat.succ_le_succ (hg.size);clear hno g1 hX1 hz hg hu;by_cases hkk : x.rc.key = key
   ·have d0 : (x.rc.key == key) = true := by simp [hkk]
    by_cases hvv : x.rc.ver = ver
    ·have HQ : Hid (Q = some x) := HH.out ⟨hkk, hvv⟩;have d1 : (x.rc.ver == ver) = true := by simp [hvv]
     clear hkk hvv HH HD;go_wp2_with fail;refine (Zgj x a1 c1 _ (by have := HM.out; omega) hu1.p).mono ?_;rintro r w2 ⟨v2, rfl, ⟨a2, c2, rfl, ho2⟩, g2⟩;have hz2 := (g2.block _ (Za hz1)).trans hz1;have gw2 := gw1.trans g2;have HO : Hid (w2.ownsRow (w.heap.size + 1) 5 1 (.slice a2 x.rc.data.length c2) x.rc.data.length (x.rc.data.map bv)) := Yk ho2 (by rw [World.size_alloc]; exact HSZ.out);clear q0 q1 q2 q3 q4 x0 x1 x2 x3 x4 hu1 ho2 g2 hz1 gw1;obtain ⟨z0, z1, z2, z3, z4⟩ := Qh hz2 rfl rfl rfl rfl rfl;obtain ⟨f0, f1, f2, f3⟩ := Yr hz2;have f4 := Zi hz2 4;have cs := Zr;have hE := Zxx (S := S) HO.out gw2 (.int .i64 x.rc.kind) (.int .i64 x.rc.key) (.int .i64 x.rc.ver) (.slice a2 x.rc.data.length c2) (.int .i64 x.pair);rw [← HQ.out] at hE;have HE : Hid _ := hE;clear hE gw2 HO;clear hz2;go_wp2_with fail;exact bodyPost_ret (v := .tuple #[.agg #[.int .i64 x.rc.kind, .int .i64 x.rc.key, .int .i64 x.rc.ver, .slice a2 x.rc.data.length c2, .int .i64 x.pair], .bool true]) (by simp [results, Tryz.results155, go_sem, cs, z0, z1, z2, z3, z4]) rfl ⟨_, rfl, HE.out.1, HE.out.2⟩
    ·have HD2 := HD.out (fun h => hvv h.2);have d1 : (x.rc.ver == ver) = false := by simp [hvv]
     have HDD : Hid _ := HD2;clear hkk hvv HH HD HD2 hu1;go_wp2_with fail;go_roundw
     case rel => exact ⟨k + 1, by omega, by go_num, HDD.out, gw1, hz1⟩
     case measure => simp [intOf]; omega
   ·have HD2 := HD.out (fun h => hkk h.1);have d0 : (x.rc.key == key) = false := by simp [hkk]
    have HDD : Hid _ := HD2;clear hkk HH HD HD2 hu1;go_wp2_with fail;go_roundw
    case rel => exact ⟨k + 1, by omega, by go_num, HDD.out, gw1, hz1⟩
    case measure => simp [intOf]; omega
  ·have HQ : Hid (Q = none) := by
    show Q = _;rw [HQ0.out];rw [List.take_of_length_le (by omega)] at hno;exact Zqx hno
   have hz2 := hz;obtain ⟨z0, z1, z2, z3, z4⟩ := Qh hz2 rfl rfl rfl rfl rfl;obtain ⟨f0, f1, f2, f3⟩ := Yr hz2;have f4 := Zi hz2 4;have cs := Zr;have HE : Hid _ := Zyh hg (.int .i64 0) (.int .i64 0) (.int .i64 0) (.slice none 0 0) (.int .i64 0);have HN : Hid (Zrn (Zs S w.heap.size) Q (.tuple #[.agg #[.int .i64 0, .int .i64 0, .int .i64 0, .slice none 0 0, .int .i64 0], .bool false]) (((((wr.setCell ⟨w.heap.size, 0, none⟩ (.int .i64 0)).setCell ⟨w.heap.size, 1, none⟩ (.int .i64 0)).setCell ⟨w.heap.size, 2, none⟩ (.int .i64 0)).setCell ⟨w.heap.size, 3, none⟩ (.slice none 0 0)).setCell ⟨w.heap.size, 4, none⟩ (.int .i64 0))) := by rw [HQ.out]; exact Zq1 _ _
   clear hz2 hz hno hg;go_wp2_with fail;exact bodyPost_ret (v := .tuple #[.agg #[.int .i64 0, .int .i64 0, .int .i64 0, .slice none 0 0, .int .i64 0], .bool false]) (by simp [results, Tryz.results155, go_sem, cs, z0, z1, z2, z3, z4]) rfl ⟨_, rfl, HN.out, HE.out⟩
theorem Zqt : (Tryz.prog.info? 4).map (fun i => (i.zero, i.size, i.bytes)) = some (some (.bool false), 1, 1) := by kernel_rfl
theorem Zqj (w : World) (n : Nat) (hn : n ≤ 1000000) : (Instr.makeSlice 189 (.int .i64 (n : Int)) (.int .i64 (n : Int))).run Tryz.prog w = .ok (.slice (some ⟨w.heap.size, 0, none⟩) n n) (w.alloc (.cells (Array.replicate n (.bool false)) 4)) := by
 obtain ⟨i0, hif, hz0, hz1, hz2⟩ := info_parts Zqt;have h := run_make (P := Tryz.prog) w 189 4 i0 (.bool false) Tryz.underlying189 hif hz0 .i64 .i64 n n (by omega) (by omega) (by rw [hz2]; omega) (by omega);rw [h, hz1];have e : madeCells (Value.bool false).cells ((n : Int).toNat * 1) = Array.replicate n (Value.bool false) := by
  have h2 := toList_madeCells_one (.bool false) n;rw [Int.toNat_natCast, Nat.mul_one, ← List.toArray_replicate, ← h2];rfl
 rw [e, Int.toNat_natCast]
def Zay (g : Nat) (bs : List Bool) (w : World) : Prop := w.heap[g]? = some (.cells (bs.map Value.bool).toArray 4 (0, 0))
theorem Zay.cell (h : Zay g bs w) (i : Nat) (hi : i < bs.length) : w.cell? ⟨g, i, none⟩ = some (.bool bs[i]) := Zc h i _ (by simp [hi])
theorem Zay.set (h : Zay g bs w) (i : Nat) (b : Bool) : Zay g (bs.set i b) (w.setCell ⟨g, i, none⟩ (.bool b)) := by
 have := Ye h i (.bool b);unfold Zay;rw [this];simp [List.map_set]
theorem Zay.grow {w' : World} (h : Zay g bs w) (hg : Zn w w') : Zay g bs w' := (hg.block _ (Za h)).trans h
def Zyb (bs : List Bool) (r : Int) : Prop := (∃ k : Nat, k < bs.length ∧ r = (k : Int) ∧ bs[k]? = some false ∧ ∀ j, j < k → bs[j]? = some true) ∨ (r = -1 ∧ ∀ j, j < bs.length → bs[j]? = some true)
theorem Znm (bs : List Bool) (g cap : Nat) (w : World) (hn : bs.length ≤ 1000000) (hr : Zay g bs w) :
  Calls Tryz.prog 176 #[.slice (some ⟨g, 0, none⟩) bs.length cap, .bool false] w fun e w' => ∃ r, e = .returned (.int .i64 r) ∧ Zyb bs r ∧ Zn w w' := by
 go_enter Tryz.func176, Tryz.ntmps176;go_wp2_with fail;go_loopw [8] (fun i wr => ∃ k : Nat, k ≤ bs.length ∧ i = .int .i64 k ∧ (∀ j, j < k → bs[j]? = some true) ∧ Zn w wr) (fun i _ => bs.length - (intOf i).toNat)
 case atStart => exact ⟨0, Nat.zero_le _, rfl, fun j hj => by omega, Zn.refl _⟩
 case round =>
  obtain ⟨k, hk, rfl, hall, hg⟩ := hrel;have HA : Hid (∀ j, j < k → bs[j]? = some true) := hall;clear hall;by_cases hlt : k < bs.length
  ·have q0 := (hr.grow hg).cell k hlt;have HB : Hid (bs[k]? = some bs[k]) := List.getElem?_eq_getElem hlt;generalize bs[k] = x at *;cases x with
   | false =>
    go_wp2_with fail;go_ret;exact ⟨_, rfl, .inl ⟨k, hlt, rfl, HB.out, HA.out⟩, hg⟩
   | true =>
    go_wp2_with fail;go_roundw
    case rel =>
     refine ⟨k + 1, by omega, by go_num, fun j hj => ?_, hg⟩;rcases Nat.lt_succ_iff_lt_or_eq.1 hj with h | rfl
     ·exact HA.out j h
     ·exact HB.out
    case measure => simp [intOf]; omega
  ·go_wp2_with fail;go_ret;exact ⟨_, rfl, .inr ⟨rfl, fun j hj => HA.out j (by omega)⟩, hg⟩
def Zbh (l : List Ent) (k : Nat) (bs : List Bool) : Prop := bs.length = l.length ∧ ∀ (j : Nat) (b : Bool), bs[j]? = some b → (b = true ↔ ∃ x ∈ l.take k, x.pair = (j : Int))
theorem Zjq (l : List Ent) : Zbh l 0 (List.replicate l.length false) := by
 refine ⟨by simp, fun j b h => ?_⟩;have : b = false := by
  obtain ⟨h1, rfl⟩ := List.getElem?_eq_some_iff.1 h;simp
 subst this;simp
theorem Zjs (hk : k < l.length) (j : Int) : (∃ x ∈ l.take (k + 1), x.pair = j) ↔ (∃ x ∈ l.take k, x.pair = j) ∨ l[k].pair = j := by
 constructor
 ·rintro ⟨x, hx, hj⟩;rcases Zcn hk hx with h | rfl
  ·exact .inl ⟨x, h, hj⟩
  ·exact .inr hj
 ·rintro (⟨x, hx, hj⟩ | h)
  ·exact ⟨x, by rw [List.take_succ_eq_append_getElem hk]; exact List.mem_append_left _ hx, hj⟩
  ·exact ⟨l[k], by rw [List.take_succ_eq_append_getElem hk]; exact List.mem_append_right _ (List.mem_singleton.2 rfl), h⟩
theorem Zl4 (h : Zbh l k bs) (hk : k < l.length) {p : Nat} (hp : l[k].pair = (p : Int)) (hge : l.length ≤ p) : Zbh l (k + 1) bs := by
 refine ⟨h.1, fun j b hj => ?_⟩;have hlt : j < l.length := by rw [← h.1]; exact (List.getElem?_eq_some_iff.1 hj).1
 rw [h.2 j b hj, Zjs hk, hp];constructor
 ·exact .inl
 ·rintro (h | h)
  ·exact h
  ·omega
theorem Zpg (h : Zbh l k bs) (hk : k < l.length) {p : Nat} (hp : l[k].pair = (p : Int)) : Zbh l (k + 1) (bs.set p true) := by
 refine ⟨by rw [List.length_set]; exact h.1, fun j b hj => ?_⟩;rw [Zjs hk, hp];by_cases e : p = j
 ·subst e;rw [List.getElem?_set_self (by have := (List.getElem?_eq_some_iff.1 hj).1; simpa using this)] at hj;cases hj;simp
 ·rw [List.getElem?_set_ne e] at hj;rw [h.2 j b hj];constructor
  ·exact .inl
  ·rintro (h | h)
   ·exact h
   ·omega
theorem Zjr (h : Zbh l l.length bs) (hf : bs[k]? = some false) (hall : ∀ j, j < k → bs[j]? = some true) : Jp l k := by
 have ht : l.take l.length = l := List.take_length;refine ⟨fun n hn => ?_, fun x hx hp => ?_⟩
 ·have := (h.2 n true (hall n hn)).1 rfl;rw [ht] at this; exact this
 ·have := (h.2 k false hf).2 ⟨x, by rw [ht]; exact hx, hp⟩;cases this
theorem Zl5 (h : Zbh l l.length bs) (hall : ∀ j, j < bs.length → bs[j]? = some true) : Jp l l.length := by
 refine Zto (fun n hn => ?_) (.inl rfl);have := (h.2 n true (hall n (by rw [h.1]; exact hn))).1 rfl;rw [List.take_length] at this; exact this
theorem Zp4 (S : Nat → Prop) (l : List Ent) (pairs : Int) (v : Value) (w : World) (hl : Ys S w v l) (hn : l.length ≤ 1000000) (hp0 : ∀ x ∈ l, 0 ≤ x.pair) :
  Calls Tryz.prog 156 #[v, .int .i64 pairs] w fun r w' => ∃ n, r = .returned (.int .i64 n) ∧ Zob l pairs n ∧ Zn w w' := by
 obtain ⟨ao, cp, rfl⟩ := hl.form;have mk := fun w => Zqj w l.length hn
 have g0 := Zb w (.cells (Array.replicate l.length (.bool false)) 4);have hB0 : Zay w.heap.size (List.replicate l.length false) (w.alloc (.cells (Array.replicate l.length (.bool false)) 4)) := by
  have h := Zg w (Array.replicate l.length (.bool false)) 4;unfold Zay;rw [h];simp
 go_enter Tryz.func156, Tryz.ntmps156;go_wp2_with fail;clear mk;generalize World.alloc w _ = W at *;go_loopw [14] (fun i wr => ∃ (k : Nat) (bs : List Bool), k ≤ l.length ∧ i = .int .i64 k ∧ Zbh l k bs ∧ Zay w.heap.size bs wr ∧ Zn w wr) (fun i _ => l.length - (intOf i).toNat)
 case atStart => exact ⟨0, _, Nat.zero_le _, rfl, Zjq l, hB0, g0⟩
 case round =>
  clear g0 hB0;obtain ⟨k, bs, hk, rfl, hT, hB, hg⟩ := hrel;have HT : Hid (Zbh l k bs) := hT;clear hT;by_cases hlt : k < l.length
  ·obtain ⟨b, off, a1, c1, hv1, q0, q1, q2, q3, q4, hu⟩ := Jb (hl.grow hg) k hlt;cases hv1;obtain ⟨p, hp⟩ : ∃ p : Nat, l[k].pair = (p : Int) := ⟨l[k].pair.toNat, by have := hp0 _ (List.getElem_mem hlt); omega⟩;have HP : Hid (l[k].pair = (p : Int)) := hp;rw [hp] at q4;have g1 := Zb wr (.cells #[.int .i64 l[k].rc.kind, .int .i64 l[k].rc.key, .int .i64 l[k].rc.ver, .slice a1 l[k].rc.data.length c1, .int .i64 (p : Int)] 92);have hX1 := Zg wr #[.int .i64 l[k].rc.kind, .int .i64 l[k].rc.key, .int .i64 l[k].rc.ver, .slice a1 l[k].rc.data.length c1, .int .i64 (p : Int)] 92;have x4 := Zc hX1 4 _ rfl;have hB1 := hB.grow g1;have gw1 := hg.trans g1;have d0 : (0 : Int) ≤ (p : Int) := by omega
   clear hX1 hB hg g1 hu hp;by_cases hpn : p < l.length
   ·have HS : Hid (Zbh l (k + 1) (bs.set p true)) := Zpg HT.out hlt HP.out;have hpb : p < bs.length := by rw [HT.out.1]; exact hpn
    have y0 := hB1.cell p hpb;have f0 := Zi hB1 p;have cs := Zr;have HB2 : Hid _ := hB1.set p true;have HG : Hid _ := Zx gw1 (a := ⟨w.heap.size, p, none⟩) (Nat.le_refl _) (.bool true);have d1 : (p : Int) < (l.length : Int) := by omega
    generalize bs[p] = y at *;clear HT HP hB1 gw1 hpb;go_wp2_with fail;go_roundw
    case rel => exact ⟨k + 1, _, by omega, by go_num, HS.out, HB2.out, HG.out⟩
    case measure => simp [intOf]; omega
   ·have HS : Hid (Zbh l (k + 1) bs) := Zl4 HT.out hlt HP.out (by omega);have d1 : ¬ ((p : Int) < (l.length : Int)) := by omega
    clear HT HP;go_wp2_with fail;go_roundw
    case rel => exact ⟨k + 1, _, by omega, by go_num, HS.out, hB1, gw1⟩
    case measure => simp [intOf]; omega
  ·have HT2 : Hid (Zbh l l.length bs) := by
    have h := HT.out;rw [show k = l.length from by omega] at h;exact h
   have HLN : Hid (bs.length = l.length) := HT.out.1;have hbn : bs.length ≤ 1000000 := by rw [HT.out.1]; exact hn
   clear HT;go_wp2_with fail;have hix := Znm bs w.heap.size l.length wr hbn hB;rw [HLN.out] at hix;refine hix.mono ?_;rintro r w2 ⟨R, rfl, hF, g2⟩;have gE := hg.trans g2;clear hix g2 hg hB;rcases hF with ⟨F, hF1, rfl, hF2, hF3⟩ | ⟨rfl, hF3⟩
   ·have HL : Hid (Jp l F) := Zjr HT2.out hF2 hF3;have d0 : ¬ ((F : Int) < 0) := by omega
    clear HT2 hF1 hF2 hF3;by_cases hge : pairs ≤ (F : Int)
    ·have d1 : (F : Int) ≥ pairs := hge;go_wp2_with fail;go_ret;exact ⟨-1, rfl, ⟨F, HL.out, .inr ⟨hge, rfl⟩⟩, gE⟩
    ·have d1 : ¬ ((F : Int) ≥ pairs) := hge;go_wp2_with fail;go_ret;exact ⟨_, rfl, ⟨F, HL.out, .inl ⟨by omega, rfl⟩⟩, gE⟩
   ·obtain ⟨F, hF⟩ : ∃ F, F = l.length := ⟨_, rfl⟩;have HL : Hid (Jp l F) := by show Jp l F; rw [hF]; exact Zl5 HT2.out hF3
    rw [← hF];clear HT2 hF3 hF;by_cases hge : pairs ≤ (F : Int)
    ·have d1 : (F : Int) ≥ pairs := hge;go_wp2_with fail;go_ret;exact ⟨-1, rfl, ⟨F, HL.out, .inr ⟨hge, rfl⟩⟩, gE⟩
    ·have d1 : ¬ ((F : Int) ≥ pairs) := hge;go_wp2_with fail;go_ret;exact ⟨_, rfl, ⟨F, HL.out, .inl ⟨by omega, rfl⟩⟩, gE⟩
end Go.Proofs.YtpdnapbchcdhlacGreat
