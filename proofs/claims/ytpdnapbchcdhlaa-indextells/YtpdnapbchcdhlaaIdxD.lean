import Derived.Test.YtpdnapbchcdhlaaIdxB
set_option maxHeartbeats 8000000
namespace Go.Proofs.Ytpdnapbchcdhlaa
set_option maxRecDepth 100000
open Go.RowKit
open Plain Reg
variable {B g : Nat} {w : World} {xs : List Ent}
theorem Zij (S0 : Nat → Prop) (n : Nat) (w : World) (h0 : 0 < n) (hn : n ≤ 100000000) :
  Calls Try.prog 106 #[.slice none 0 0, .int .i64 (n : Int)] w fun e w' => ∃ v', e = .returned v' ∧ Yo Yc S0 w.heap.size v' [] [] w' ∧ Zm w w' := by
 obtain ⟨i0, hif, hz0, hz1, hz2⟩ := info_parts Vh;have hrun := fun ty => Lib.run_append_nil_zeros (P := Try.prog) w 69 3 ty 71 i0 (.agg #[.int .i64 0, .int .i64 0, .int .i64 0, .slice none 0 0, .int .i64 0]) .i64 .i64 Try.underlying69 Try.underlying3 hif hz0 n h0 (by rw [hz1]; decide) (by omega) (by rw [hz2]; omega)
 have hge := grownCap_ge w n 0 71;have hcm := grownCap_le_maxLen w n 0 71 (by unfold maxLen; omega);generalize grownCap w n 0 71 = cap at *;have hR : Yo Yc S0 w.heap.size (.slice (some ⟨w.heap.size, 0, none⟩) 0 cap) [] [] (w.drew.alloc (.cells (Builtin.zeroCells (Value.agg #[.int .i64 0, .int .i64 0, .int .i64 0, .slice none 0 0, .int .i64 0]).cells n ++ Builtin.zeroCells (Value.agg #[.int .i64 0, .int .i64 0, .int .i64 0, .slice none 0 0, .int .i64 0]).cells (cap - n)) 71)) := by
  refine Yo.made ⟨rfl, .inr ⟨w.heap.size, cap, _, rfl, Nat.le_refl _, heap_alloc_new w.drew _, Nat.zero_le _, hcm, ?_, by simp⟩⟩;have h5 : (Value.agg #[.int .i64 0, .int .i64 0, .int .i64 0, .slice none 0 0, .int .i64 0]).cells.size = 5 := by decide
  rw [Array.size_append, size_zeroCells, size_zeroCells, h5, ← Nat.add_mul, show n + (cap - n) = cap from by omega];rfl
 have gE : Zm w (w.drew.alloc (.cells (Builtin.zeroCells (Value.agg #[.int .i64 0, .int .i64 0, .int .i64 0, .slice none 0 0, .int .i64 0]).cells n ++ Builtin.zeroCells (Value.agg #[.int .i64 0, .int .i64 0, .int .i64 0, .slice none 0 0, .int .i64 0]).cells (cap - n)) 71)) := (Zm.refl w).drew.trans (Zh _ _);generalize World.alloc w.drew _ = W at *;have d0 : ¬ ((n : Int) < 0) := by omega
 have d1 : (0 : Int) < (n : Int) := by omega
 go_enter Try.func106, Try.ntmps106;go_wp2_with (at_builtin; refine Lib.wpList_append_run _ rfl _ _ _ _ rfl _ _ rfl rfl _ _ (hrun _) ?_);go_ret;exact ⟨_, rfl, hR, gE⟩
theorem Zbg {xss : List (List Ent)} {k : Nat} (h : k < xss.length) : (xss.take (k + 1)).flatten = (xss.take k).flatten ++ xss[k] := by
 rw [List.take_succ_eq_append_getElem h, List.flatten_append]; simp
theorem K5 : ∀ (xss : List (List Ent)), (∀ xs ∈ xss, xs.length ≤ 1000000) → xss.flatten.length ≤ xss.length * 1000000
 | [], _ => by simp
 | xs :: xss, h => by
  have h1 := K5 xss fun xs hx => h xs (by simp [hx])
  have h2 := h xs (by simp);rw [List.flatten_cons, List.length_append, List.length_cons, Nat.add_mul]; omega
theorem Zer (S0 : Nat → Prop) (xss : List (List Ent)) (vs : List Value) (g cap : Nat) (w : World) (hS0 : ∀ b, S0 b → b < w.heap.size) (hlen : vs.length = xss.length) (h10 : xss.length ≤ 10) (hm : ∀ xs ∈ xss, xs.length ≤ 1000000) (hpos : 0 < xss.flatten.length)
  (hc : ∀ (j : Nat) (h : j < vs.length), w.cell? ⟨g, j, none⟩ = some vs[j]) (hs : ∀ (j : Nat) (h1 : j < vs.length) (h2 : j < xss.length), Yl S0 w vs[j] xss[j]) :
  Calls Try.prog 99 #[.slice (some ⟨g, 0, none⟩) xss.length cap] w fun e w' => ∃ v' css, e = .returned v' ∧ Yo Yc S0 w.heap.size v' xss.flatten css w' ∧ Zm w w' := by
 obtain ⟨i0, hif, hz0, hz1, hz2⟩ := info_parts Vh;obtain ⟨F, hF⟩ : ∃ F, F = xss.flatten := ⟨_, rfl⟩;rw [← hF] at hpos ⊢;have HF : Hid _ := hF;have hFl : F.length ≤ 10000000 := by
  have h1 := K5 xss hm;rw [← hF] at h1;omega
 have HC : Hid (∀ (j : Nat) (h : j < vs.length), w.cell? ⟨g, j, none⟩ = some vs[j]) := hc;have HS : Hid (∀ (j : Nat) (h1 : j < vs.length) (h2 : j < xss.length), Yl S0 w vs[j] xss[j]) := hs;clear hF hc hs;go_enter Try.func99, Try.ntmps99;go_wp2_with fail;go_loopw [3, 11] (fun sz i wr => ∃ k : Nat, k ≤ xss.length ∧ i = .int .i64 k ∧ sz = .int .i64 (((xss.take k).flatten.length : Nat) : Int) ∧ w = wr) (fun _ i _ => xss.length - (intOf i).toNat)
 case atStart => exact ⟨0, Nat.zero_le _, rfl, rfl, rfl⟩
 case round =>
  obtain ⟨k, hk, rfl, rfl, hww⟩ := hrel;subst hww;by_cases hlt : k < xss.length
  ·have hkv : k < vs.length := by omega
   have q0 := HC.out k hkv;obtain ⟨ao, cp, hv⟩ := (HS.out k hkv hlt).form;rw [hv] at q0;have HT : Hid ((xss.take (k + 1)).flatten.length = (xss.take k).flatten.length + xss[k].length) := by show _ = _; rw [Zbg hlt, List.length_append]
   have h1 : xss[k].length ≤ 1000000 := hm _ (List.getElem_mem hlt);have h2 : (xss.take k).flatten.length ≤ 10000000 := by
    have h1 := K5 (xss.take k) fun xs hx => hm xs (List.mem_of_mem_take hx)
    rw [List.length_take] at h1;omega
   generalize xss[k].length = n1 at *;generalize (xss.take k).flatten.length = n2 at *;have d1 : ¬ ((n2 : Int) + (n1 : Int) < 0) := by omega
   clear hv;go_wp2_with fail;go_roundw
   case rel => exact ⟨k + 1, by omega, by go_num, by rw [HT.out]; go_num, trivial⟩
   case measure => simp [intOf]; omega
  ·have HE : Hid ((xss.take k).flatten = F) := by show _ = _; rw [HF.out, List.take_of_length_le (by omega)]
   rw [HE.out];go_wp2_with fail;refine (Zij S0 F.length w hpos (by omega)).mono ?_;rintro e w1 ⟨v1, rfl, hR1, g1⟩;obtain ⟨a1, c1, rfl⟩ := hR1.form;clear HE;go_wp2_with fail;go_loopw [6, 27] (fun o i wr2 => ∃ (k : Nat) (css : List (List Value)), k ≤ xss.length ∧ i = .int .i64 k ∧ Yo Yc S0 w.heap.size o ((xss.take k).flatten) css wr2 ∧ Zm w wr2) (fun _ i _ => xss.length - (intOf i).toNat)
   case atStart => exact ⟨0, [], Nat.zero_le _, rfl, hR1, g1⟩
   case round =>
    clear hR1 g1;obtain ⟨k2, css, hk2, rfl, hR, hg⟩ := hrel;by_cases hlt2 : k2 < xss.length
    ·have hkv : k2 < vs.length := by omega
     have q0 := (Below.cell hg (Zn (HC.out k2 hkv))).trans (HC.out k2 hkv);have hsl := (HS.out k2 hkv hlt2).grow hg;obtain ⟨ao, cp, hv⟩ := hsl.form;rw [hv] at q0 hsl;have HT : Hid ((xss.take (k2 + 1)).flatten = (xss.take k2).flatten ++ xss[k2]) := Zbg hlt2;have h1 : xss[k2].length ≤ 1000000 := hm _ (List.getElem_mem hlt2);have h2 : (xss.take k2).flatten.length ≤ 10000000 := by
      have h1 := K5 (xss.take k2) fun xs hx => hm xs (List.mem_of_mem_take hx)
      rw [List.length_take] at h1;omega
     generalize xss[k2] = ys at *;generalize (xss.take k2).flatten = xs at *;obtain ⟨a2, c2, rfl⟩ := hR.form;obtain ⟨v3, w3, css3, hrun, hR3, hgb⟩ := Yo.app (ty := 69) Try.underlying69 hif hz0 hz1 hz2 (by decide) (by decide) (by decide) hS0 hR hsl (fun b h => .inl h) (by unfold maxLen; omega) (by omega) hg.size;have g3 : Zm w w3 := Z1 hg hgb (fun k hk => (hR.row.lt k hk).1);obtain ⟨a3, c3, rfl⟩ := hR3.form;rw [List.length_append] at hR3 hrun;clear hv hR hgb hsl hg;go_wp2_with (at_builtin; refine Lib.wpList_append_run _ rfl _ _ _ _ rfl _ _ rfl rfl _ _ hrun ?_);go_roundw
     case rel => exact ⟨k2 + 1, _, by omega, by go_num, by rw [HT.out]; exact hR3, g3⟩
     case measure => simp [intOf]; omega
    ·have HE : Hid ((xss.take k2).flatten = F) := by show _ = _; rw [HF.out, List.take_of_length_le (by omega)]
     rw [HE.out] at hR;obtain ⟨a2, c2, rfl⟩ := hR.form;go_wp2_with fail;go_ret;exact ⟨_, _, rfl, hR, hg⟩
theorem Zd2 {S : Nat → Prop} {e : Ent} {a : Option Addr} {c : Nat} (hS : S g) (hg : w.heap[g]? = some (.cells #[.int .i64 e.rc.kind, .int .i64 e.rc.key, .int .i64 e.rc.ver, .slice a e.rc.data.length c, .int .i64 e.pair] 71 (0, 0))) (hb : Z4 S w (.slice a e.rc.data.length c) e.rc.data) : Yl S w (.slice (some ⟨g, 0, none⟩) 1 1) [e] := by
 refine .inr ⟨g, 0, 1, hS, rfl, Nat.le_refl _, fun i hi => ?_⟩;obtain rfl : i = 0 := by simpa using hi
 refine ⟨[.int .i64 e.rc.kind, .int .i64 e.rc.key, .int .i64 e.rc.ver, .slice a e.rc.data.length c, .int .i64 e.pair], ⟨_, rfl, hb⟩, fun j u hj => ?_⟩;rw [Nat.zero_mul, Nat.zero_add];refine Zk hg j u ?_;simpa using hj
structure Ziw (B : Nat) (xs ys zs : List Ent) (v1 v2 v3 : Value) (g : Nat) (w : World) : Prop where
 row : w.heap[g]? = some (.cells #[v1, v2, v3] 69 (0, 0))
 one : Yl (fun b => B ≤ b) w v1 xs
 two : Yl (fun b => B ≤ b) w v2 ys
 three : Yl (fun b => B ≤ b) w v3 zs
theorem Zb2 {ys zs : List Ent} {v1 v2 v3 : Value} (h : Ziw B xs ys zs v1 v2 v3 g w) (hB : B ≤ w.heap.size) (h1 : xs.length ≤ 1000000) (h2 : ys.length ≤ 1000000) (h3 : zs.length ≤ 1000000) (hp : 0 < ys.length) :
  Calls Try.prog 99 #[.slice (some ⟨g, 0, none⟩) 3 3] w fun e w' => ∃ v', e = .returned v' ∧ Yl (fun b => B ≤ b) w' v' (xs ++ ys ++ zs) ∧ Zm w w' := by
 have hcap : ∀ {v : Value} {l : List Ent}, Yl (fun b => B ≤ b) w v l → Yl (fun b => B ≤ b ∧ b < w.heap.size) w v l := fun h => Z5.caps h (by decide)
 refine (Zer (fun b => B ≤ b ∧ b < w.heap.size) [xs, ys, zs] [v1, v2, v3] g 3 w (fun b h => h.2) rfl (by simp) ?_ (by simp; omega) ?_ ?_).mono ?_
 ·intro l hl;simp only [List.mem_cons, List.not_mem_nil, or_false] at hl;rcases hl with rfl | rfl | rfl <;> assumption
 ·intro j hj
  match j, hj with
  | 0, _ => exact Zk h.row 0 _ rfl
  | 1, _ => exact Zk h.row 1 _ rfl
  | 2, _ => exact Zk h.row 2 _ rfl
 ·intro j hj _
  match j, hj with
  | 0, _ => exact hcap h.one
  | 1, _ => exact hcap h.two
  | 2, _ => exact hcap h.three
 ·rintro e w' ⟨v', css, rfl, hR, hg⟩;refine ⟨v', rfl, ?_, hg⟩;have := (Yo.slice hR).mono (S' := fun b => B ≤ b) fun b hb => hb.elim (fun x => x.1) (fun x => by omega)
  simpa using this
theorem Yo.from {v : Value} {css : List (List Value)} (h : Yo Yc NoS B v xs css w) : Yl (fun b => B ≤ b) w v xs := h.slice.mono fun _ h => h.elim (fun x => x.elim) (fun x => x)
theorem Zh0 (S : Nat → Prop) (l : List Ent) (e : Ent) (a : Option Addr) (c : Nat) (v : Value) (w : World) (hl : Yl S w v l) (hn : l.length ≤ 1000000) (h8 : ∀ x ∈ l, x.rc.data.length ≤ 8) (he8 : e.rc.data.length ≤ 8) (hne : ∀ x ∈ l, x.pair ≠ e.pair) (hb : Z4 S w (.slice a e.rc.data.length c) e.rc.data) :
  Calls Try.prog 67 #[v, .agg #[.int .i64 e.rc.kind, .int .i64 e.rc.key, .int .i64 e.rc.ver, .slice a e.rc.data.length c, .int .i64 e.pair]] w fun r w' => ∃ v', r = .returned v' ∧ Yl (fun b => w.heap.size ≤ b) w' v' ((l.filter fun x => Ya x e) ++ [e] ++ (l.filter fun x => Ya e x)) ∧ Zm w w' := by
 obtain ⟨ao, cp, rfl⟩ := hl.form;have g0 := Zh w (.cells #[.int .i64 e.rc.kind, .int .i64 e.rc.key, .int .i64 e.rc.ver, .slice a e.rc.data.length c, .int .i64 e.pair] 71);have hE0 := Zu w #[.int .i64 e.rc.kind, .int .i64 e.rc.key, .int .i64 e.rc.ver, .slice a e.rc.data.length c, .int .i64 e.pair] 71;have hf1 : (l.filter fun x => Ya x e).length ≤ 1000000 := Nat.le_trans (List.length_filter_le _ _) hn;have hf2 : (l.filter fun x => Ya e x).length ≤ 1000000 := Nat.le_trans (List.length_filter_le _ _) hn;obtain ⟨xs, hxs⟩ : ∃ xs, xs = l.filter fun x => Ya x e := ⟨_, rfl⟩
 obtain ⟨zs, hzs⟩ : ∃ zs, zs = l.filter fun x => Ya e x := ⟨_, rfl⟩
 rw [← hxs] at hf1 ⊢;rw [← hzs] at hf2 ⊢;have HX : Hid _ := hxs;have HZ : Hid _ := hzs;clear hxs hzs;go_enter Try.func67, Try.ntmps67;go_wp2_with fail;refine (Za4 96 #[.pointer (some ⟨w.heap.size, 0, none⟩)] S l _ _ Zdg (hl.grow g0) hn (fun x a' c' w' hx hg => Ziv x e a' a c' c _ w' (hne x hx) ((hg.block _ (Zg hE0)).trans hE0))).mono ?_;rintro r w1 ⟨rfl, g1⟩;have gw1 := g0.trans g1;have hE1 := (g1.block _ (Zg hE0)).trans hE0;clear g0 g1 hE0 hne;go_wp2_with fail;refine (Vq 97 #[.pointer (some ⟨w.heap.size, 0, none⟩)] (fun x => Ya x e) S l _ _ Zdf (hl.grow gw1) hn h8 (fun x a' c' w' _ hg => Ziu x e a' a c' c _ w' ((hg.block _ (Zg hE1)).trans hE1))).mono ?_;rw [← HX.out];rintro r w2 ⟨v2, css2, rfl, hR2, g2⟩;have gw2 := gw1.trans g2;have hE2 := (g2.block _ (Zg hE1)).trans hE1;have hL2 := (hR2.less gw1.size).from;clear g2 hE1 hR2 gw1;obtain ⟨a2, c2, rfl⟩ := hL2.form;go_wp2_with fail;refine (Vq 98 #[.pointer (some ⟨w.heap.size, 0, none⟩)] (fun x => Ya e x) S l _ _ Zde (hl.grow gw2) hn h8 (fun x a' c' w' _ hg => Zit x e a' a c' c _ w' ((hg.block _ (Zg hE2)).trans hE2))).mono ?_;rw [← HZ.out];rintro r w3 ⟨v3, css3, rfl, hR3, g3⟩;have gw3 := gw2.trans g3;have hE3 := (g3.block _ (Zg hE2)).trans hE2;have hL3 := (hR3.less gw2.size).from;have hL2' := hL2.grow g3;clear g3 hE2 hR3 gw2 hL2;obtain ⟨a3, c3, rfl⟩ := hL3.form;obtain ⟨x0, x1, x2, x3, x4⟩ := Qa hE3 rfl rfl rfl rfl rfl;go_wp2_with fail;refine (K0 e a c _ (by omega) (hb.grow gw3).p).mono ?_
 rintro r w4 ⟨v4, rfl, ⟨a4, c4, rfl, ho4⟩, g4⟩;have gw4 := gw3.trans g4;have g5 := Zh w4 (.cells #[.int .i64 e.rc.kind, .int .i64 e.rc.key, .int .i64 e.rc.ver, .slice a4 e.rc.data.length c4, .int .i64 e.pair] 71);have h5 := Zu w4 #[.int .i64 e.rc.kind, .int .i64 e.rc.key, .int .i64 e.rc.ver, .slice a4 e.rc.data.length c4, .int .i64 e.pair] 71;have s5 := World.size_alloc w4 (.cells #[.int .i64 e.rc.kind, .int .i64 e.rc.key, .int .i64 e.rc.ver, .slice a4 e.rc.data.length c4, .int .i64 e.pair] 71);have hT : Ziw w.heap.size xs [e] zs (.slice a2 xs.length c2) (.slice (some ⟨w4.heap.size, 0, none⟩) 1 1) (.slice a3 zs.length c3) (w4.heap.size + 1) ((w4.alloc (.cells #[.int .i64 e.rc.kind, .int .i64 e.rc.key, .int .i64 e.rc.ver, .slice a4 e.rc.data.length c4, .int .i64 e.pair] 71)).alloc (.cells #[.slice a2 xs.length c2, .slice (some ⟨w4.heap.size, 0, none⟩) 1 1, .slice a3 zs.length c3] 69)) := by
  have h6 := Zu (w4.alloc (.cells #[.int .i64 e.rc.kind, .int .i64 e.rc.key, .int .i64 e.rc.ver, .slice a4 e.rc.data.length c4, .int .i64 e.pair] 71)) #[.slice a2 xs.length c2, .slice (some ⟨w4.heap.size, 0, none⟩) 1 1, .slice a3 zs.length c3] 69;have g6 := Zh (w4.alloc (.cells #[.int .i64 e.rc.kind, .int .i64 e.rc.key, .int .i64 e.rc.ver, .slice a4 e.rc.data.length c4, .int .i64 e.pair] 71)) (.cells #[.slice a2 xs.length c2, .slice (some ⟨w4.heap.size, 0, none⟩) 1 1, .slice a3 zs.length c3] 69);rw [s5] at h6;have g46 := g5.trans g6;refine ⟨h6, (hL2'.grow g4).grow g46, Zd2 gw4.size ((g6.block _ (Zg h5)).trans h5) ?_, (hL3.grow g4).grow g46⟩;have hbo := (Zh1 (fun _ => False) (Z8 ho4 gw3.size)).grow g46;exact hbo.mono fun b h => h.elim (fun x => x.elim) (fun x => x)
 have gw6 := gw4.trans (Yb w4 (.cells #[.int .i64 e.rc.kind, .int .i64 e.rc.key, .int .i64 e.rc.ver, .slice a4 e.rc.data.length c4, .int .i64 e.pair] 71) (.cells #[.slice a2 xs.length c2, .slice (some ⟨w4.heap.size, 0, none⟩) 1 1, .slice a3 zs.length c3] 69));clear x0 x1 x2 x3 x4 hE3 g5 h5 s5 g4 gw3 gw4 ho4 hL2' hL3;go_wp2_with fail;refine (Zb2 hT gw6.size hf1 (by simp) hf2 (by simp)).mono ?_;rintro r w7 ⟨v7, rfl, hL7, g7⟩;have gE := gw6.trans g7;clear hT gw6 g7;go_wp2_with fail;go_ret;exact ⟨_, rfl, hL7, gE⟩
end Go.Proofs.Ytpdnapbchcdhlaa
