import Derived.Test.YtpdnapbchcdhladGreatDoorIdxA
set_option maxHeartbeats 8000000
namespace Go.Proofs.YtpdnapbchcdhladGreatDoor
set_option maxRecDepth 100000
open Go.RowKit
open Plain Reg
variable {B g : Nat} {w : World} {xs : List Ent}
theorem Zv6 (S0 : Nat → Prop) (n : Nat) (w : World) (h0 : 0 < n) (hn : n ≤ 100000000) :
  Calls Tryz.prog 176 #[.slice none 0 0, .int .i64 (n : Int)] w fun e w' => ∃ v', e = .returned v' ∧ Yo Ys S0 w.heap.size v' [] [] w' ∧ Zj w w' := by
 obtain ⟨i0, hif, hz0, hz1, hz2⟩ := info_parts Zdq;have hrun := fun ty => Lib.run_append_nil_zeros (P := Tryz.prog) w 28 3 ty 66 i0 (.agg #[.int .i64 0, .int .i64 0, .int .i64 0, .slice none 0 0, .int .i64 0]) .i64 .i64 Tryz.underlying28 Tryz.underlying3 hif hz0 n h0 (by rw [hz1]; decide) (by omega) (by rw [hz2]; omega)
 have hge := grownCap_ge w n 0 66;have hcm := grownCap_le_maxLen w n 0 66 (by unfold maxLen; omega);generalize grownCap w n 0 66 = cap at *;have hR : Yo Ys S0 w.heap.size (.slice (some ⟨w.heap.size, 0, none⟩) 0 cap) [] [] (w.drew.alloc (.cells (Builtin.zeroCells (Value.agg #[.int .i64 0, .int .i64 0, .int .i64 0, .slice none 0 0, .int .i64 0]).cells n ++ Builtin.zeroCells (Value.agg #[.int .i64 0, .int .i64 0, .int .i64 0, .slice none 0 0, .int .i64 0]).cells (cap - n)) 66)) := by
  refine Yo.made ⟨rfl, .inr ⟨w.heap.size, cap, _, rfl, Nat.le_refl _, heap_alloc_new w.drew _, Nat.zero_le _, hcm, ?_, by simp⟩⟩;have h5 : (Value.agg #[.int .i64 0, .int .i64 0, .int .i64 0, .slice none 0 0, .int .i64 0]).cells.size = 5 := by decide
  rw [Array.size_append, size_zeroCells, size_zeroCells, h5, ← Nat.add_mul, show n + (cap - n) = cap from by omega];rfl
 have gE : Zj w (w.drew.alloc (.cells (Builtin.zeroCells (Value.agg #[.int .i64 0, .int .i64 0, .int .i64 0, .slice none 0 0, .int .i64 0]).cells n ++ Builtin.zeroCells (Value.agg #[.int .i64 0, .int .i64 0, .int .i64 0, .slice none 0 0, .int .i64 0]).cells (cap - n)) 66)) := (Zj.refl w).drew.trans (Zd _ _);generalize World.alloc w.drew _ = W at *;have d0 : ¬ ((n : Int) < 0) := by omega
 have d1 : (0 : Int) < (n : Int) := by omega
 go_enter Tryz.func176, Tryz.ntmps176;go_wp2_with (at_builtin; refine Lib.wpList_append_run _ rfl _ _ _ _ rfl _ _ rfl rfl _ _ (hrun _) ?_);go_ret;exact ⟨_, rfl, hR, gE⟩
theorem Zix {xss : List (List Ent)} {k : Nat} (h : k < xss.length) : (xss.take (k + 1)).flatten = (xss.take k).flatten ++ xss[k] := by
 rw [List.take_succ_eq_append_getElem h, List.flatten_append]; simp
theorem Zdv : ∀ (xss : List (List Ent)), (∀ xs ∈ xss, xs.length ≤ 1000000) → xss.flatten.length ≤ xss.length * 1000000
 | [], _ => by simp
 | xs :: xss, h => by
  have h1 := Zdv xss fun xs hx => h xs (by simp [hx])
  have h2 := h xs (by simp);rw [List.flatten_cons, List.length_append, List.length_cons, Nat.add_mul]; omega
theorem Zo6 (S0 : Nat → Prop) (xss : List (List Ent)) (vs : List Value) (g cap : Nat) (w : World) (hS0 : ∀ b, S0 b → b < w.heap.size) (hlen : vs.length = xss.length) (h10 : xss.length ≤ 10) (hm : ∀ xs ∈ xss, xs.length ≤ 1000000) (hpos : 0 < xss.flatten.length)
  (hc : ∀ (j : Nat) (h : j < vs.length), w.cell? ⟨g, j, none⟩ = some vs[j]) (hs : ∀ (j : Nat) (h1 : j < vs.length) (h2 : j < xss.length), Yn S0 w vs[j] xss[j]) :
  Calls Tryz.prog 149 #[.slice (some ⟨g, 0, none⟩) xss.length cap] w fun e w' => ∃ v' css, e = .returned v' ∧ Yo Ys S0 w.heap.size v' xss.flatten css w' ∧ Zj w w' := by
 obtain ⟨i0, hif, hz0, hz1, hz2⟩ := info_parts Zdq;obtain ⟨F, hF⟩ : ∃ F, F = xss.flatten := ⟨_, rfl⟩;rw [← hF] at hpos ⊢;have HF : Hid _ := hF;have hFl : F.length ≤ 10000000 := by
  have h1 := Zdv xss hm;rw [← hF] at h1;omega
 have HC : Hid (∀ (j : Nat) (h : j < vs.length), w.cell? ⟨g, j, none⟩ = some vs[j]) := hc;have HS : Hid (∀ (j : Nat) (h1 : j < vs.length) (h2 : j < xss.length), Yn S0 w vs[j] xss[j]) := hs;clear hF hc hs;go_enter Tryz.func149, Tryz.ntmps149;go_wp2_with fail;go_loopw [3, 11] (fun sz i wr => ∃ k : Nat, k ≤ xss.length ∧ i = .int .i64 k ∧ sz = .int .i64 (((xss.take k).flatten.length : Nat) : Int) ∧ w = wr) (fun _ i _ => xss.length - (intOf i).toNat)
 case atStart => exact ⟨0, Nat.zero_le _, rfl, rfl, rfl⟩
 case round =>
  obtain ⟨k, hk, rfl, rfl, hww⟩ := hrel;subst hww;by_cases hlt : k < xss.length
  ·have hkv : k < vs.length := by omega
   have q0 := HC.out k hkv;obtain ⟨ao, cp, hv⟩ := (HS.out k hkv hlt).form;rw [hv] at q0;have HT : Hid ((xss.take (k + 1)).flatten.length = (xss.take k).flatten.length + xss[k].length) := by show _ = _; rw [Zix hlt, List.length_append]
   have h1 : xss[k].length ≤ 1000000 := hm _ (List.getElem_mem hlt);have h2 : (xss.take k).flatten.length ≤ 10000000 := by
    have h1 := Zdv (xss.take k) fun xs hx => hm xs (List.mem_of_mem_take hx)
    rw [List.length_take] at h1;omega
   generalize xss[k].length = n1 at *;generalize (xss.take k).flatten.length = n2 at *;have d1 : ¬ ((n2 : Int) + (n1 : Int) < 0) := by omega
   clear hv;go_wp2_with fail;go_roundw
   case rel => exact ⟨k + 1, by omega, by go_num, by rw [HT.out]; go_num, trivial⟩
   case measure => simp [intOf]; omega
  ·have HE : Hid ((xss.take k).flatten = F) := by show _ = _; rw [HF.out, List.take_of_length_le (by omega)]
   rw [HE.out];go_wp2_with fail;refine (Zv6 S0 F.length w hpos (by omega)).mono ?_;rintro e w1 ⟨v1, rfl, hR1, g1⟩;obtain ⟨a1, c1, rfl⟩ := hR1.form;clear HE;go_wp2_with fail;go_loopw [6, 27] (fun o i wr2 => ∃ (k : Nat) (css : List (List Value)), k ≤ xss.length ∧ i = .int .i64 k ∧ Yo Ys S0 w.heap.size o ((xss.take k).flatten) css wr2 ∧ Zj w wr2) (fun _ i _ => xss.length - (intOf i).toNat)
   case atStart => exact ⟨0, [], Nat.zero_le _, rfl, hR1, g1⟩
   case round =>
    clear hR1 g1;obtain ⟨k2, css, hk2, rfl, hR, hg⟩ := hrel;by_cases hlt2 : k2 < xss.length
    ·have hkv : k2 < vs.length := by omega
     have q0 := (Below.cell hg (Zr (HC.out k2 hkv))).trans (HC.out k2 hkv);have hsl := (HS.out k2 hkv hlt2).grow hg;obtain ⟨ao, cp, hv⟩ := hsl.form;rw [hv] at q0 hsl;have HT : Hid ((xss.take (k2 + 1)).flatten = (xss.take k2).flatten ++ xss[k2]) := Zix hlt2;have h1 : xss[k2].length ≤ 1000000 := hm _ (List.getElem_mem hlt2);have h2 : (xss.take k2).flatten.length ≤ 10000000 := by
      have h1 := Zdv (xss.take k2) fun xs hx => hm xs (List.mem_of_mem_take hx)
      rw [List.length_take] at h1;omega
     generalize xss[k2] = ys at *;generalize (xss.take k2).flatten = xs at *;obtain ⟨a2, c2, rfl⟩ := hR.form;obtain ⟨v3, w3, css3, hrun, hR3, hgb⟩ := Yo.app (ty := 28) Tryz.underlying28 hif hz0 hz1 hz2 (by decide) (by decide) (by decide) hS0 hR hsl (fun b h => .inl h) (by unfold maxLen; omega) (by omega) hg.size;have g3 : Zj w w3 := Yl hg hgb (fun k hk => (hR.row.lt k hk).1);obtain ⟨a3, c3, rfl⟩ := hR3.form;rw [List.length_append] at hR3 hrun;clear hv hR hgb hsl hg;go_wp2_with (at_builtin; refine Lib.wpList_append_run _ rfl _ _ _ _ rfl _ _ rfl rfl _ _ hrun ?_);go_roundw
     case rel => exact ⟨k2 + 1, _, by omega, by go_num, by rw [HT.out]; exact hR3, g3⟩
     case measure => simp [intOf]; omega
    ·have HE : Hid ((xss.take k2).flatten = F) := by show _ = _; rw [HF.out, List.take_of_length_le (by omega)]
     rw [HE.out] at hR;obtain ⟨a2, c2, rfl⟩ := hR.form;go_wp2_with fail;go_ret;exact ⟨_, _, rfl, hR, hg⟩
theorem Zny {S : Nat → Prop} {e : Ent} {a : Option Addr} {c : Nat} (hS : S g) (hg : w.heap[g]? = some (.cells #[.int .i64 e.rc.kind, .int .i64 e.rc.key, .int .i64 e.rc.ver, .slice a e.rc.data.length c, .int .i64 e.pair] 66 (0, 0))) (hb : Z0 S w (.slice a e.rc.data.length c) e.rc.data) : Yn S w (.slice (some ⟨g, 0, none⟩) 1 1) [e] := by
 refine .inr ⟨g, 0, 1, hS, rfl, Nat.le_refl _, fun i hi => ?_⟩;obtain rfl : i = 0 := by simpa using hi
 refine ⟨[.int .i64 e.rc.kind, .int .i64 e.rc.key, .int .i64 e.rc.ver, .slice a e.rc.data.length c, .int .i64 e.pair], ⟨_, rfl, hb⟩, fun j u hj => ?_⟩;rw [Nat.zero_mul, Nat.zero_add];refine Ze hg j u ?_;simpa using hj
structure Zwq (B : Nat) (xs ys zs : List Ent) (v1 v2 v3 : Value) (g : Nat) (w : World) : Prop where
 row : w.heap[g]? = some (.cells #[v1, v2, v3] 28 (0, 0))
 one : Yn (fun b => B ≤ b) w v1 xs
 two : Yn (fun b => B ≤ b) w v2 ys
 three : Yn (fun b => B ≤ b) w v3 zs
theorem Zj7 {ys zs : List Ent} {v1 v2 v3 : Value} (h : Zwq B xs ys zs v1 v2 v3 g w) (hB : B ≤ w.heap.size) (h1 : xs.length ≤ 1000000) (h2 : ys.length ≤ 1000000) (h3 : zs.length ≤ 1000000) (hp : 0 < ys.length) :
  Calls Tryz.prog 149 #[.slice (some ⟨g, 0, none⟩) 3 3] w fun e w' => ∃ v', e = .returned v' ∧ Yn (fun b => B ≤ b) w' v' (xs ++ ys ++ zs) ∧ Zj w w' := by
 have hcap : ∀ {v : Value} {l : List Ent}, Yn (fun b => B ≤ b) w v l → Yn (fun b => B ≤ b ∧ b < w.heap.size) w v l := fun h => Zv.caps h (by decide)
 refine (Zo6 (fun b => B ≤ b ∧ b < w.heap.size) [xs, ys, zs] [v1, v2, v3] g 3 w (fun b h => h.2) rfl (by simp) ?_ (by simp; omega) ?_ ?_).mono ?_
 ·intro l hl;simp only [List.mem_cons, List.not_mem_nil, or_false] at hl;rcases hl with rfl | rfl | rfl <;> assumption
 ·intro j hj
  match j, hj with
  | 0, _ => exact Ze h.row 0 _ rfl
  | 1, _ => exact Ze h.row 1 _ rfl
  | 2, _ => exact Ze h.row 2 _ rfl
 ·intro j hj _
  match j, hj with
  | 0, _ => exact hcap h.one
  | 1, _ => exact hcap h.two
  | 2, _ => exact hcap h.three
 ·rintro e w' ⟨v', css, rfl, hR, hg⟩;refine ⟨v', rfl, ?_, hg⟩;have := (Yo.slice hR).mono (S' := fun b => B ≤ b) fun b hb => hb.elim (fun x => x.1) (fun x => by omega)
  simpa using this
theorem Yo.from {v : Value} {css : List (List Value)} (h : Yo Ys NoS B v xs css w) : Yn (fun b => B ≤ b) w v xs := h.slice.mono fun _ h => h.elim (fun x => x.elim) (fun x => x)
theorem Zvd (S : Nat → Prop) (l : List Ent) (e : Ent) (a : Option Addr) (c : Nat) (v : Value) (w : World) (hl : Yn S w v l) (hn : l.length ≤ 1000000) (h8 : ∀ x ∈ l, x.rc.data.length ≤ 8) (he8 : e.rc.data.length ≤ 8) (hne : ∀ x ∈ l, x.pair ≠ e.pair) (hb : Z0 S w (.slice a e.rc.data.length c) e.rc.data) :
  Calls Tryz.prog 108 #[v, .agg #[.int .i64 e.rc.kind, .int .i64 e.rc.key, .int .i64 e.rc.ver, .slice a e.rc.data.length c, .int .i64 e.pair]] w fun r w' => ∃ v', r = .returned v' ∧ Yn (fun b => w.heap.size ≤ b) w' v' ((l.filter fun x => Yv x e) ++ [e] ++ (l.filter fun x => Yv e x)) ∧ Zj w w' := by
 obtain ⟨ao, cp, rfl⟩ := hl.form;have g0 := Zd w (.cells #[.int .i64 e.rc.kind, .int .i64 e.rc.key, .int .i64 e.rc.ver, .slice a e.rc.data.length c, .int .i64 e.pair] 66);have hE0 := Zk w #[.int .i64 e.rc.kind, .int .i64 e.rc.key, .int .i64 e.rc.ver, .slice a e.rc.data.length c, .int .i64 e.pair] 66;have hf1 : (l.filter fun x => Yv x e).length ≤ 1000000 := Nat.le_trans (List.length_filter_le _ _) hn;have hf2 : (l.filter fun x => Yv e x).length ≤ 1000000 := Nat.le_trans (List.length_filter_le _ _) hn;obtain ⟨xs, hxs⟩ : ∃ xs, xs = l.filter fun x => Yv x e := ⟨_, rfl⟩
 obtain ⟨zs, hzs⟩ : ∃ zs, zs = l.filter fun x => Yv e x := ⟨_, rfl⟩
 rw [← hxs] at hf1 ⊢;rw [← hzs] at hf2 ⊢;have HX : Hid _ := hxs;have HZ : Hid _ := hzs;clear hxs hzs;go_enter Tryz.func108, Tryz.ntmps108;go_wp2_with fail;refine (Zhp 146 #[.pointer (some ⟨w.heap.size, 0, none⟩)] S l _ _ Zmm (hl.grow g0) hn (fun x a' c' w' hx hg => Zwp x e a' a c' c _ w' (hne x hx) ((hg.block _ (Za hE0)).trans hE0))).mono ?_;rintro r w1 ⟨rfl, g1⟩;have gw1 := g0.trans g1;have hE1 := (g1.block _ (Za hE0)).trans hE0;clear g0 g1 hE0 hne;go_wp2_with fail;refine (Zas 147 #[.pointer (some ⟨w.heap.size, 0, none⟩)] (fun x => Yv x e) S l _ _ Zml (hl.grow gw1) hn h8 (fun x a' c' w' _ hg => Zwo x e a' a c' c _ w' ((hg.block _ (Za hE1)).trans hE1))).mono ?_;rw [← HX.out];rintro r w2 ⟨v2, css2, rfl, hR2, g2⟩;have gw2 := gw1.trans g2;have hE2 := (g2.block _ (Za hE1)).trans hE1;have hL2 := (hR2.less gw1.size).from;clear g2 hE1 hR2 gw1;obtain ⟨a2, c2, rfl⟩ := hL2.form;go_wp2_with fail;refine (Zas 148 #[.pointer (some ⟨w.heap.size, 0, none⟩)] (fun x => Yv e x) S l _ _ Zmk (hl.grow gw2) hn h8 (fun x a' c' w' _ hg => Zwn x e a' a c' c _ w' ((hg.block _ (Za hE2)).trans hE2))).mono ?_;rw [← HZ.out];rintro r w3 ⟨v3, css3, rfl, hR3, g3⟩;have gw3 := gw2.trans g3;have hE3 := (g3.block _ (Za hE2)).trans hE2;have hL3 := (hR3.less gw2.size).from;have hL2' := hL2.grow g3;clear g3 hE2 hR3 gw2 hL2;obtain ⟨a3, c3, rfl⟩ := hL3.form;obtain ⟨x0, x1, x2, x3, x4⟩ := Vv hE3 rfl rfl rfl rfl rfl;go_wp2_with fail;refine (Zgr e a c _ (by omega) (hb.grow gw3).p).mono ?_
 rintro r w4 ⟨v4, rfl, ⟨a4, c4, rfl, ho4⟩, g4⟩;have gw4 := gw3.trans g4;have g5 := Zd w4 (.cells #[.int .i64 e.rc.kind, .int .i64 e.rc.key, .int .i64 e.rc.ver, .slice a4 e.rc.data.length c4, .int .i64 e.pair] 66);have h5 := Zk w4 #[.int .i64 e.rc.kind, .int .i64 e.rc.key, .int .i64 e.rc.ver, .slice a4 e.rc.data.length c4, .int .i64 e.pair] 66;have s5 := World.size_alloc w4 (.cells #[.int .i64 e.rc.kind, .int .i64 e.rc.key, .int .i64 e.rc.ver, .slice a4 e.rc.data.length c4, .int .i64 e.pair] 66);have hT : Zwq w.heap.size xs [e] zs (.slice a2 xs.length c2) (.slice (some ⟨w4.heap.size, 0, none⟩) 1 1) (.slice a3 zs.length c3) (w4.heap.size + 1) ((w4.alloc (.cells #[.int .i64 e.rc.kind, .int .i64 e.rc.key, .int .i64 e.rc.ver, .slice a4 e.rc.data.length c4, .int .i64 e.pair] 66)).alloc (.cells #[.slice a2 xs.length c2, .slice (some ⟨w4.heap.size, 0, none⟩) 1 1, .slice a3 zs.length c3] 28)) := by
  have h6 := Zk (w4.alloc (.cells #[.int .i64 e.rc.kind, .int .i64 e.rc.key, .int .i64 e.rc.ver, .slice a4 e.rc.data.length c4, .int .i64 e.pair] 66)) #[.slice a2 xs.length c2, .slice (some ⟨w4.heap.size, 0, none⟩) 1 1, .slice a3 zs.length c3] 28;have g6 := Zd (w4.alloc (.cells #[.int .i64 e.rc.kind, .int .i64 e.rc.key, .int .i64 e.rc.ver, .slice a4 e.rc.data.length c4, .int .i64 e.pair] 66)) (.cells #[.slice a2 xs.length c2, .slice (some ⟨w4.heap.size, 0, none⟩) 1 1, .slice a3 zs.length c3] 28);rw [s5] at h6;have g46 := g5.trans g6;refine ⟨h6, (hL2'.grow g4).grow g46, Zny gw4.size ((g6.block _ (Za h5)).trans h5) ?_, (hL3.grow g4).grow g46⟩;have hbo := (Zf8 (fun _ => False) (Yh ho4 gw3.size)).grow g46;exact hbo.mono fun b h => h.elim (fun x => x.elim) (fun x => x)
 have gw6 := gw4.trans (Zx w4 (.cells #[.int .i64 e.rc.kind, .int .i64 e.rc.key, .int .i64 e.rc.ver, .slice a4 e.rc.data.length c4, .int .i64 e.pair] 66) (.cells #[.slice a2 xs.length c2, .slice (some ⟨w4.heap.size, 0, none⟩) 1 1, .slice a3 zs.length c3] 28));clear x0 x1 x2 x3 x4 hE3 g5 h5 s5 g4 gw3 gw4 ho4 hL2' hL3;go_wp2_with fail;refine (Zj7 hT gw6.size hf1 (by simp) hf2 (by simp)).mono ?_;rintro r w7 ⟨v7, rfl, hL7, g7⟩;have gE := gw6.trans g7;clear hT gw6 g7;go_wp2_with fail;go_ret;exact ⟨_, rfl, hL7, gE⟩
end Go.Proofs.YtpdnapbchcdhladGreatDoor
namespace Go.Proofs.YtpdnapbchcdhladGreatDoor
set_option maxRecDepth 100000
open Plain
variable {i j k : Nat} {l ys : List Ent} {x y : Ent}
theorem Zbd (a : Ent) : ¬ Yv a a = true := by simp [Yv]
theorem Zgo {a b : Ent} (h : Yv a b = true) : ¬ Yv b a = true := fun h2 => Zbd a (K7 h h2)
theorem Ztw : ∀ (a b : List Ent), a.Pairwise Ups → b.Pairwise Ups → (∀ x, x ∈ a ↔ x ∈ b) → a = b
 | [], [], _, _, _ => rfl
 | [], y :: b, _, _, h => absurd ((h y).2 (by simp)) (by simp)
 | x :: a, [], _, _, h => absurd ((h x).1 (by simp)) (by simp)
 | x :: a, y :: b, ha, hb, h => by
  obtain ⟨ha1, ha2⟩ := List.pairwise_cons.1 ha;obtain ⟨hb1, hb2⟩ := List.pairwise_cons.1 hb;have hxy : x = y := by
   rcases List.mem_cons.1 ((h x).1 (by simp)) with h1 | h1
   ·exact h1
   ·rcases List.mem_cons.1 ((h y).2 (by simp)) with h2 | h2
    ·exact h2.symm
    ·exact absurd (ha1 y h2).1 (Zgo (hb1 x h1).1)
  subst hxy;rw [Ztw a b ha2 hb2 fun z => ?_];constructor
  ·intro hz;rcases List.mem_cons.1 ((h z).1 (by simp [hz])) with rfl | h2
   ·exact absurd (ha1 z hz).1 (Zbd z)
   ·exact h2
  ·intro hz;rcases List.mem_cons.1 ((h z).2 (by simp [hz])) with rfl | h2
   ·exact absurd (hb1 z hz).1 (Zbd z)
   ·exact h2
def J4 (ys : List Ent) : Prop := ys.Pairwise fun a b => a.pair ≠ b.pair
theorem Zea (h : J4 ys) {a b : Nat} (hab : a < b) (hx : ys[a]? = some x) (hy : ys[b]? = some y) : x.pair ≠ y.pair := by
 obtain ⟨h1, rfl⟩ := List.getElem?_eq_some_iff.1 hx;obtain ⟨h2, rfl⟩ := List.getElem?_eq_some_iff.1 hy;exact List.pairwise_iff_getElem.1 h a b h1 h2 hab
theorem Zkm {xs : List Ent} (h : J4 xs) (hp : ys.Perm xs) : J4 ys := (hp.pairwise_iff (fun h e => h e.symm)).2 h
def Ord (i : Nat) (ys : List Ent) : Prop := ∀ a b x y, a < b → b < i → ys[a]? = some x → ys[b]? = some y → Ups x y
def Zpj (i j : Nat) (ys : List Ent) : Prop := (∀ a b x y, a < b → b ≤ i → a ≠ j → b ≠ j → ys[a]? = some x → ys[b]? = some y → Ups x y) ∧ ∀ m x y, j < m → m ≤ i → ys[j]? = some x → ys[m]? = some y → Ups x y
theorem Zrp (h : Ord i ys) : Zpj i i ys := ⟨fun a b x y h1 h2 h3 h4 hx hy => h a b x y h1 (by omega) hx hy, fun m x y h1 h2 => by omega⟩
def Zew (ys : List Ent) (j : Nat) (x y : Ent) : List Ent := (ys.set (j + 1) x).set j y
theorem Zqw (hx : ys[j]? = some x) (hy : ys[j + 1]? = some y) : (Zew ys j x y).Perm ys := by
 obtain ⟨h1, rfl⟩ := List.getElem?_eq_some_iff.1 hx;obtain ⟨h2, rfl⟩ := List.getElem?_eq_some_iff.1 hy;exact List.set_set_perm h2 h1
theorem Zfd (hl : j + 1 < ys.length) (a : Nat) : (Zew ys j x y)[a]? = if a = j then some y else if a = j + 1 then some x else ys[a]? := by
 unfold Zew;by_cases h1 : a = j
 ·subst h1;rw [if_pos rfl, List.getElem?_set_self (by simp; omega)]
 ·rw [if_neg h1, List.getElem?_set_ne (by omega)];by_cases h2 : a = j + 1
  ·subst h2;rw [if_pos rfl, List.getElem?_set_self hl]
  ·rw [if_neg h2, List.getElem?_set_ne (by omega)]
theorem Zvi (h : Zpj i (j + 1) ys) (hx : ys[j]? = some x) (hy : ys[j + 1]? = some y) (hlt : Yv y x = true) (hne : x.pair ≠ y.pair) (hi : j + 1 ≤ i) : Zpj i j (Zew ys j x y) := by
 have hl : j + 1 < ys.length := (List.getElem?_eq_some_iff.1 hy).1;refine ⟨fun a b u v h1 h2 h3 h4 hu hv => ?_, fun m u v h1 h2 hu hv => ?_⟩
 ·rw [Zfd hl, if_neg h3] at hu;rw [Zfd hl, if_neg h4] at hv;by_cases ha : a = j + 1
  ·rw [if_pos ha] at hu;rw [if_neg (by omega)] at hv;cases hu;exact h.1 j b _ v (by omega) h2 (by omega) (by omega) hx hv
  ·rw [if_neg ha] at hu;by_cases hb : b = j + 1
   ·rw [if_pos hb] at hv;cases hv;exact h.1 a j u _ (by omega) (by omega) (by omega) (by omega) hu hx
   ·rw [if_neg hb] at hv;exact h.1 a b u v h1 h2 ha hb hu hv
 ·rw [Zfd hl, if_pos rfl] at hu;rw [Zfd hl, if_neg (by omega)] at hv;cases hu;by_cases hm : m = j + 1
  ·rw [if_pos hm] at hv;cases hv;exact ⟨hlt, hne.symm⟩
  ·rw [if_neg hm] at hv;exact h.2 m _ v (by omega) h2 hy hv
theorem Zvj (h : Zpj i 0 ys) : Ord (i + 1) ys := fun a b x y h1 h2 hx hy => by
 by_cases ha : a = 0
 ·subst ha; exact h.2 b x y h1 (by omega) hx hy
 ·exact h.1 a b x y h1 (by omega) ha (by omega) hx hy
theorem Zx5 (h : Zpj i (j + 1) ys) (hn : J4 ys) (hx : ys[j]? = some x) (hy : ys[j + 1]? = some y) (hlt : ¬ Yv y x = true) (hi : j + 1 ≤ i) : Ord (i + 1) ys := fun a b u v h1 h2 hu hv => by
 have hU : Yv x y = true := Zct hlt (Zea hn (Nat.lt_succ_self j) hx hy).symm;by_cases ha : a = j + 1
 ·subst ha; exact h.2 b u v h1 (by omega) hu hv
 ·by_cases hb : b = j + 1
  ·subst hb;refine ⟨?_, Zea hn h1 hu hv⟩;rw [hy] at hv; cases hv;by_cases haj : a = j
   ·subst haj; rw [hx] at hu; cases hu; exact hU
   ·exact K7 (h.1 a j u x (by omega) (by omega) ha (by omega) hu hx).1 hU
  ·exact h.1 a b u v h1 (by omega) ha hb hu hv
theorem Zx4 (h : Ord ys.length ys) : ys.Pairwise Ups := List.pairwise_iff_getElem.2 fun a b ha hb hab => h a b _ _ hab hb (List.getElem?_eq_getElem ha) (List.getElem?_eq_getElem hb)
def Xx (d : Dk) : Nat → List Ent
 | 0 => []
 | n + 1 => if (d.tell (n : Int)).kind = 1 then Xx d n else Xx d n ++ [⟨d.tell (n : Int), (n : Int)⟩]
theorem Zeb (d : Dk) (x : Ent) : ∀ n, x ∈ Xx d n ↔ ∃ p : Nat, p < n ∧ (d.tell (p : Int)).kind ≠ 1 ∧ x = ⟨d.tell (p : Int), (p : Int)⟩
 | 0 => by simp [Xx]
 | n + 1 => by
  have ih := Zeb d x n;unfold Xx;by_cases h : (d.tell (n : Int)).kind = 1
  ·rw [if_pos h, ih];constructor
   ·rintro ⟨p, h1, h2⟩; exact ⟨p, by omega, h2⟩
   ·rintro ⟨p, h1, h2, h3⟩;refine ⟨p, ?_, h2, h3⟩;rcases Nat.lt_succ_iff_lt_or_eq.1 h1 with h4 | rfl
    ·exact h4
    ·exact absurd h h2
  ·rw [if_neg h, List.mem_append, ih, List.mem_singleton];constructor
   ·rintro (⟨p, h1, h2⟩ | rfl)
    ·exact ⟨p, by omega, h2⟩
    ·exact ⟨n, by omega, h, rfl⟩
   ·rintro ⟨p, h1, h2, h3⟩;rcases Nat.lt_succ_iff_lt_or_eq.1 h1 with h4 | rfl
    ·exact .inl ⟨p, h4, h2, h3⟩
    ·exact .inr h3
theorem Zec (d : Dk) : ∀ n, (Xx d n).length ≤ n
 | 0 => by simp [Xx]
 | n + 1 => by
  have ih := Zec d n;unfold Xx;split
  ·omega
  ·simp; omega
theorem Zc9 (d : Dk) : ∀ n, J4 (Xx d n)
 | 0 => by simp [Xx, J4]
 | n + 1 => by
  have ih := Zc9 d n;unfold Xx;split
  ·exact ih
  ·refine List.pairwise_append.2 ⟨ih, by simp, fun x hx y hy => ?_⟩;obtain ⟨p, h1, _, rfl⟩ := (Zeb d x n).1 hx;rw [List.mem_singleton.1 hy];show (p : Int) ≠ (n : Int);omega
theorem Znp (d : Dk) (n : Nat) (hn : n ≤ 1000) (hp : ys.Perm (Xx d n)) (ho : ys.Pairwise Ups) : ys = Yd d n :=
 Ztw _ _ ho ((Yr _).1 (Vf d n hn)).1 fun x => by rw [hp.mem_iff, Zeb, Qj]
theorem Zpe {e : Ent} : ∀ {l : List Ent}, (∀ x ∈ l, Yv e x = true) → (l.filter fun x => Yv x e) = [] ∧ (l.filter fun x => Yv e x) = l := by
 intro l h;refine ⟨List.filter_eq_nil_iff.2 fun x hx => Zgo (h x hx), List.filter_eq_self.2 h⟩
theorem Zdn (e : Ent) : ∀ l : List Ent, l.Pairwise Ups → (∀ x ∈ l, x.pair ≠ e.pair) → (l.filter fun x => Yv x e) ++ [e] ++ (l.filter fun x => Yv e x) = Zbg e l
 | [], _, _ => by simp [Zbg]
 | x :: l, hp, hne => by
  obtain ⟨h1, h2⟩ := List.pairwise_cons.1 hp;unfold Zbg;by_cases h : Yv e x = true
  ·rw [if_pos h];obtain ⟨k1, k2⟩ := Zpe (e := e) (l := x :: l) fun y hy => by
    rcases List.mem_cons.1 hy with rfl | hy
    ·exact h
    ·exact K7 h (h1 y hy).1
   rw [k1, k2]; rfl
  ·have f1 : (x :: l).filter (fun x => Yv x e) = x :: l.filter (fun x => Yv x e) := List.filter_cons_of_pos (Zct h fun e' => hne x (by simp) e'.symm);have f2 : (x :: l).filter (fun x => Yv e x) = l.filter (fun x => Yv e x) := List.filter_cons_of_neg h;rw [if_neg h, f1, f2, ← Zdn e l h2 fun y hy => hne y (by simp [hy])];rfl
theorem Zso {key ver : Int} (hk : k < l.length) (h0 : ∀ x ∈ l.take k, ¬ (x.rc.key = key ∧ x.rc.ver = ver)) (h1 : l[k].rc.key = key ∧ l[k].rc.ver = ver) : Zar l key ver = some l[k] := by
 unfold Zar;have e : l = l.take k ++ l[k] :: l.drop (k + 1) := by
  rw [← List.drop_eq_getElem_cons hk, List.take_append_drop]
 have h2 : (l.take k).find? (fun x => decide (x.rc.key = key ∧ x.rc.ver = ver)) = none := List.find?_eq_none.2 fun x hx => by simpa using h0 x hx
 conv => lhs; rw [e]
 rw [List.find?_append, h2, Option.none_or, List.find?_cons_of_pos (by simpa using h1)]
theorem Zcd (hk : k < l.length) (h : x ∈ l.take (k + 1)) : x ∈ l.take k ∨ x = l[k] := by
 rw [List.take_succ_eq_append_getElem hk] at h;rcases List.mem_append.1 h with h | h
 ·exact .inl h
 ·exact .inr (List.mem_singleton.1 h)
theorem Zlb : ∀ (n : Nat) (l : List Nat), (∀ m, m < n → m ∈ l) → n ≤ l.length
 | 0, _, _ => Nat.zero_le _
 | n + 1, l, h => by
  have h1 := Zlb n (l.erase n) fun m hm => (List.mem_erase_of_ne (by omega)).2 (h m (by omega))
  have h2 := List.length_erase_of_mem (h n (by omega));have h3 := List.length_pos_of_mem (h n (by omega));omega
theorem Zvx {f : Nat} (h0 : ∀ n : Nat, n < f → ∃ x ∈ l, x.pair = (n : Int)) (h1 : f = l.length ∨ ∀ x ∈ l, x.pair ≠ (f : Int)) : Zag l f := by
 refine ⟨h0, ?_⟩;rcases h1 with rfl | h1
 ·intro x hx hp;have := Zlb (l.length + 1) (l.map fun x => x.pair.toNat) fun m hm => by
   rcases Nat.lt_succ_iff_lt_or_eq.1 hm with h2 | rfl
   ·obtain ⟨y, hy, hyp⟩ := h0 m h2;exact List.mem_map.2 ⟨y, hy, by rw [hyp]; rfl⟩
   ·exact List.mem_map.2 ⟨x, hx, by rw [hp]; rfl⟩
  rw [List.length_map] at this;omega
 ·exact h1
end Go.Proofs.YtpdnapbchcdhladGreatDoor
