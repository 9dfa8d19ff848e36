import Derived.Test.YtpdnapbchcdhlaaRow
set_option maxHeartbeats 8000000
namespace Go.Proofs.Ytpdnapbchcdhlaa
set_option maxRecDepth 100000
open Go.RowKit
open Plain Reg
def Ya (a b : Ent) : Bool := if a.rc.key = b.rc.key then (if a.rc.ver = b.rc.ver then decide (a.pair < b.pair) else decide (a.rc.ver < b.rc.ver)) else decide (a.rc.key < b.rc.key)
def Yr (e : Ent) (st : List Ent × Bool) (x : Ent) : List Ent × Bool := if st.2 = false ∧ Ya e x = true then (st.1 ++ [e] ++ [x], true) else (st.1 ++ [x], st.2)
def Xl (e : Ent) (l : List Ent) : List Ent × Bool := l.foldl (Yr e) ([], false)
def Y5 (e : Ent) (l : List Ent) : List Ent := if (Xl e l).2 = true then (Xl e l).1 else (Xl e l).1 ++ [e]
theorem Jh (x y : Ent) (a b : Option Addr) (c c' : Nat) (w : World) :
  Calls Try.prog 89 #[.agg #[.int .i64 x.rc.kind, .int .i64 x.rc.key, .int .i64 x.rc.ver, .slice a x.rc.data.length c, .int .i64 x.pair], .agg #[.int .i64 y.rc.kind, .int .i64 y.rc.key, .int .i64 y.rc.ver, .slice b y.rc.data.length c', .int .i64 y.pair]] w fun e w' => e = .returned (.bool (Ya x y)) ∧ Zm w w' := by
 have gW := Yb w (.cells #[.int .i64 x.rc.kind, .int .i64 x.rc.key, .int .i64 x.rc.ver, .slice a x.rc.data.length c, .int .i64 x.pair] 71) (.cells #[.int .i64 y.rc.kind, .int .i64 y.rc.key, .int .i64 y.rc.ver, .slice b y.rc.data.length c', .int .i64 y.pair] 71);by_cases hk : x.rc.key = y.rc.key
 ·have d0 : (x.rc.key != y.rc.key) = false := by simp [hk]
  by_cases hv : x.rc.ver = y.rc.ver
  ·have d1 : (x.rc.ver != y.rc.ver) = false := by simp [hv]
   have HL : Hid (Ya x y = decide (x.pair < y.pair)) := by show Ya x y = _; unfold Ya; rw [if_pos hk, if_pos hv]
   rw [HL.out];clear hk hv;go_enter Try.func89, Try.ntmps89;go_wp2_with fail;go_ret;exact ⟨rfl, gW⟩
  ·have d1 : (x.rc.ver != y.rc.ver) = true := by simp [hv]
   have HL : Hid (Ya x y = decide (x.rc.ver < y.rc.ver)) := by show Ya x y = _; unfold Ya; rw [if_pos hk, if_neg hv]
   rw [HL.out];clear hk hv;go_enter Try.func89, Try.ntmps89;go_wp2_with fail;go_ret;exact ⟨rfl, gW⟩
 ·have d0 : (x.rc.key != y.rc.key) = true := by simp [hk]
  have HL : Hid (Ya x y = decide (x.rc.key < y.rc.key)) := by show Ya x y = _; unfold Ya; rw [if_neg hk]
  rw [HL.out];clear hk;go_enter Try.func89, Try.ntmps89;go_wp2_with fail;go_ret;exact ⟨rfl, gW⟩
theorem Zbe (e : Ent) (l : List Ent) : (Xl e l).1.length ≤ 2 * l.length := by
 have key : ∀ (l : List Ent) (st : List Ent × Bool), (l.foldl (Yr e) st).1.length ≤ st.1.length + 2 * l.length := by
  intro l
  induction l with
  | nil => intro st; simp
  | cons x l ih =>
   intro st;rw [List.foldl_cons, List.length_cons];have h1 := ih (Yr e st x);have h2 : (Yr e st x).1.length ≤ st.1.length + 2 := by unfold Yr; split <;> simp
   omega
 have h := key l ([], false);rw [List.length_nil] at h;unfold Xl;omega
theorem Zek (e : Ent) (l : List Ent) (k : Nat) (h : k < l.length) : Xl e (l.take (k + 1)) = Yr e (Xl e (l.take k)) l[k] := by
 unfold Xl;rw [List.take_succ_eq_append_getElem h, List.foldl_append]; rfl
theorem Jx (S : Nat → Prop) (l : List Ent) (e : Ent) (v : Value) (a : Option Addr) (c : Nat) (w : World) (hS : ∀ b, S b → b < w.heap.size) (hl : Yl S w v l) (he : Z4 S w (.slice a e.rc.data.length c) e.rc.data) (hn : l.length ≤ 1000000) :
  Calls Try.prog 68 #[v, .agg #[.int .i64 e.rc.kind, .int .i64 e.rc.key, .int .i64 e.rc.ver, .slice a e.rc.data.length c, .int .i64 e.pair]] w fun r w' => ∃ v', r = .returned v' ∧ Yl (Qg S w.heap.size) w' v' (Y5 e l) ∧ Zm w w' := by
 obtain ⟨i0, hif, hz0, hz1, hz2⟩ := info_parts Vh;obtain ⟨ao, cp, rfl⟩ := hl.form;have g0 := Zh w (.cells #[.int .i64 e.rc.kind, .int .i64 e.rc.key, .int .i64 e.rc.ver, .slice a e.rc.data.length c, .int .i64 e.pair] 71);have hE0 := Zu w #[.int .i64 e.rc.kind, .int .i64 e.rc.key, .int .i64 e.rc.ver, .slice a e.rc.data.length c, .int .i64 e.pair] 71;obtain ⟨R, hR⟩ : ∃ R, R = Y5 e l := ⟨_, rfl⟩;rw [← hR];have HR : Hid _ := hR;clear hR;go_enter Try.func68, Try.ntmps68;go_wp2_with fail;generalize World.alloc w _ = W at *;go_loopw [5, 6, 11] (fun o dn i wr => ∃ (k : Nat) (css : List (List Value)), k ≤ l.length ∧ i = .int .i64 k ∧ dn = .bool (Xl e (l.take k)).2 ∧ Yo Yc S (w.heap.size + 1) o (Xl e (l.take k)).1 css wr ∧ Zm w wr ∧ wr.heap[w.heap.size]? = some (.cells #[.int .i64 e.rc.kind, .int .i64 e.rc.key, .int .i64 e.rc.ver, .slice a e.rc.data.length c, .int .i64 e.pair] 71 (0, 0))) (fun _ _ i _ => l.length - (intOf i).toNat)
 case atStart => exact ⟨0, [], Nat.zero_le _, rfl, rfl, Yo.nil _ _ _ _, g0, hE0⟩
 case round =>
  clear g0 hE0;obtain ⟨k, css, hk, rfl, rfl, hR, hg, hE⟩ := hrel;have HS2 : Hid (∀ b, S b → b < w.heap.size) := hS;by_cases hlt : k < l.length
  ·obtain ⟨b, off, a1, c1, hv1, q0, q1, q2, q3, q4, hu⟩ := X4 (hl.grow hg) k hlt;cases hv1;have HT : Hid (Xl e (l.take (k + 1)) = Yr e (Xl e (l.take k)) l[k]) := Zek e l k hlt;have hxl : (Xl e (l.take k)).1.length ≤ 2 * k := by have := Zbe e (l.take k); rw [List.length_take] at this; omega
   generalize l[k] = x at *;generalize Xl e (l.take k) = st at *;obtain ⟨xs, dn⟩ := st;simp only at hR hxl;obtain ⟨a0, c0, rfl⟩ := hR.form;have g1 := Zh wr (.cells #[.int .i64 x.rc.kind, .int .i64 x.rc.key, .int .i64 x.rc.ver, .slice a1 x.rc.data.length c1, .int .i64 x.pair] 71);have hX1 := Zu wr #[.int .i64 x.rc.kind, .int .i64 x.rc.key, .int .i64 x.rc.ver, .slice a1 x.rc.data.length c1, .int .i64 x.pair] 71;have hR1 := hR.grow g1;have hE1 := (g1.block _ (Zg hE)).trans hE;have hu1 := hu.grow g1;have gw1 := hg.trans g1;have he1 := he.grow gw1;have HSZ : Hid (w.heap.size + 1 ≤ wr.heap.size) := Zg hE;cases dn with
   | true =>
    have HT2 : Hid (Xl e (l.take (k + 1)) = (xs ++ [x], true)) := by show _ = _; rw [HT.out]; rfl
    obtain ⟨x0, x1, x2, x3, x4⟩ := Qa hX1 rfl rfl rfl rfl rfl;have hnew : ∀ (j : Nat) u, ([.int .i64 x.rc.kind, .int .i64 x.rc.key, .int .i64 x.rc.ver, .slice a1 x.rc.data.length c1, .int .i64 x.pair] : List Value)[j]? = some u → ((wr.alloc (.cells #[.int .i64 x.rc.kind, .int .i64 x.rc.key, .int .i64 x.rc.ver, .slice a1 x.rc.data.length c1, .int .i64 x.pair] 71)).alloc (.cells #[.int .i64 x.rc.kind, .int .i64 x.rc.key, .int .i64 x.rc.ver, .slice a1 x.rc.data.length c1, .int .i64 x.pair] 71)).cell? ((⟨wr.heap.size + 1, 0, none⟩ : Addr).add j) = some u := by
     intro j u hj;have h := Xk (wr.alloc (.cells #[.int .i64 x.rc.kind, .int .i64 x.rc.key, .int .i64 x.rc.ver, .slice a1 x.rc.data.length c1, .int .i64 x.pair] 71)) _ _ _ _ _ 71 j u hj;rw [World.size_alloc] at h;exact h
    clear hX1 hR hE hu hg g1 HT;go_wp2_with (first | (at_builtin; refine wpList_append_own _ rfl (.tmp 26) (.tmp 28) 69 rfl (w.heap.size + 1) 71 i0 (.agg #[.int .i64 0, .int .i64 0, .int .i64 0, .slice none 0 0, .int .i64 0]) 5 56 Try.underlying69 hif hz0 hz1 hz2 rfl (by decide) (.slice a0 xs.length c0) _ _ rfl (hR1.row.alloc _) ⟨wr.heap.size + 1, 0, none⟩ 1 1 [.int .i64 x.rc.kind, .int .i64 x.rc.key, .int .i64 x.rc.ver, .slice a1 x.rc.data.length c1, .int .i64 x.pair] rfl rfl hnew (by intro u hu; simp at hu; rcases hu with rfl | rfl | rfl | rfl | rfl <;> rfl) (by unfold maxLen; omega) (by omega) (by have := HSZ.out; simp; omega) ?_; intro v4 w4 hown4 hgrow4 _; have hR6 := hR1.step (x := x) (by decide) (fun b h => by have := HS2.out b h; omega) ⟨_, rfl, hu1.mono (fun _ h => .inl h)⟩ hgrow4 hown4; have g6 : Zm w w4 := Z1 (gw1.trans (Zh _ _)) hgrow4 (fun k hk => by have := (hR1.row.lt k hk).1; omega); have hE6 := (Y9 hR1.row hgrow4 (Xp hR1.row (by omega)) (Zg hE1)).trans hE1; have hsl := Yv hown4; obtain ⟨a4, c4, hv4⟩ := hsl; subst hv4; clear hgrow4 hown4 hR1 hnew hE1 gw1 hu1 he1));go_roundw
    case rel => exact ⟨k + 1, _, by omega, by go_num, by rw [HT2.out], by rw [HT2.out]; exact hR6, g6, hE6⟩
    case measure => simp [intOf]; omega
   | false =>
    obtain ⟨x0, x1, x2, x3, x4⟩ := Qa hX1 rfl rfl rfl rfl rfl;obtain ⟨e0, e1, e2, e3, e4⟩ := Qa hE1 rfl rfl rfl rfl rfl;have HNE : Hid (some wr.heap.size ≠ (Value.slice a0 xs.length c0).ownBlock) := Zhq hR.row (Nat.le_refl _);go_wp2_with fail;refine (Jh e x _ _ _ _ _).mono ?_;cases hls : Ya e x with
    | true =>
     have HT2 : Hid (Xl e (l.take (k + 1)) = ((xs ++ [e]) ++ [x], true)) := by show _ = _; rw [HT.out]; simp [Yr, hls]
     clear hls;rintro r w2 ⟨rfl, g2⟩;have hX2 := (g2.block _ (Zg hX1)).trans hX1;have hE2 := (g2.block _ (Zg hE1)).trans hE1;have hR2 := hR1.grow g2;have hu2 := hu1.grow g2;have he2 := he1.grow g2;have gw2 := gw1.trans g2;replace HSZ : Hid (w.heap.size + 1 ≤ w2.heap.size) := Zg hE2;clear x0 x1 x2 x3 x4 e0 e1 e2 e3 e4 q0 q1 q2 q3 q4 hX1 hE1 hR hR1 hE hu hu1 he1 hg g1 g2 gw1 HT;obtain ⟨e0, e1, e2, e3, e4⟩ := Qa hE2 rfl rfl rfl rfl rfl;go_wp2_with (first
      | (at_builtin; refine wpList_append_own _ rfl (.tmp 22) (.tmp 24) 69 rfl (w.heap.size + 1) 71 i0 (.agg #[.int .i64 0, .int .i64 0, .int .i64 0, .slice none 0 0, .int .i64 0]) 5 56 Try.underlying69 hif hz0 hz1 hz2 rfl (by decide) (.slice a0 xs.length c0) _ _ rfl (hR2.row.alloc _) ⟨w2.heap.size, 0, none⟩ 1 1 [.int .i64 e.rc.kind, .int .i64 e.rc.key, .int .i64 e.rc.ver, .slice a e.rc.data.length c, .int .i64 e.pair] rfl rfl (fun j u hj => Xk w2 _ _ _ _ _ _ j u hj) (by intro u hu; simp at hu; rcases hu with rfl | rfl | rfl | rfl | rfl <;> rfl) (by unfold maxLen; omega) (by omega) (by have := HSZ.out; simp; omega) ?_; intro v4 w4 hown4 hgrow4 _; have hR6 := hR2.step (x := e) (by decide) (fun b h => by have := HS2.out b h; omega) ⟨_, rfl, he2.mono (fun _ h => .inl h)⟩ hgrow4 hown4; have g6 : Zm w w4 := Z1 (gw2.trans (Zh _ _)) hgrow4 (fun k hk => by have := (hR2.row.lt k hk).1; omega); have hE6 := (Y9 hR2.row hgrow4 (Xp hR2.row (by omega)) (Zg hE2)).trans hE2; have hX6 := (Y9 hR2.row hgrow4 HNE.out (Zg hX2)).trans hX2; have hk6 := Zbx (S0 := S) hR2.row (by decide) (fun b h => by have := HS2.out b h; omega) hgrow4; have hu6 := hu2.keeps (fun b h1 h2 => hk6 b (.inl h1) h2); have hsl := Yv hown4; obtain ⟨a4, c4, hv4⟩ := hsl; subst hv4; clear hgrow4 hown4 hR2 hE2 gw2 hu2 he2 hX2 hk6 e0 e1 e2 e3 e4; have hyl : (xs ++ [e]).length = xs.length + 1 := List.length_append; replace HSZ : Hid (w.heap.size + 1 ≤ w4.heap.size) := Zg hE6; have x0 := Zk hX6 0 _ rfl; have x1 := Zk hX6 1 _ rfl; have x2 := Zk hX6 2 _ rfl; have x3 := Zk hX6 3 _ rfl; have x4 := Zk hX6 4 _ rfl)
      | (at_builtin; refine wpList_append_own _ rfl (.tmp 26) (.tmp 28) 69 rfl (w.heap.size + 1) 71 i0 (.agg #[.int .i64 0, .int .i64 0, .int .i64 0, .slice none 0 0, .int .i64 0]) 5 56 Try.underlying69 hif hz0 hz1 hz2 rfl (by decide) (.slice a4 (xs.length + 1) c4) _ _ rfl (hR6.row.alloc _) ⟨w4.heap.size, 0, none⟩ 1 1 [.int .i64 x.rc.kind, .int .i64 x.rc.key, .int .i64 x.rc.ver, .slice a1 x.rc.data.length c1, .int .i64 x.pair] rfl rfl (fun j u hj => Xk w4 _ _ _ _ _ _ j u hj) (by intro u hu; simp at hu; rcases hu with rfl | rfl | rfl | rfl | rfl <;> rfl) (by unfold maxLen; omega) (by omega) (by have := HSZ.out; simp; omega) ?_; intro v7 w7 hown7 hgrow7 _; have hR9 := hR6.step (x := x) (by decide) (fun b h => by have := HS2.out b h; omega) ⟨_, rfl, hu6.mono (fun _ h => .inl h)⟩ hgrow7 hown7; have g9 : Zm w w7 := Z1 (g6.trans (Zh _ _)) hgrow7 (fun k hk => by have := (hR6.row.lt k hk).1; omega); have hE9 := (Y9 hR6.row hgrow7 (Xp hR6.row (by omega)) (Zg hE6)).trans hE6; have hsl7 := Yv hown7; obtain ⟨a7, c7, hv7⟩ := hsl7; subst hv7; clear hgrow7 hown7 hR6 hE6 g6 hu6 hX6 x0 x1 x2 x3 x4))
     go_roundw
     case rel => exact ⟨k + 1, _, by omega, by go_num, by rw [HT2.out], by rw [HT2.out]; rw [hyl] at hR9; exact hR9, g9, hE9⟩
     case measure => simp [intOf]; omega
    | false =>
     have HT2 : Hid (Xl e (l.take (k + 1)) = (xs ++ [x], false)) := by show _ = _; rw [HT.out]; simp [Yr, hls]
     clear hls;rintro r w2 ⟨rfl, g2⟩;have hX2 := (g2.block _ (Zg hX1)).trans hX1;have hE2 := (g2.block _ (Zg hE1)).trans hE1;have hR2 := hR1.grow g2;have hu2 := hu1.grow g2;have gw2 := gw1.trans g2;replace HSZ : Hid (w.heap.size + 1 ≤ w2.heap.size) := Zg hE2;clear x0 x1 x2 x3 x4 e0 e1 e2 e3 e4 q0 q1 q2 q3 q4 hX1 hE1 hR hR1 hE hu hu1 he1 hg g1 g2 gw1 HT;obtain ⟨x0, x1, x2, x3, x4⟩ := Qa hX2 rfl rfl rfl rfl rfl;go_wp2_with (first
      | (at_builtin; refine wpList_append_own _ rfl (.tmp 26) (.tmp 28) 69 rfl (w.heap.size + 1) 71 i0 (.agg #[.int .i64 0, .int .i64 0, .int .i64 0, .slice none 0 0, .int .i64 0]) 5 56 Try.underlying69 hif hz0 hz1 hz2 rfl (by decide) (.slice a0 xs.length c0) _ _ rfl (hR2.row.alloc _) ⟨w2.heap.size, 0, none⟩ 1 1 [.int .i64 x.rc.kind, .int .i64 x.rc.key, .int .i64 x.rc.ver, .slice a1 x.rc.data.length c1, .int .i64 x.pair] rfl rfl (fun j u hj => Xk w2 _ _ _ _ _ _ j u hj) (by intro u hu; simp at hu; rcases hu with rfl | rfl | rfl | rfl | rfl <;> rfl) (by unfold maxLen; omega) (by omega) (by have := HSZ.out; simp; omega) ?_; intro v4 w4 hown4 hgrow4 _; have hR6 := hR2.step (x := x) (by decide) (fun b h => by have := HS2.out b h; omega) ⟨_, rfl, hu2.mono (fun _ h => .inl h)⟩ hgrow4 hown4; have g6 : Zm w w4 := Z1 (gw2.trans (Zh _ _)) hgrow4 (fun k hk => by have := (hR2.row.lt k hk).1; omega); have hE6 := (Y9 hR2.row hgrow4 (Xp hR2.row (by omega)) (Zg hE2)).trans hE2; have hsl := Yv hown4; obtain ⟨a4, c4, hv4⟩ := hsl; subst hv4; clear hgrow4 hown4 hR2 hE2 gw2 hu2 hX2 x0 x1 x2 x3 x4))
     go_roundw
     case rel => exact ⟨k + 1, _, by omega, by go_num, by rw [HT2.out], by rw [HT2.out]; exact hR6, g6, hE6⟩
     case measure => simp [intOf]; omega
  ·have hk' : k = l.length := by omega
   subst hk';rw [List.take_length] at hR;have HRE : Hid (Y5 e l = if (Xl e l).2 = true then (Xl e l).1 else (Xl e l).1 ++ [e]) := rfl;have hxl : (Xl e l).1.length ≤ 2 * l.length := Zbe e l;have HL : Hid (l.take l.length = l) := List.take_length;rw [HL.out];generalize Xl e l = st at *;obtain ⟨xs, dn⟩ := st;simp only at hR hxl;obtain ⟨a0, c0, rfl⟩ := hR.form;have HSZ : Hid (w.heap.size + 1 ≤ wr.heap.size) := Zg hE;have he1 := he.grow hg;cases dn with
   | true =>
    have hRR : R = xs := by rw [HR.out, HRE.out, if_pos rfl]
    subst hRR;have hfin := hR.slice.mono (Zbp (B := w.heap.size) (by omega));clear hR hE;go_wp2_with fail;go_ret;exact ⟨_, rfl, hfin, hg⟩
   | false =>
    have hRR : R = xs ++ [e] := by rw [HR.out, HRE.out, if_neg (by simp)]
    subst hRR;obtain ⟨e0, e1, e2, e3, e4⟩ := Qa hE rfl rfl rfl rfl rfl;go_wp2_with (first
     | (at_builtin; refine wpList_append_own _ rfl (.tmp 33) (.tmp 35) 69 rfl (w.heap.size + 1) 71 i0 (.agg #[.int .i64 0, .int .i64 0, .int .i64 0, .slice none 0 0, .int .i64 0]) 5 56 Try.underlying69 hif hz0 hz1 hz2 rfl (by decide) (.slice a0 xs.length c0) _ _ rfl (hR.row.alloc _) ⟨wr.heap.size, 0, none⟩ 1 1 [.int .i64 e.rc.kind, .int .i64 e.rc.key, .int .i64 e.rc.ver, .slice a e.rc.data.length c, .int .i64 e.pair] rfl rfl (fun j u hj => Xk wr _ _ _ _ _ _ j u hj) (by intro u hu; simp at hu; rcases hu with rfl | rfl | rfl | rfl | rfl <;> rfl) (by unfold maxLen; omega) (by omega) (by have := HSZ.out; simp; omega) ?_; intro v4 w4 hown4 hgrow4 _; have hR6 := hR.step (x := e) (by decide) (fun b h => by have := HS2.out b h; omega) ⟨_, rfl, he1.mono (fun _ h => .inl h)⟩ hgrow4 hown4; have g6 : Zm w w4 := Z1 (hg.trans (Zh _ _)) hgrow4 (fun k hk => by have := (hR.row.lt k hk).1; omega); have hsl := Yv hown4; obtain ⟨a4, c4, hv4⟩ := hsl; subst hv4; clear hgrow4 hown4 hR hE hg he1 e0 e1 e2 e3 e4))
    have hfin := hR6.slice.mono (Zbp (B := w.heap.size) (by omega));go_ret;exact ⟨_, rfl, hfin, g6⟩
end Go.Proofs.Ytpdnapbchcdhlaa
