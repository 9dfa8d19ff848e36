import Derived.Test.YtikhknkpndhakabGreatRow
import Derived.Deep.Slices
set_option maxHeartbeats 8000000
namespace Go.Proofs.YtikhknkpndhakabGreat
set_option maxRecDepth 100000
open Go.RowKit Go.Deep
open Plain Reg
theorem Zsb {S0 : Nat → Prop} {B n size : Nat} {e : TypeId} {v : Value} {us : List Value} {w w3 : World} (hown : w.ownsRow B e size v n us) (hT : e ≠ 5) (hS0 : ∀ b, S0 b → b < B) (hg : w.grownBy w3 v.ownBlock) : ∀ b, InS S0 B w b → b < w.heap.size → w3.heap[b]? = w.heap[b]? := by
 intro b hb hlt;refine hg.block b hlt ?_;rcases hb with h | ⟨_, c, f, h⟩
 ·exact V6 hown (hS0 b h)
 ·exact Zq7 hown hT h
theorem Yr.ext {α : Type} {sh : Qn α} {S0 : Nat → Prop} {B : Nat} {v v' : Value} {xs ys : List α} {css yss : List (List Value)} {w w3 : World} (h : Yr sh S0 B v xs css w) (hT : sh.T ≠ 5) (hS0 : ∀ b, S0 b → b < B) (hl : yss.length = ys.length)
  (hy : ∀ i (hi : i < ys.length), ∃ cs, yss[i]? = some cs ∧ sh.enc (InS S0 B w) w ys[i] cs) (hg : w.grownBy w3 v.ownBlock) (hown : w3.ownsRow B sh.T sh.size v' (xs.length + ys.length) (css.flatten ++ yss.flatten)) : Yr sh S0 B v' (xs ++ ys) (css ++ yss) w3 := by
 have hk := Zsb (S0 := S0) h.row hT hS0 hg;have hm : ∀ b, InS S0 B w b → InS S0 B w3 b := fun b h1 => Xk h1 (fun x => x) fun ⟨k1, c, f, k2⟩ => ⟨k1, c, f, (hk b h1 (Zb k2)).trans k2⟩
 refine ⟨by simp [h.len, hl], fun i hi => ?_, by simpa using hown⟩;by_cases hi2 : i < xs.length
 ·obtain ⟨y, h1, h2⟩ := h.each i hi2;refine ⟨y, by rw [List.getElem?_append_left (by rw [h.len]; exact hi2)]; exact h1, ?_⟩;rw [List.getElem_append_left hi2]; exact sh.mono (sh.keep h2 hk) hm
 ·have hi3 : i - xs.length < ys.length := by simp at hi; omega
  obtain ⟨y, h1, h2⟩ := hy (i - xs.length) hi3;refine ⟨y, by rw [List.getElem?_append_right (by rw [h.len]; omega), h.len]; exact h1, ?_⟩;rw [List.getElem_append_right (by omega)]; exact sh.mono (sh.keep h2 hk) hm
theorem Vf {k : Nat} : ∀ (css : List (List Value)), (∀ c ∈ css, c.length = k) → css.flatten.length = css.length * k
 | [], _ => by simp
 | c :: css, h => by
  rw [List.flatten_cons, List.length_append, Vf css fun c hc => h c (by simp [hc]), h c (by simp), List.length_cons, Nat.add_mul]; omega
theorem Yr.app {α : Type} {sh : Qn α} {S0 S : Nat → Prop} {B bytes : Nat} {v u z : Value} {xs ys : List α} {css : List (List Value)} {w : World} {t : TypeId} (ty : TypeId) {i : TypeInfo} (ht : Tryz.prog.underlying t = some (.slice sh.T)) (hif : Tryz.prog.info? sh.T = some i) (hz : i.zero = some z) (hsize : i.size = sh.size) (hby : i.bytes = bytes) (hzs : z.cells.size = sh.size)
  (hsz : 0 < sh.size) (hT : sh.T ≠ 5) (hS0 : ∀ b, S0 b → b < B) (h : Yr sh S0 B v xs css w) (hy : Yd sh S w u ys) (hSS : ∀ b, S b → InS S0 B w b) (h63 : xs.length + ys.length ≤ maxLen) (hb : (xs.length + ys.length) * bytes ≤ 140737488355328) (hB : B ≤ w.heap.size) :
  ∃ v' w' css', (Builtin.append_ #[t, t] ty #[v, u]).run Tryz.prog w = .ok v' w' ∧ Yr sh S0 B v' (xs ++ ys) css' w' ∧ w.grownBy w' v.ownBlock := by
 rcases hy with ⟨ao, cap, rfl, rfl, h0⟩ | ⟨b, off, cap, hSb, rfl, hcap, hc⟩
 ·cases ao with
  | none =>
   obtain rfl := h0 rfl;exact ⟨v, w, css, run_append_owned_none (P := Tryz.prog) (w := w) B t ty sh.T i sh.size ht hif v xs.length css.flatten h.row, by simpa using h, ⟨rfl, rfl, rfl, Nat.le_refl _, fun _ _ _ => rfl⟩⟩
  | some ad =>
   obtain ⟨v', w', h1, h2, h3, -⟩ := run_append_own (P := Tryz.prog) (w := w) B t ty sh.T i z sh.size bytes ht hif hz hsize hby hzs hsz v xs.length css.flatten h.row ad 0 cap [] (by simp) (fun j u hj => by simp at hj) (by simp) (by simpa using h63) (by simpa using hb) hB;refine ⟨v', w', css ++ [], h1, ?_, h3⟩;exact h.ext hT hS0 rfl (fun i hi => by simp at hi) h3 (by simpa using h2)
 ·have hex : ∀ j, j < ys.length → ∃ cs : List Value, (∀ hj : j < ys.length, sh.enc S w ys[j] cs) ∧ ∀ (k : Nat) (u : Value), cs[k]? = some u → w.cell? ⟨b, off + j * sh.size + k, none⟩ = some u := fun j hj => by
   obtain ⟨cs, k1, k2⟩ := hc j hj;exact ⟨cs, fun _ => k1, k2⟩
  obtain ⟨f, hf⟩ := choose_lt hex;have hlen : ∀ c ∈ (List.range ys.length).map f, c.length = sh.size := by
   intro c hc2;obtain ⟨j, hj, rfl⟩ := List.mem_map.1 hc2;have hj' : j < ys.length := by simpa using hj
   exact sh.len ((hf j hj').1 hj')
  have hl1 : ((List.range ys.length).map f).flatten.length = ys.length * sh.size := by rw [Vf _ hlen]; simp
  have hcells : ∀ (j : Nat) (u : Value), ((List.range ys.length).map f).flatten[j]? = some u → w.cell? ((⟨b, off, none⟩ : Addr).add j) = some u := by
   intro j u hj;have hjl : j < ys.length * sh.size := by rw [← hl1]; exact (List.getElem?_eq_some_iff.1 hj).1
   have hq : j / sh.size < ys.length := Nat.div_lt_of_lt_mul (by rw [Nat.mul_comm]; exact hjl);have hr : j % sh.size < sh.size := Nat.mod_lt _ hsz;have hjd : j / sh.size * sh.size + j % sh.size = j := by rw [Nat.mul_comm]; exact Nat.div_add_mod j sh.size
   rw [← hjd, K9 _ (j / sh.size) (j % sh.size) (f (j / sh.size)) hlen (by simp [hq]) hr] at hj;have := (hf _ hq).2 _ _ hj;have e : (⟨b, off, none⟩ : Addr).add j = ⟨b, off + j, none⟩ := by
    unfold Addr.add;split
    ·rename_i h; rw [h]; rfl
    ·rfl
   rw [e, ← hjd, ← Nat.add_assoc]; exact this
  obtain ⟨v', w', h1, h2, h3, -⟩ := run_append_own (P := Tryz.prog) (w := w) B t ty sh.T i z sh.size bytes ht hif hz hsize hby hzs hsz v xs.length css.flatten h.row ⟨b, off, none⟩ ys.length cap ((List.range ys.length).map f).flatten hl1 hcells (fun u hu => by
   obtain ⟨cs, k1, k2⟩ := List.mem_flatten.1 hu;obtain ⟨j, hj, rfl⟩ := List.mem_map.1 k1;have hj' : j < ys.length := by simpa using hj
   exact sh.one ((hf j hj').1 hj') u k2) h63 hb hB
  refine ⟨v', w', _, h1, h.ext (yss := (List.range ys.length).map f) hT hS0 (by simp) (fun j hj => ⟨f j, by simp [hj], sh.mono ((hf j hj).1 hj) hSS⟩) h3 h2, h3⟩
end Go.Proofs.YtikhknkpndhakabGreat
namespace Go.Proofs.YtikhknkpndhakabGreat
set_option maxRecDepth 100000
open Go.RowKit
open Plain Reg
def Y1 (a b : Ent) : Bool := if a.rc.key = b.rc.key then (if a.rc.ver = b.rc.ver then decide (a.pair < b.pair) else decide (a.rc.ver < b.rc.ver)) else decide (a.rc.key < b.rc.key)
def Xq (e : Ent) (st : List Ent × Bool) (x : Ent) : List Ent × Bool := if st.2 = false ∧ Y1 e x = true then (st.1 ++ [e] ++ [x], true) else (st.1 ++ [x], st.2)
def Qx (e : Ent) (l : List Ent) : List Ent × Bool := l.foldl (Xq e) ([], false)
def Qa (e : Ent) (l : List Ent) : List Ent := if (Qx e l).2 = true then (Qx e l).1 else (Qx e l).1 ++ [e]
theorem Zol (x y : Ent) (a b : Option Addr) (c c' : Nat) (w : World) :
  Calls Tryz.prog 78 #[.agg #[.int .i64 x.rc.kind, .int .i64 x.rc.key, .int .i64 x.rc.ver, .slice a x.rc.data.length c, .int .i64 x.pair], .agg #[.int .i64 y.rc.kind, .int .i64 y.rc.key, .int .i64 y.rc.ver, .slice b y.rc.data.length c', .int .i64 y.pair]] w fun e w' => e = .returned (.bool (Y1 x y)) ∧ Zp w w' := by
 have gW := Zv w (.cells #[.int .i64 x.rc.kind, .int .i64 x.rc.key, .int .i64 x.rc.ver, .slice a x.rc.data.length c, .int .i64 x.pair] 54) (.cells #[.int .i64 y.rc.kind, .int .i64 y.rc.key, .int .i64 y.rc.ver, .slice b y.rc.data.length c', .int .i64 y.pair] 54);by_cases hk : x.rc.key = y.rc.key
 ·have d0 : (x.rc.key != y.rc.key) = false := by simp [hk]
  by_cases hv : x.rc.ver = y.rc.ver
  ·have d1 : (x.rc.ver != y.rc.ver) = false := by simp [hv]
   have HL : Hid (Y1 x y = decide (x.pair < y.pair)) := by show Y1 x y = _; unfold Y1; rw [if_pos hk, if_pos hv]
   rw [HL.out];clear hk hv;go_enter Tryz.func78, Tryz.ntmps78;go_wp2_with fail;go_ret;exact ⟨rfl, gW⟩
  ·have d1 : (x.rc.ver != y.rc.ver) = true := by simp [hv]
   have HL : Hid (Y1 x y = decide (x.rc.ver < y.rc.ver)) := by show Y1 x y = _; unfold Y1; rw [if_pos hk, if_neg hv]
   rw [HL.out];clear hk hv;go_enter Tryz.func78, Tryz.ntmps78;go_wp2_with fail;go_ret;exact ⟨rfl, gW⟩
 ·have d0 : (x.rc.key != y.rc.key) = true := by simp [hk]
  have HL : Hid (Y1 x y = decide (x.rc.key < y.rc.key)) := by show Y1 x y = _; unfold Y1; rw [if_neg hk]
  rw [HL.out];clear hk;go_enter Tryz.func78, Tryz.ntmps78;go_wp2_with fail;go_ret;exact ⟨rfl, gW⟩
theorem Zhf (e : Ent) (l : List Ent) : (Qx e l).1.length ≤ 2 * l.length := by
 have key : ∀ (l : List Ent) (st : List Ent × Bool), (l.foldl (Xq e) st).1.length ≤ st.1.length + 2 * l.length := by
  intro l
  induction l with
  | nil => intro st; simp
  | cons x l ih =>
   intro st;rw [List.foldl_cons, List.length_cons];have h1 := ih (Xq e st x);have h2 : (Xq e st x).1.length ≤ st.1.length + 2 := by unfold Xq; split <;> simp
   omega
 have h := key l ([], false);rw [List.length_nil] at h;unfold Qx;omega
theorem Zmh (e : Ent) (l : List Ent) (k : Nat) (h : k < l.length) : Qx e (l.take (k + 1)) = Xq e (Qx e (l.take k)) l[k] := by
 unfold Qx;rw [List.take_succ_eq_append_getElem h, List.foldl_append]; rfl
theorem Zdp (S : Nat → Prop) (l : List Ent) (e : Ent) (v : Value) (a : Option Addr) (c : Nat) (w : World) (hS : ∀ b, S b → b < w.heap.size) (hl : Ys S w v l) (he : Z0 S w (.slice a e.rc.data.length c) e.rc.data) (hn : l.length ≤ 1000000) :
  Calls Tryz.prog 42 #[v, .agg #[.int .i64 e.rc.kind, .int .i64 e.rc.key, .int .i64 e.rc.ver, .slice a e.rc.data.length c, .int .i64 e.pair]] w fun r w' => ∃ v', r = .returned v' ∧ Ys (Zx S w.heap.size) w' v' (Qa e l) ∧ Zp w w' := by
 obtain ⟨i0, hif, hz0, hz1, hz2⟩ := info_parts Zab;obtain ⟨ao, cp, rfl⟩ := hl.form;have g0 := Zd w (.cells #[.int .i64 e.rc.kind, .int .i64 e.rc.key, .int .i64 e.rc.ver, .slice a e.rc.data.length c, .int .i64 e.pair] 54);have hE0 := Zn w #[.int .i64 e.rc.kind, .int .i64 e.rc.key, .int .i64 e.rc.ver, .slice a e.rc.data.length c, .int .i64 e.pair] 54;obtain ⟨R, hR⟩ : ∃ R, R = Qa e l := ⟨_, rfl⟩;rw [← hR];have HR : Hid _ := hR;clear hR;go_enter Tryz.func42, Tryz.ntmps42;go_wp2_with fail;generalize World.alloc w _ = W at *;go_loopw [5, 6, 11] (fun o dn i wr => ∃ (k : Nat) (css : List (List Value)), k ≤ l.length ∧ i = .int .i64 k ∧ dn = .bool (Qx e (l.take k)).2 ∧ Yr Y5 S (w.heap.size + 1) o (Qx e (l.take k)).1 css wr ∧ Zp w wr ∧ wr.heap[w.heap.size]? = some (.cells #[.int .i64 e.rc.kind, .int .i64 e.rc.key, .int .i64 e.rc.ver, .slice a e.rc.data.length c, .int .i64 e.pair] 54 (0, 0))) (fun _ _ i _ => l.length - (intOf i).toNat)
 case atStart => exact ⟨0, [], Nat.zero_le _, rfl, rfl, Yr.nil _ _ _ _, g0, hE0⟩
 case round =>
  clear g0 hE0;obtain ⟨k, css, hk, rfl, rfl, hR, hg, hE⟩ := hrel;have HS2 : Hid (∀ b, S b → b < w.heap.size) := hS;by_cases hlt : k < l.length
  ·obtain ⟨b, off, a1, c1, hv1, q0, q1, q2, q3, q4, hu⟩ := Vj (hl.grow hg) k hlt;cases hv1;have HT : Hid (Qx e (l.take (k + 1)) = Xq e (Qx e (l.take k)) l[k]) := Zmh e l k hlt;have hxl : (Qx e (l.take k)).1.length ≤ 2 * k := by have := Zhf e (l.take k); rw [List.length_take] at this; omega
   generalize l[k] = x at *;generalize Qx e (l.take k) = st at *;obtain ⟨xs, dn⟩ := st;simp only at hR hxl;obtain ⟨a0, c0, rfl⟩ := hR.form;have g1 := Zd wr (.cells #[.int .i64 x.rc.kind, .int .i64 x.rc.key, .int .i64 x.rc.ver, .slice a1 x.rc.data.length c1, .int .i64 x.pair] 54);have hX1 := Zn wr #[.int .i64 x.rc.kind, .int .i64 x.rc.key, .int .i64 x.rc.ver, .slice a1 x.rc.data.length c1, .int .i64 x.pair] 54;have hR1 := hR.grow g1;have hE1 := (g1.block _ (Zb hE)).trans hE;have hu1 := hu.grow g1;have gw1 := hg.trans g1;have he1 := he.grow gw1;have HSZ : Hid (w.heap.size + 1 ≤ wr.heap.size) := Zb hE;cases dn with
   | true =>
    have HT2 : Hid (Qx e (l.take (k + 1)) = (xs ++ [x], true)) := by show _ = _; rw [HT.out]; rfl
    obtain ⟨x0, x1, x2, x3, x4⟩ := Q3 hX1 rfl rfl rfl rfl rfl;have hnew : ∀ (j : Nat) u, ([.int .i64 x.rc.kind, .int .i64 x.rc.key, .int .i64 x.rc.ver, .slice a1 x.rc.data.length c1, .int .i64 x.pair] : List Value)[j]? = some u → ((wr.alloc (.cells #[.int .i64 x.rc.kind, .int .i64 x.rc.key, .int .i64 x.rc.ver, .slice a1 x.rc.data.length c1, .int .i64 x.pair] 54)).alloc (.cells #[.int .i64 x.rc.kind, .int .i64 x.rc.key, .int .i64 x.rc.ver, .slice a1 x.rc.data.length c1, .int .i64 x.pair] 54)).cell? ((⟨wr.heap.size + 1, 0, none⟩ : Addr).add j) = some u := by
     intro j u hj;have h := Vy (wr.alloc (.cells #[.int .i64 x.rc.kind, .int .i64 x.rc.key, .int .i64 x.rc.ver, .slice a1 x.rc.data.length c1, .int .i64 x.pair] 54)) _ _ _ _ _ 54 j u hj;rw [World.size_alloc] at h;exact h
    clear hX1 hR hE hu hg g1 HT;go_wp2_with (first | (at_builtin; refine wpList_append_own _ rfl (.tmp 26) (.tmp 28) 31 rfl (w.heap.size + 1) 54 i0 (.agg #[.int .i64 0, .int .i64 0, .int .i64 0, .slice none 0 0, .int .i64 0]) 5 56 Tryz.underlying31 hif hz0 hz1 hz2 rfl (by decide) (.slice a0 xs.length c0) _ _ rfl (hR1.row.alloc _) ⟨wr.heap.size + 1, 0, none⟩ 1 1 [.int .i64 x.rc.kind, .int .i64 x.rc.key, .int .i64 x.rc.ver, .slice a1 x.rc.data.length c1, .int .i64 x.pair] rfl rfl hnew (by intro u hu; simp at hu; rcases hu with rfl | rfl | rfl | rfl | rfl <;> rfl) (by unfold maxLen; omega) (by omega) (by have := HSZ.out; simp; omega) ?_; intro v4 w4 hown4 hgrow4 _; have hR6 := hR1.step (x := x) (by decide) (fun b h => by have := HS2.out b h; omega) ⟨_, rfl, hu1.mono (fun _ h => .inl h)⟩ hgrow4 hown4; have g6 : Zp w w4 := Z7 (gw1.trans (Zd _ _)) hgrow4 (fun k hk => by have := (hR1.row.lt k hk).1; omega); have hE6 := (Xx hR1.row hgrow4 (V6 hR1.row (by omega)) (Zb hE1)).trans hE1; have hsl := Y0 hown4; obtain ⟨a4, c4, hv4⟩ := hsl; subst hv4; clear hgrow4 hown4 hR1 hnew hE1 gw1 hu1 he1));go_roundw
    case rel => exact ⟨k + 1, _, by omega, by go_num, by rw [HT2.out], by rw [HT2.out]; exact hR6, g6, hE6⟩
    case measure => simp [intOf]; omega
   | false =>
    obtain ⟨x0, x1, x2, x3, x4⟩ := Q3 hX1 rfl rfl rfl rfl rfl;obtain ⟨e0, e1, e2, e3, e4⟩ := Q3 hE1 rfl rfl rfl rfl rfl;have HNE : Hid (some wr.heap.size ≠ (Value.slice a0 xs.length c0).ownBlock) := Zu6 hR.row (Nat.le_refl _);go_wp2_with fail;refine (Zol e x _ _ _ _ _).mono ?_;cases hls : Y1 e x with
    | true =>
     have HT2 : Hid (Qx e (l.take (k + 1)) = ((xs ++ [e]) ++ [x], true)) := by show _ = _; rw [HT.out]; simp [Xq, hls]
     clear hls;rintro r w2 ⟨rfl, g2⟩;have hX2 := (g2.block _ (Zb hX1)).trans hX1;have hE2 := (g2.block _ (Zb hE1)).trans hE1;have hR2 := hR1.grow g2;have hu2 := hu1.grow g2;have he2 := he1.grow g2;have gw2 := gw1.trans g2;replace HSZ : Hid (w.heap.size + 1 ≤ w2.heap.size) := Zb hE2;clear x0 x1 x2 x3 x4 e0 e1 e2 e3 e4 q0 q1 q2 q3 q4 hX1 hE1 hR hR1 hE hu hu1 he1 hg g1 g2 gw1 HT;obtain ⟨e0, e1, e2, e3, e4⟩ := Q3 hE2 rfl rfl rfl rfl rfl;go_wp2_with (first
      | (at_builtin; refine wpList_append_own _ rfl (.tmp 22) (.tmp 24) 31 rfl (w.heap.size + 1) 54 i0 (.agg #[.int .i64 0, .int .i64 0, .int .i64 0, .slice none 0 0, .int .i64 0]) 5 56 Tryz.underlying31 hif hz0 hz1 hz2 rfl (by decide) (.slice a0 xs.length c0) _ _ rfl (hR2.row.alloc _) ⟨w2.heap.size, 0, none⟩ 1 1 [.int .i64 e.rc.kind, .int .i64 e.rc.key, .int .i64 e.rc.ver, .slice a e.rc.data.length c, .int .i64 e.pair] rfl rfl (fun j u hj => Vy w2 _ _ _ _ _ _ j u hj) (by intro u hu; simp at hu; rcases hu with rfl | rfl | rfl | rfl | rfl <;> rfl) (by unfold maxLen; omega) (by omega) (by have := HSZ.out; simp; omega) ?_; intro v4 w4 hown4 hgrow4 _; have hR6 := hR2.step (x := e) (by decide) (fun b h => by have := HS2.out b h; omega) ⟨_, rfl, he2.mono (fun _ h => .inl h)⟩ hgrow4 hown4; have g6 : Zp w w4 := Z7 (gw2.trans (Zd _ _)) hgrow4 (fun k hk => by have := (hR2.row.lt k hk).1; omega); have hE6 := (Xx hR2.row hgrow4 (V6 hR2.row (by omega)) (Zb hE2)).trans hE2; have hX6 := (Xx hR2.row hgrow4 HNE.out (Zb hX2)).trans hX2; have hk6 := Zid (S0 := S) hR2.row (by decide) (fun b h => by have := HS2.out b h; omega) hgrow4; have hu6 := hu2.keeps (fun b h1 h2 => hk6 b (.inl h1) h2); have hsl := Y0 hown4; obtain ⟨a4, c4, hv4⟩ := hsl; subst hv4; clear hgrow4 hown4 hR2 hE2 gw2 hu2 he2 hX2 hk6 e0 e1 e2 e3 e4; have hyl : (xs ++ [e]).length = xs.length + 1 := List.length_append; replace HSZ : Hid (w.heap.size + 1 ≤ w4.heap.size) := Zb hE6; have x0 := Ze hX6 0 _ rfl; have x1 := Ze hX6 1 _ rfl; have x2 := Ze hX6 2 _ rfl; have x3 := Ze hX6 3 _ rfl; have x4 := Ze hX6 4 _ rfl)
      | (at_builtin; refine wpList_append_own _ rfl (.tmp 26) (.tmp 28) 31 rfl (w.heap.size + 1) 54 i0 (.agg #[.int .i64 0, .int .i64 0, .int .i64 0, .slice none 0 0, .int .i64 0]) 5 56 Tryz.underlying31 hif hz0 hz1 hz2 rfl (by decide) (.slice a4 (xs.length + 1) c4) _ _ rfl (hR6.row.alloc _) ⟨w4.heap.size, 0, none⟩ 1 1 [.int .i64 x.rc.kind, .int .i64 x.rc.key, .int .i64 x.rc.ver, .slice a1 x.rc.data.length c1, .int .i64 x.pair] rfl rfl (fun j u hj => Vy w4 _ _ _ _ _ _ j u hj) (by intro u hu; simp at hu; rcases hu with rfl | rfl | rfl | rfl | rfl <;> rfl) (by unfold maxLen; omega) (by omega) (by have := HSZ.out; simp; omega) ?_; intro v7 w7 hown7 hgrow7 _; have hR9 := hR6.step (x := x) (by decide) (fun b h => by have := HS2.out b h; omega) ⟨_, rfl, hu6.mono (fun _ h => .inl h)⟩ hgrow7 hown7; have g9 : Zp w w7 := Z7 (g6.trans (Zd _ _)) hgrow7 (fun k hk => by have := (hR6.row.lt k hk).1; omega); have hE9 := (Xx hR6.row hgrow7 (V6 hR6.row (by omega)) (Zb hE6)).trans hE6; have hsl7 := Y0 hown7; obtain ⟨a7, c7, hv7⟩ := hsl7; subst hv7; clear hgrow7 hown7 hR6 hE6 g6 hu6 hX6 x0 x1 x2 x3 x4))
     go_roundw
     case rel => exact ⟨k + 1, _, by omega, by go_num, by rw [HT2.out], by rw [HT2.out]; rw [hyl] at hR9; exact hR9, g9, hE9⟩
     case measure => simp [intOf]; omega
    | false =>
     have HT2 : Hid (Qx e (l.take (k + 1)) = (xs ++ [x], false)) := by show _ = _; rw [HT.out]; simp [Xq, hls]
     clear hls;rintro r w2 ⟨rfl, g2⟩;have hX2 := (g2.block _ (Zb hX1)).trans hX1;have hE2 := (g2.block _ (Zb hE1)).trans hE1;have hR2 := hR1.grow g2;have hu2 := hu1.grow g2;have gw2 := gw1.trans g2;replace HSZ : Hid (w.heap.size + 1 ≤ w2.heap.size) := Zb hE2;clear x0 x1 x2 x3 x4 e0 e1 e2 e3 e4 q0 q1 q2 q3 q4 hX1 hE1 hR hR1 hE hu hu1 he1 hg g1 g2 gw1 HT;obtain ⟨x0, x1, x2, x3, x4⟩ := Q3 hX2 rfl rfl rfl rfl rfl;go_wp2_with (first
      | (at_builtin; refine wpList_append_own _ rfl (.tmp 26) (.tmp 28) 31 rfl (w.heap.size + 1) 54 i0 (.agg #[.int .i64 0, .int .i64 0, .int .i64 0, .slice none 0 0, .int .i64 0]) 5 56 Tryz.underlying31 hif hz0 hz1 hz2 rfl (by decide) (.slice a0 xs.length c0) _ _ rfl (hR2.row.alloc _) ⟨w2.heap.size, 0, none⟩ 1 1 [.int .i64 x.rc.kind, .int .i64 x.rc.key, .int .i64 x.rc.ver, .slice a1 x.rc.data.length c1, .int .i64 x.pair] rfl rfl (fun j u hj => Vy w2 _ _ _ _ _ _ j u hj) (by intro u hu; simp at hu; rcases hu with rfl | rfl | rfl | rfl | rfl <;> rfl) (by unfold maxLen; omega) (by omega) (by have := HSZ.out; simp; omega) ?_; intro v4 w4 hown4 hgrow4 _; have hR6 := hR2.step (x := x) (by decide) (fun b h => by have := HS2.out b h; omega) ⟨_, rfl, hu2.mono (fun _ h => .inl h)⟩ hgrow4 hown4; have g6 : Zp w w4 := Z7 (gw2.trans (Zd _ _)) hgrow4 (fun k hk => by have := (hR2.row.lt k hk).1; omega); have hE6 := (Xx hR2.row hgrow4 (V6 hR2.row (by omega)) (Zb hE2)).trans hE2; have hsl := Y0 hown4; obtain ⟨a4, c4, hv4⟩ := hsl; subst hv4; clear hgrow4 hown4 hR2 hE2 gw2 hu2 hX2 x0 x1 x2 x3 x4))
     go_roundw
     case rel => exact ⟨k + 1, _, by omega, by go_num, by rw [HT2.out], by rw [HT2.out]; exact hR6, g6, hE6⟩
     case measure => simp [intOf]; omega
  ·have hk' : k = l.length := by omega
   subst hk';rw [List.take_length] at hR;have HRE : Hid (Qa e l = if (Qx e l).2 = true then (Qx e l).1 else (Qx e l).1 ++ [e]) := rfl;have hxl : (Qx e l).1.length ≤ 2 * l.length := Zhf e l;have HL : Hid (l.take l.length = l) := List.take_length;rw [HL.out];generalize Qx e l = st at *;obtain ⟨xs, dn⟩ := st;simp only at hR hxl;obtain ⟨a0, c0, rfl⟩ := hR.form;have HSZ : Hid (w.heap.size + 1 ≤ wr.heap.size) := Zb hE;have he1 := he.grow hg;cases dn with
   | true =>
    have hRR : R = xs := by rw [HR.out, HRE.out, if_pos rfl]
    subst hRR;have hfin := hR.slice.mono (Ya (B := w.heap.size) (by omega));clear hR hE;go_wp2_with fail;go_ret;exact ⟨_, rfl, hfin, hg⟩
   | false =>
    have hRR : R = xs ++ [e] := by rw [HR.out, HRE.out, if_neg (by simp)]
    subst hRR;obtain ⟨e0, e1, e2, e3, e4⟩ := Q3 hE rfl rfl rfl rfl rfl;go_wp2_with (first
     | (at_builtin; refine wpList_append_own _ rfl (.tmp 33) (.tmp 35) 31 rfl (w.heap.size + 1) 54 i0 (.agg #[.int .i64 0, .int .i64 0, .int .i64 0, .slice none 0 0, .int .i64 0]) 5 56 Tryz.underlying31 hif hz0 hz1 hz2 rfl (by decide) (.slice a0 xs.length c0) _ _ rfl (hR.row.alloc _) ⟨wr.heap.size, 0, none⟩ 1 1 [.int .i64 e.rc.kind, .int .i64 e.rc.key, .int .i64 e.rc.ver, .slice a e.rc.data.length c, .int .i64 e.pair] rfl rfl (fun j u hj => Vy wr _ _ _ _ _ _ j u hj) (by intro u hu; simp at hu; rcases hu with rfl | rfl | rfl | rfl | rfl <;> rfl) (by unfold maxLen; omega) (by omega) (by have := HSZ.out; simp; omega) ?_; intro v4 w4 hown4 hgrow4 _; have hR6 := hR.step (x := e) (by decide) (fun b h => by have := HS2.out b h; omega) ⟨_, rfl, he1.mono (fun _ h => .inl h)⟩ hgrow4 hown4; have g6 : Zp w w4 := Z7 (hg.trans (Zd _ _)) hgrow4 (fun k hk => by have := (hR.row.lt k hk).1; omega); have hsl := Y0 hown4; obtain ⟨a4, c4, hv4⟩ := hsl; subst hv4; clear hgrow4 hown4 hR hE hg he1 e0 e1 e2 e3 e4))
    have hfin := hR6.slice.mono (Ya (B := w.heap.size) (by omega));go_ret;exact ⟨_, rfl, hfin, g6⟩
end Go.Proofs.YtikhknkpndhakabGreat
