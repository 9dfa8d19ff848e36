import Derived.Test.YtpdnapbchcdhlabMdlS
set_option maxHeartbeats 8000000
namespace Go.Proofs.Ytpdnapbchcdhlab
set_option maxRecDepth 100000
open Go.RowKit Go.Deep
open Plain Reg
variable {B k : Nat} {cur : Array Value} {l : List Rec} {w : World}
theorem Za5 (w : World) (n : Nat) (hn : n ≤ 1000) : ∃ c, c.size = n * 4 ∧ (Instr.makeSlice 45 (.int .i64 (n : Int)) (.int .i64 (n : Int))).run Try.prog w = .ok (.slice (some ⟨w.heap.size, 0, none⟩) n n) (w.alloc (.cells c 33)) := by
 obtain ⟨i0, hif, hz0, hz1, hz2⟩ := info_parts Xl;have h := run_make (P := Try.prog) w 45 33 i0 (.agg #[.int .i64 0, .int .i64 0, .int .i64 0, .slice none 0 0]) Try.underlying45 hif hz0 .i64 .i64 n n (by omega) (by omega) (by rw [hz2]; omega) (by omega);rw [h, hz1];exact ⟨_, size_madeCells _ _, by rw [Int.toNat_natCast]⟩
abbrev NoR : Nat → Prop := fun _ => False
structure X5 (B : Nat) (l : List Rec) (k : Nat) (cur : Array Value) (w : World) : Prop where
 row : w.heap[B]? = some (.cells cur 33 (0, 0))
 size : cur.size = l.length * 4
 each : ∀ i (hi : i < l.length), i < k → ∃ cs, Zl.enc (InS NoR B w) w l[i] cs ∧ ∀ (j : Nat) (u : Value), cs[j]? = some u → cur[i * 4 + j]? = some u
theorem X5.grow {w' : World} (h : X5 B l k cur w) (hg : Zi w w') : X5 B l k cur w' :=
 ⟨(hg.block _ (Zf h.row)).trans h.row, h.size, fun i hi hk => (h.each i hi hk).imp fun _ x => ⟨Zl.mono (Zl.keep x.1 fun b _ hb => hg.block b hb) (InS.grow hg), x.2⟩⟩
theorem Zb4 {c : Array Value} {o : Nat} (h : o + 4 ≤ c.size) (x0 x1 x2 x3 : Value) (i : Nat) : ((((c.setIfInBounds o x0).setIfInBounds (o + 1) x1).setIfInBounds (o + 2) x2).setIfInBounds (o + 3) x3)[i]? = if i = o then some x0 else if i = o + 1 then some x1 else if i = o + 2 then some x2 else if i = o + 3 then some x3 else c[i]? := by
 simp only [Array.getElem?_setIfInBounds, Array.size_setIfInBounds];by_cases h3 : o + 3 = i
 ·rw [if_pos h3, if_pos (by omega), if_neg (by omega), if_neg (by omega), if_neg (by omega), if_pos h3.symm]
 ·rw [if_neg h3];by_cases h2 : o + 2 = i
  ·rw [if_pos h2, if_pos (by omega), if_neg (by omega), if_neg (by omega), if_pos h2.symm]
  ·rw [if_neg h2];by_cases h1 : o + 1 = i
   ·rw [if_pos h1, if_pos (by omega), if_neg (by omega), if_pos h1.symm]
   ·rw [if_neg h1];by_cases h0 : o = i
    ·rw [if_pos h0, if_pos (by omega), if_pos h0.symm]
    ·rw [if_neg h0, if_neg (by omega), if_neg (by omega), if_neg (by omega), if_neg (by omega)]
theorem X5.put (h : X5 B l k cur w) (hk : k < l.length) {x0 x1 x2 x3 : Value} (hx : Zl.enc (InS NoR B w) w l[k] [x0, x1, x2, x3]) :
  X5 B l (k + 1) ((((cur.setIfInBounds (k * 4) x0).setIfInBounds (k * 4 + 1) x1).setIfInBounds (k * 4 + 2) x2).setIfInBounds (k * 4 + 3) x3)
   ((((w.setCell ⟨B, k * 4, none⟩ x0).setCell ⟨B, k * 4 + 1, none⟩ x1).setCell ⟨B, k * 4 + 2, none⟩ x2).setCell ⟨B, k * 4 + 3, none⟩ x3) := by
 have hg : Z5 B w ((((w.setCell ⟨B, k * 4, none⟩ x0).setCell ⟨B, k * 4 + 1, none⟩ x1).setCell ⟨B, k * 4 + 2, none⟩ x2).setCell ⟨B, k * 4 + 3, none⟩ x3) := ((((Z5.refl B w).set _ _ _).set _ _ _).set _ _ _).set _ _ _;have hrow := Y7 (Y7 (Y7 (Y7 h.row (k * 4) x0) (k * 4 + 1) x1) (k * 4 + 2) x2) (k * 4 + 3) x3;generalize ((((w.setCell ⟨B, k * 4, none⟩ x0).setCell ⟨B, k * 4 + 1, none⟩ x1).setCell ⟨B, k * 4 + 2, none⟩ x2).setCell ⟨B, k * 4 + 3, none⟩ x3) = w2 at *;have hne : ∀ b, InS NoR B w b → b ≠ B := by
  rintro b (h1 | ⟨_, c, f, h1⟩) rfl
  ·exact h1
  ·rw [h.row] at h1; injection h1 with h1; injection h1 with _ h1; exact absurd h1 (by decide)
 have hkp : ∀ b, InS NoR B w b → b < w.heap.size → w2.heap[b]? = w.heap[b]? := fun b hb hlt => hg.block b hlt (hne b hb)
 have hmo : ∀ b, InS NoR B w b → InS NoR B w2 b := fun b hb => Xa hb (fun x => x) fun ⟨k1, c, f, k2⟩ => ⟨k1, c, f, (hkp b hb (Zf k2)).trans k2⟩
 have hsz : k * 4 + 4 ≤ cur.size := by rw [h.size]; omega
 refine ⟨hrow, by simp [h.size], fun i hi hik => ?_⟩;by_cases e : i = k
 ·subst e;refine ⟨_, Zl.mono (Zl.keep hx hkp) hmo, fun j u hj => ?_⟩;rw [Zb4 hsz]
  match j, hj with
  | 0, hj => simp at hj; subst hj; simp
  | 1, hj => simp at hj; subst hj; simp
  | 2, hj => simp at hj; subst hj; simp
  | 3, hj => simp at hj; subst hj; simp
  | j + 4, hj => simp at hj
 ·obtain ⟨cs, h1, h2⟩ := h.each i hi (by omega);refine ⟨cs, Zl.mono (Zl.keep h1 hkp) hmo, fun j u hj => ?_⟩;have hj4 : j < 4 := by
   have h9 : cs.length = 4 := Zl.len h1;rw [← h9]; exact (List.getElem?_eq_some_iff.1 hj).1
  rw [Zb4 hsz, if_neg (by omega), if_neg (by omega), if_neg (by omega), if_neg (by omega)];exact h2 j u hj
theorem X5.out (h : X5 B l k cur w) (hk : l.length ≤ k) (hm : l.length ≤ 1000) : ∃ css, Yg Zl NoR B (.slice (some ⟨B, 0, none⟩) l.length l.length) l css w := by
 have hex : ∀ i, i < l.length → ∃ cs : List Value, (∀ hi : i < l.length, Zl.enc (InS NoR B w) w l[i] cs) ∧ ∀ (j : Nat) (u : Value), cs[j]? = some u → cur[i * 4 + j]? = some u := fun i hi => by
  obtain ⟨cs, h1, h2⟩ := h.each i hi (by omega);exact ⟨cs, fun _ => h1, h2⟩
 obtain ⟨f, hf⟩ := choose_lt hex;have hlen : ∀ c ∈ (List.range l.length).map f, c.length = 4 := by
  intro c hc2;obtain ⟨j, hj, rfl⟩ := List.mem_map.1 hc2;have hj' : j < l.length := by simpa using hj
  exact Zl.len ((hf j hj').1 hj')
 have hl1 : ((List.range l.length).map f).flatten.length = l.length * 4 := by rw [Yy _ hlen]; simp
 have hT : cur.toList.take (l.length * 4) = ((List.range l.length).map f).flatten := by
  apply List.ext_getElem?;intro j;by_cases hj : j < l.length * 4
  ·have hq : j / 4 < l.length := by omega
   have hjd : j / 4 * 4 + j % 4 = j := by omega
   have e1 := X3 ((List.range l.length).map f) (j / 4) (j % 4) (f (j / 4)) hlen (by simp [hq]) (by omega);rw [hjd] at e1;have hl4 := hlen (f (j / 4)) (by simp only [List.mem_map, List.mem_range]; exact ⟨_, hq, rfl⟩);have h2 := (hf _ hq).2 (j % 4) (f (j / 4))[j % 4] (List.getElem?_eq_getElem (by omega));rw [hjd] at h2;rw [e1, List.getElem?_take, if_pos hj, Array.getElem?_toList, h2, List.getElem?_eq_getElem (by omega)]
  ·rw [List.getElem?_eq_none (by rw [List.length_take]; omega), List.getElem?_eq_none (by rw [hl1]; omega)]
 exact ⟨(List.range l.length).map f, by simp, fun i hi => ⟨f i, by simp [hi], (hf i hi).1 hi⟩, hl1, .inr ⟨B, l.length, cur, rfl, Nat.le_refl _, h.row, Nat.le_refl _, by unfold maxLen; omega, h.size, hT⟩⟩
theorem X8 (S : Nat → Prop) (l : List Rec) (v : Value) (w : World) (hl : Zv S w v l) (hn : l.length ≤ 1000) (h8 : ∀ x ∈ l, x.data.length ≤ 8) :
  Calls Try.prog 62 #[v] w fun e w' => ∃ v' css, e = .returned v' ∧ Yg Zl NoR w.heap.size v' l css w' ∧ Zi w w' := by
 obtain ⟨ao, cp, rfl⟩ := hl.form;obtain ⟨c0, hc0, mk⟩ := Za5 w l.length hn;have g0 := Ze w (.cells c0 33);have hF0 : X5 w.heap.size l 0 c0 (w.alloc (.cells c0 33)) := ⟨Zs _ _ _, hc0, fun i _ h => by omega⟩;go_enter Try.func62, Try.ntmps62;go_wp2_with fail;clear mk;generalize World.alloc w _ = W at *;go_loopw [11] (fun i wr => ∃ k : Nat, k ≤ l.length ∧ i = .int .i64 k ∧ Zi w wr ∧ ∃ cur, X5 w.heap.size l k cur wr) (fun i _ => l.length - (intOf i).toNat)
 case atStart => exact ⟨0, Nat.zero_le _, rfl, g0, _, hF0⟩
 case round =>
  clear hF0 g0 hc0;obtain ⟨k, hk, rfl, hg, cur, hF⟩ := hrel;by_cases hlt : k < l.length
  ·obtain ⟨b, off, a1, c1, hv1, q0, q1, q2, q3, hu⟩ := Yf (hl.grow hg) k hlt;cases hv1;have HB : Hid (l[k].data.length ≤ 8) := h8 _ (List.getElem_mem hlt);have HP : Hid (∀ (w3 : World) (x0 x1 x2 x3 : Value), X5 w.heap.size l k cur w3 → Zl.enc (InS NoR w.heap.size w3) w3 l[k] [x0, x1, x2, x3] → _) := fun w3 x0 x1 x2 x3 h h2 => X5.put h hlt h2
   generalize l[k] = x at *;have g1 := Ze wr (.cells #[.int .i64 x.kind, .int .i64 x.key, .int .i64 x.ver, .slice a1 x.data.length c1] 33);have hX1 := Zs wr #[.int .i64 x.kind, .int .i64 x.key, .int .i64 x.ver, .slice a1 x.data.length c1] 33;have hF1 := hF.grow g1;have hu1 := hu.grow g1;have gw1 := hg.trans g1;clear hF hu hg g1;obtain ⟨x0, x1, x2, x3⟩ := Yt hX1 rfl rfl rfl rfl;go_wp2_with fail;refine (Kh x.kind x.key x.ver x.data _ _ (by have := HB.out; omega) hu1.p).mono ?_;rintro e w3 ⟨v3, rfl, ho, g3⟩;have hF3 := hF1.grow g3;have gw3 := gw1.trans g3;have hbi := Za1 NoR gw1.size ho;obtain ⟨a3, c3, rfl⟩ := Qv ho;have hp := HP.out w3 _ _ _ _ hF3 ⟨_, rfl, hbi⟩;have hsz : k * 4 + 4 ≤ cur.size := by rw [hF3.size]; omega
   have z0 := Zp hF3.row (k * 4) _ (Array.getElem?_eq_getElem (by omega));have z1 := Zp hF3.row (k * 4 + 1) _ (Array.getElem?_eq_getElem (by omega));have z2 := Zp hF3.row (k * 4 + 2) _ (Array.getElem?_eq_getElem (by omega));have z3 := Zp hF3.row (k * 4 + 3) _ (Array.getElem?_eq_getElem (by omega));have f0 := Xo hF3.row (k * 4);have f1 := Xo hF3.row (k * 4 + 1);have f2 := Xo hF3.row (k * 4 + 2);have f3 := Xo hF3.row (k * 4 + 3);have gE := (((((Z5.refl w.heap.size w3).set (k * 4) none (.int .i64 x.kind)).set (k * 4 + 1) none (.int .i64 x.key)).set (k * 4 + 2) none (.int .i64 x.ver)).set (k * 4 + 3) none (.slice a3 x.data.length c3)).grow gw3 (Nat.le_refl _);generalize cur[k * 4]'(by omega) = y0 at z0;generalize cur[k * 4 + 1]'(by omega) = y1 at z1;generalize cur[k * 4 + 2]'(by omega) = y2 at z2;generalize cur[k * 4 + 3]'(by omega) = y3 at z3;clear hF3 hF1 hbi ho hsz HP x0 x1 x2 x3 hX1 hu1 gw1 gw3 g3 q0 q1 q2 q3;go_wp2_with fail;go_roundw
   case rel => exact ⟨k + 1, by omega, by go_num, gE, _, hp⟩
   case measure => simp [intOf]; omega
  ·obtain ⟨css, hE⟩ := hF.out (by omega) hn;clear hF hl;go_wp2_with fail;go_ret;exact ⟨_, css, rfl, hE, hg⟩
end Go.Proofs.Ytpdnapbchcdhlab
