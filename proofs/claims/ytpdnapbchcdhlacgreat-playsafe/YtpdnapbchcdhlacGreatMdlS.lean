import Derived.Test.YtpdnapbchcdhlacGreatRStore
set_option maxHeartbeats 8000000
namespace Go.Proofs.YtpdnapbchcdhlacGreat
set_option maxRecDepth 100000
open Go.RowKit
open Plain Reg
def Zv7 : Option Nat → Int
 | none => -1
 | some i => (i : Int)
theorem Zno (K : Nat) (caps : Array Value) (P : Rec → Bool) (S : Nat → Prop) (l : List Rec) (v : Value) (w : World) (hK : ∀ (args : Array Value) (w : World), (callFunc K args).run Tryz.prog w = .ok (.enter K args) w) (hl : Qs S w v l) (hn : l.length ≤ 1000000)
  (hc : ∀ (x : Rec) (a : Option Addr) (c : Nat) (w' : World), x ∈ l → Zn w w' → Z0 S w' (.slice a x.data.length c) x.data → Calls Tryz.prog K (#[.agg #[.int .i64 x.kind, .int .i64 x.key, .int .i64 x.ver, .slice a x.data.length c]] ++ caps) w' fun e w2 => e = .returned (.bool (P x)) ∧ Zn w' w2) :
  Calls Tryz.prog 131 #[v, .func (.func K) #[] caps] w fun e w' => e = .returned (.int .i64 (Zv7 (l.findIdx? P))) ∧ Zn w w' := by
 obtain ⟨ao, cp, rfl⟩ := hl.form;obtain ⟨R, hR⟩ : ∃ R, R = Zv7 (l.findIdx? P) := ⟨_, rfl⟩;rw [← hR];have HR : Hid _ := hR;clear hR;go_enter Tryz.func131, Tryz.ntmps131;go_wp2_with fail;go_loopw [8] (fun i wr => ∃ k : Nat, k ≤ l.length ∧ i = .int .i64 k ∧ Hid (∀ x ∈ l.take k, P x = false) ∧ Zn w wr) (fun i _ => l.length - (intOf i).toNat)
 case atStart => exact ⟨0, Nat.zero_le _, rfl, (by show ∀ _, _; simp), Zn.refl _⟩
 case round =>
  obtain ⟨k, hk, rfl, HN, hg⟩ := hrel;by_cases hlt : k < l.length
  ·obtain ⟨b, off, a1, c1, hv1, q0, q1, q2, q3, hu⟩ := Jx (hl.grow hg) k hlt;cases hv1;have HM : Hid (l[k] ∈ l) := List.getElem_mem hlt;have HF : Hid (P l[k] = true → R = (k : Int)) := fun h => by rw [HR.out, Zgv hlt HN.out h]; rfl
   have HT : Hid (P l[k] = false → ∀ x ∈ l.take (k + 1), P x = false) := fun h x hx => by
    rw [List.take_succ_eq_append_getElem hlt] at hx;rcases List.mem_append.1 hx with h1 | h1
    ·exact HN.out x h1
    ·rw [List.mem_singleton.1 h1]; exact h
   generalize l[k] = x at *;go_wp2_with fail;refine (hc x a1 c1 _ HM.out hg hu).mono ?_;rintro e w2 ⟨rfl, g2⟩;have gw := hg.trans g2;clear g2 hg q0 q1 q2 q3 hu;obtain ⟨B, hB⟩ : ∃ B, B = P x := ⟨_, rfl⟩;rw [← hB];have HB : Hid _ := hB;clear hB;cases B with
   | false =>
    have HT2 : Hid _ := HT.out HB.out.symm;clear HT HF HB;go_wp2_with fail;go_roundw
    case rel => exact ⟨k + 1, by omega, by go_num, HT2, gw⟩
    case measure => simp [intOf]; omega
   | true =>
    obtain rfl : R = (k : Int) := HF.out HB.out.symm;clear HT HF HB HR;go_wp2_with fail;go_ret;exact ⟨rfl, gw⟩
  ·obtain rfl : R = -1 := by rw [HR.out, Zgu fun x hx => HN.out x (by rw [List.take_of_length_le (by omega)]; exact hx)]; rfl
   clear HR;go_wp2_with fail;go_ret;exact ⟨rfl, hg⟩
end Go.Proofs.YtpdnapbchcdhlacGreat
namespace Go.Proofs.YtpdnapbchcdhlacGreat
set_option maxRecDepth 100000
open Go.RowKit Go.Deep
open Plain Reg
variable {B k : Nat} {cur : Array Value} {l : List Rec} {w : World}
theorem Zkw (w : World) (n : Nat) (hn : n ≤ 1000) : ∃ c, c.size = n * 4 ∧ (Instr.makeSlice 58 (.int .i64 (n : Int)) (.int .i64 (n : Int))).run Tryz.prog w = .ok (.slice (some ⟨w.heap.size, 0, none⟩) n n) (w.alloc (.cells c 61)) := by
 obtain ⟨i0, hif, hz0, hz1, hz2⟩ := info_parts Kv;have h := run_make (P := Tryz.prog) w 58 61 i0 (.agg #[.int .i64 0, .int .i64 0, .int .i64 0, .slice none 0 0]) Tryz.underlying58 hif hz0 .i64 .i64 n n (by omega) (by omega) (by rw [hz2]; omega) (by omega);rw [h, hz1];exact ⟨_, size_madeCells _ _, by rw [Int.toNat_natCast]⟩
abbrev NoR : Nat → Prop := fun _ => False
structure K6 (B : Nat) (l : List Rec) (k : Nat) (cur : Array Value) (w : World) : Prop where
 row : w.heap[B]? = some (.cells cur 61 (0, 0))
 size : cur.size = l.length * 4
 each : ∀ i (hi : i < l.length), i < k → ∃ cs, Yo.enc (InS NoR B w) w l[i] cs ∧ ∀ (j : Nat) (u : Value), cs[j]? = some u → cur[i * 4 + j]? = some u
theorem K6.grow {w' : World} (h : K6 B l k cur w) (hg : Zn w w') : K6 B l k cur w' :=
 ⟨(hg.block _ (Za h.row)).trans h.row, h.size, fun i hi hk => (h.each i hi hk).imp fun _ x => ⟨Yo.mono (Yo.keep x.1 fun b _ hb => hg.block b hb) (InS.grow hg), x.2⟩⟩
theorem Zxn {c : Array Value} {o : Nat} (h : o + 4 ≤ c.size) (x0 x1 x2 x3 : Value) (i : Nat) : ((((c.setIfInBounds o x0).setIfInBounds (o + 1) x1).setIfInBounds (o + 2) x2).setIfInBounds (o + 3) x3)[i]? = if i = o then some x0 else if i = o + 1 then some x1 else if i = o + 2 then some x2 else if i = o + 3 then some x3 else c[i]? := by
 simp only [Array.getElem?_setIfInBounds, Array.size_setIfInBounds];by_cases h3 : o + 3 = i
 ·rw [if_pos h3, if_pos (by omega), if_neg (by omega), if_neg (by omega), if_neg (by omega), if_pos h3.symm]
 ·rw [if_neg h3];by_cases h2 : o + 2 = i
  ·rw [if_pos h2, if_pos (by omega), if_neg (by omega), if_neg (by omega), if_pos h2.symm]
  ·rw [if_neg h2];by_cases h1 : o + 1 = i
   ·rw [if_pos h1, if_pos (by omega), if_neg (by omega), if_pos h1.symm]
   ·rw [if_neg h1];by_cases h0 : o = i
    ·rw [if_pos h0, if_pos (by omega), if_pos h0.symm]
    ·rw [if_neg h0, if_neg (by omega), if_neg (by omega), if_neg (by omega), if_neg (by omega)]
theorem K6.put (h : K6 B l k cur w) (hk : k < l.length) {x0 x1 x2 x3 : Value} (hx : Yo.enc (InS NoR B w) w l[k] [x0, x1, x2, x3]) :
  K6 B l (k + 1) ((((cur.setIfInBounds (k * 4) x0).setIfInBounds (k * 4 + 1) x1).setIfInBounds (k * 4 + 2) x2).setIfInBounds (k * 4 + 3) x3)
   ((((w.setCell ⟨B, k * 4, none⟩ x0).setCell ⟨B, k * 4 + 1, none⟩ x1).setCell ⟨B, k * 4 + 2, none⟩ x2).setCell ⟨B, k * 4 + 3, none⟩ x3) := by
 have hg : Zo B w ((((w.setCell ⟨B, k * 4, none⟩ x0).setCell ⟨B, k * 4 + 1, none⟩ x1).setCell ⟨B, k * 4 + 2, none⟩ x2).setCell ⟨B, k * 4 + 3, none⟩ x3) := ((((Zo.refl B w).set _ _ _).set _ _ _).set _ _ _).set _ _ _;have hrow := Ye (Ye (Ye (Ye h.row (k * 4) x0) (k * 4 + 1) x1) (k * 4 + 2) x2) (k * 4 + 3) x3;generalize ((((w.setCell ⟨B, k * 4, none⟩ x0).setCell ⟨B, k * 4 + 1, none⟩ x1).setCell ⟨B, k * 4 + 2, none⟩ x2).setCell ⟨B, k * 4 + 3, none⟩ x3) = w2 at *;have hne : ∀ b, InS NoR B w b → b ≠ B := by
  rintro b (h1 | ⟨_, c, f, h1⟩) rfl
  ·exact h1
  ·rw [h.row] at h1; injection h1 with h1; injection h1 with _ h1; exact absurd h1 (by decide)
 have hkp : ∀ b, InS NoR B w b → b < w.heap.size → w2.heap[b]? = w.heap[b]? := fun b hb hlt => hg.block b hlt (hne b hb)
 have hmo : ∀ b, InS NoR B w b → InS NoR B w2 b := fun b hb => Xq hb (fun x => x) fun ⟨k1, c, f, k2⟩ => ⟨k1, c, f, (hkp b hb (Za k2)).trans k2⟩
 have hsz : k * 4 + 4 ≤ cur.size := by rw [h.size]; omega
 refine ⟨hrow, by simp [h.size], fun i hi hik => ?_⟩;by_cases e : i = k
 ·subst e;refine ⟨_, Yo.mono (Yo.keep hx hkp) hmo, fun j u hj => ?_⟩;rw [Zxn hsz]
  match j, hj with
  | 0, hj => simp at hj; subst hj; simp
  | 1, hj => simp at hj; subst hj; simp
  | 2, hj => simp at hj; subst hj; simp
  | 3, hj => simp at hj; subst hj; simp
  | j + 4, hj => simp at hj
 ·obtain ⟨cs, h1, h2⟩ := h.each i hi (by omega);refine ⟨cs, Yo.mono (Yo.keep h1 hkp) hmo, fun j u hj => ?_⟩;have hj4 : j < 4 := by
   have h9 : cs.length = 4 := Yo.len h1;rw [← h9]; exact (List.getElem?_eq_some_iff.1 hj).1
  rw [Zxn hsz, if_neg (by omega), if_neg (by omega), if_neg (by omega), if_neg (by omega)];exact h2 j u hj
theorem K6.out (h : K6 B l k cur w) (hk : l.length ≤ k) (hm : l.length ≤ 1000) : ∃ css, Yv Yo NoR B (.slice (some ⟨B, 0, none⟩) l.length l.length) l css w := by
 have hex : ∀ i, i < l.length → ∃ cs : List Value, (∀ hi : i < l.length, Yo.enc (InS NoR B w) w l[i] cs) ∧ ∀ (j : Nat) (u : Value), cs[j]? = some u → cur[i * 4 + j]? = some u := fun i hi => by
  obtain ⟨cs, h1, h2⟩ := h.each i hi (by omega);exact ⟨cs, fun _ => h1, h2⟩
 obtain ⟨f, hf⟩ := choose_lt hex;have hlen : ∀ c ∈ (List.range l.length).map f, c.length = 4 := by
  intro c hc2;obtain ⟨j, hj, rfl⟩ := List.mem_map.1 hc2;have hj' : j < l.length := by simpa using hj
  exact Yo.len ((hf j hj').1 hj')
 have hl1 : ((List.range l.length).map f).flatten.length = l.length * 4 := by rw [Vt _ hlen]; simp
 have hT : cur.toList.take (l.length * 4) = ((List.range l.length).map f).flatten := by
  apply List.ext_getElem?;intro j;by_cases hj : j < l.length * 4
  ·have hq : j / 4 < l.length := by omega
   have hjd : j / 4 * 4 + j % 4 = j := by omega
   have e1 := Jj ((List.range l.length).map f) (j / 4) (j % 4) (f (j / 4)) hlen (by simp [hq]) (by omega);rw [hjd] at e1;have hl4 := hlen (f (j / 4)) (by simp only [List.mem_map, List.mem_range]; exact ⟨_, hq, rfl⟩);have h2 := (hf _ hq).2 (j % 4) (f (j / 4))[j % 4] (List.getElem?_eq_getElem (by omega));rw [hjd] at h2;rw [e1, List.getElem?_take, if_pos hj, Array.getElem?_toList, h2, List.getElem?_eq_getElem (by omega)]
  ·rw [List.getElem?_eq_none (by rw [List.length_take]; omega), List.getElem?_eq_none (by rw [hl1]; omega)]
 exact ⟨(List.range l.length).map f, by simp, fun i hi => ⟨f i, by simp [hi], (hf i hi).1 hi⟩, hl1, .inr ⟨B, l.length, cur, rfl, Nat.le_refl _, h.row, Nat.le_refl _, by unfold maxLen; omega, h.size, hT⟩⟩
theorem Zal (S : Nat → Prop) (l : List Rec) (v : Value) (w : World) (hl : Qs S w v l) (hn : l.length ≤ 1000) (h8 : ∀ x ∈ l, x.data.length ≤ 8) :
  Calls Tryz.prog 66 #[v] w fun e w' => ∃ v' css, e = .returned v' ∧ Yv Yo NoR w.heap.size v' l css w' ∧ Zn w w' := by
 obtain ⟨ao, cp, rfl⟩ := hl.form;obtain ⟨c0, hc0, mk⟩ := Zkw w l.length hn;have g0 := Zb w (.cells c0 61);have hF0 : K6 w.heap.size l 0 c0 (w.alloc (.cells c0 61)) := ⟨Zg _ _ _, hc0, fun i _ h => by omega⟩;go_enter Tryz.func66, Tryz.ntmps66;go_wp2_with fail;clear mk;generalize World.alloc w _ = W at *;go_loopw [11] (fun i wr => ∃ k : Nat, k ≤ l.length ∧ i = .int .i64 k ∧ Zn w wr ∧ ∃ cur, K6 w.heap.size l k cur wr) (fun i _ => l.length - (intOf i).toNat)
 case atStart => exact ⟨0, Nat.zero_le _, rfl, g0, _, hF0⟩
 case round =>
  clear hF0 g0 hc0;obtain ⟨k, hk, rfl, hg, cur, hF⟩ := hrel;by_cases hlt : k < l.length
  ·obtain ⟨b, off, a1, c1, hv1, q0, q1, q2, q3, hu⟩ := Jx (hl.grow hg) k hlt;cases hv1;have HB : Hid (l[k].data.length ≤ 8) := h8 _ (List.getElem_mem hlt);have HP : Hid (∀ (w3 : World) (x0 x1 x2 x3 : Value), K6 w.heap.size l k cur w3 → Yo.enc (InS NoR w.heap.size w3) w3 l[k] [x0, x1, x2, x3] → _) := fun w3 x0 x1 x2 x3 h h2 => K6.put h hlt h2
   generalize l[k] = x at *;have g1 := Zb wr (.cells #[.int .i64 x.kind, .int .i64 x.key, .int .i64 x.ver, .slice a1 x.data.length c1] 61);have hX1 := Zg wr #[.int .i64 x.kind, .int .i64 x.key, .int .i64 x.ver, .slice a1 x.data.length c1] 61;have hF1 := hF.grow g1;have hu1 := hu.grow g1;have gw1 := hg.trans g1;clear hF hu hg g1;obtain ⟨x0, x1, x2, x3⟩ := Z4 hX1 rfl rfl rfl rfl;go_wp2_with fail;refine (Ze5 x.kind x.key x.ver x.data _ _ (by have := HB.out; omega) hu1.p).mono ?_;rintro e w3 ⟨v3, rfl, ho, g3⟩;have hF3 := hF1.grow g3;have gw3 := gw1.trans g3;have hbi := Zd6 NoR gw1.size ho;obtain ⟨a3, c3, rfl⟩ := Yc ho;have hp := HP.out w3 _ _ _ _ hF3 ⟨_, rfl, hbi⟩;have hsz : k * 4 + 4 ≤ cur.size := by rw [hF3.size]; omega
   have z0 := Zc hF3.row (k * 4) _ (Array.getElem?_eq_getElem (by omega));have z1 := Zc hF3.row (k * 4 + 1) _ (Array.getElem?_eq_getElem (by omega));have z2 := Zc hF3.row (k * 4 + 2) _ (Array.getElem?_eq_getElem (by omega));have z3 := Zc hF3.row (k * 4 + 3) _ (Array.getElem?_eq_getElem (by omega));have f0 := Zi hF3.row (k * 4);have f1 := Zi hF3.row (k * 4 + 1);have f2 := Zi hF3.row (k * 4 + 2);have f3 := Zi hF3.row (k * 4 + 3);have gE := (((((Zo.refl w.heap.size w3).set (k * 4) none (.int .i64 x.kind)).set (k * 4 + 1) none (.int .i64 x.key)).set (k * 4 + 2) none (.int .i64 x.ver)).set (k * 4 + 3) none (.slice a3 x.data.length c3)).grow gw3 (Nat.le_refl _);generalize cur[k * 4]'(by omega) = y0 at z0;generalize cur[k * 4 + 1]'(by omega) = y1 at z1;generalize cur[k * 4 + 2]'(by omega) = y2 at z2;generalize cur[k * 4 + 3]'(by omega) = y3 at z3;clear hF3 hF1 hbi ho hsz HP x0 x1 x2 x3 hX1 hu1 gw1 gw3 g3 q0 q1 q2 q3;go_wp2_with fail;go_roundw
   case rel => exact ⟨k + 1, by omega, by go_num, gE, _, hp⟩
   case measure => simp [intOf]; omega
  ·obtain ⟨css, hE⟩ := hF.out (by omega) hn;clear hF hl;go_wp2_with fail;go_ret;exact ⟨_, css, rfl, hE, hg⟩
end Go.Proofs.YtpdnapbchcdhlacGreat
namespace Go.Proofs.YtpdnapbchcdhlacGreat
set_option maxRecDepth 100000
open Go.RowKit
open Plain Reg
def Kw (d : Dd) : Bool := if d.kind = 3 then decide (1 ≤ d.key ∧ d.key ≤ 255 ∧ 1 ≤ d.num ∧ d.num ≤ 60000) else decide (1 ≤ d.key ∧ d.key ≤ 255 ∧ d.num = 0)
def Zbj (k : Int) : Int := if k = 1 then 8 else 0
theorem Zc3 (d : Dd) : Yq d = if d.kind < 1 ∨ 3 < d.kind then 1 else if Kw d = false then 3 else if Zbj d.kind < (d.data.length : Int) then 4 else 0 := by
 unfold Yq Kw Zbj;by_cases hk : d.kind < 1 ∨ 3 < d.kind
 ·rw [if_pos hk, if_pos hk]
 ·rw [if_neg hk, if_neg hk];by_cases h3 : d.kind = 3
  ·rw [if_pos h3, if_pos h3, if_pos h3, if_neg (show ¬ d.kind = 1 by omega)];by_cases hr : 1 ≤ d.key ∧ d.key ≤ 255 ∧ 1 ≤ d.num ∧ d.num ≤ 60000
   ·rw [if_neg (show ¬ (d.key < 1 ∨ 255 < d.key ∨ d.num < 1 ∨ 60000 < d.num) by omega), decide_eq_true hr, if_neg (show ¬ true = false by simp)];by_cases h0 : d.data.length = 0
    ·rw [if_neg (by omega), if_neg (by omega)]
    ·rw [if_pos (by omega), if_pos (by omega)]
   ·rw [if_pos (show d.key < 1 ∨ 255 < d.key ∨ d.num < 1 ∨ 60000 < d.num by omega), decide_eq_false hr, if_pos rfl]
  ·rw [if_neg h3, if_neg h3, if_neg h3];by_cases hr : 1 ≤ d.key ∧ d.key ≤ 255 ∧ d.num = 0
   ·rw [if_neg (show ¬ (d.key < 1 ∨ 255 < d.key ∨ d.num < 0 ∨ 0 < d.num) by omega), decide_eq_true hr, if_neg (show ¬ true = false by simp)];by_cases h1 : d.kind = 1
    ·rw [if_pos h1];by_cases h8 : 8 < d.data.length
     ·rw [if_pos (by omega), if_pos (by omega)]
     ·rw [if_neg (by omega), if_neg (by omega)]
    ·rw [if_neg h1];by_cases h0 : d.data.length = 0
     ·rw [if_neg (by omega), if_neg (by omega)]
     ·rw [if_pos (by omega), if_pos (by omega)]
   ·rw [if_pos (show d.key < 1 ∨ 255 < d.key ∨ d.num < 0 ∨ 0 < d.num by omega), decide_eq_false hr, if_pos rfl]
theorem Ja (k y n : Int) (l : List UInt8) (v : Value) (w : World) :
  Calls Tryz.prog 129 #[.agg #[.int .i64 k, .int .i64 y, .int .i64 n, v]] w fun e w' => e = .returned (.bool (Kw ⟨k, y, n, l⟩)) ∧ Zn w w' := by
 go_enter Tryz.func129, Tryz.ntmps129;go_wp2;all_goals go_ret
 all_goals refine ⟨?_, Zb _ _⟩
 all_goals simp_all [Kw]
 all_goals first | omega | (split <;> omega) | (rw [Bool.eq_iff_iff]; simp; done) | (rw [Bool.eq_iff_iff]; simp; omega)
theorem Za4 (k : Int) (w : World) :
  Calls Tryz.prog 130 #[.int .i64 k] w fun e w' => e = .returned (.int .i64 (Zbj k)) ∧ w = w' := by
 go_enter Tryz.func130, Tryz.ntmps130;go_wp2;all_goals go_ret
 all_goals simp_all [Zbj]
theorem Zkv (k y n : Int) (l : List UInt8) (v : Value) (w : World) (hk : k < 1 ∨ 3 < k) :
  Calls Tryz.prog 98 #[.agg #[.int .i64 k, .int .i64 y, .int .i64 n, v]] w fun e w' => e = .returned (.int .i64 (Yq ⟨k, y, n, l⟩)) ∧ Zn w w' := by
 have HW : Hid (Yq ⟨k, y, n, l⟩ = 1) := by show Yq _ = 1; rw [Zc3, if_pos (by exact hk)]
 have d1 : (k != 1) = true := by simp; omega
 have d2 : (k != 2) = true := by simp; omega
 have d3 : (k != 3) = true := by simp; omega
 go_enter Tryz.func98, Tryz.ntmps98;go_wp2_with fail;go_ret;exact ⟨Xj HW.out.symm, Zb _ _⟩
theorem Zqf (k y n : Int) (l : List UInt8) (v : Value) (w : World) (hk : 1 ≤ k ∧ k ≤ 3) (hv : Bytes w v l) :
  Calls Tryz.prog 98 #[.agg #[.int .i64 k, .int .i64 y, .int .i64 n, v]] w fun e w' => e = .returned (.int .i64 (Yq ⟨k, y, n, l⟩)) ∧ Zn w w' := by
 obtain ⟨ao, cap, rfl, -, -⟩ := Yn hv;clear hv;have HK : Hid (k = 1 ∨ k = 2 ∨ k = 3) := by show _ ∨ _; omega
 have hw : Yq ⟨k, y, n, l⟩ = if Kw ⟨k, y, n, l⟩ = false then 3 else if Zbj k < (l.length : Int) then 4 else 0 := by
  rw [Zc3, if_neg (by simp; omega)]
 clear hk;cases hr : Kw ⟨k, y, n, l⟩ with
 | false =>
  have HF : Hid (Yq ⟨k, y, n, l⟩ = 3) := by show Yq _ = 3; rw [hw, hr]; rfl
  have HR : Hid (Kw ⟨k, y, n, l⟩ = false) := hr;clear hw hr;rcases HK.out with h | h | h
  all_goals
   first
    | (have d1 : (k != 1) = false := by simp [h])
    | (have d1 : (k != 1) = true := by simp [h]); (have d2 : (k != 2) = false := by simp [h])
    | (have d1 : (k != 1) = true := by simp [h]); (have d2 : (k != 2) = true := by simp [h]); (have d3 : (k != 3) = false := by simp [h])
   clear h;go_enter Tryz.func98, Tryz.ntmps98;go_wp2_with fail;refine (Ja k y n l _ _).mono ?_;rw [HR.out];rintro e w1 ⟨rfl, g1⟩;go_wp2_with fail;go_ret;exact ⟨Xj HF.out.symm, (Zb _ _).trans g1⟩
 | true =>
  have HW : Hid (Yq ⟨k, y, n, l⟩ = if Zbj k < (l.length : Int) then 4 else 0) := by show Yq _ = _; rw [hw, hr]; rfl
  have HR : Hid (Kw ⟨k, y, n, l⟩ = true) := hr;clear hw hr;rcases HK.out with h | h | h
  ·have d1 : (k != 1) = false := by simp [h]
   clear h;go_enter Tryz.func98, Tryz.ntmps98;go_wp2_with fail;refine (Ja k y n l _ _).mono ?_;rw [HR.out];rintro e w1 ⟨rfl, g1⟩;have g : Zn w w1 := (Zb _ _).trans g1;have hc0 : w1.cell? ⟨w.heap.size, 0, none⟩ = some (.int .i64 k) := (Below.cell g1 (p := ⟨w.heap.size, 0, none⟩) (by simp)).trans (by simp);have hc3 : w1.cell? ⟨w.heap.size, 3, none⟩ = some (.slice ao l.length cap) := (Below.cell g1 (p := ⟨w.heap.size, 3, none⟩) (by simp)).trans (by simp);clear g1;go_wp2_with fail;refine Yh [ex (.pointer (some ⟨w.heap.size, 3, none⟩)), ex (.slice ao l.length cap), ex (.int .i64 l.length), ex (.pointer (some ⟨w.heap.size, 0, none⟩)), ex (.int .i64 k), ex (.int .i64 (Zbj k)), ex (.bool (decide (Zbj k < (l.length : Int)))), ex (.bool (decide (Zbj k < (l.length : Int))))] (by kernel_rfl) (by kernel_rfl) ⟨Zm _, Zm _, Zm _, Zm _, Zm _, Zm _, Zm _, Zm _, trivial⟩ ?_ ?_
   ·refine ⟨?_, ?_, ?_, ?_, ?_, ?_, ?_, ?_, trivial⟩
    ·refine Zf rfl fun a _ _ _ B A => ?_;have e1 : a (.tmp 1) = .pointer (some ⟨w.heap.size, 0, none⟩) := Z2 A 1 rfl;refine Zq ?_ rfl;clear A B;go_simp;all_goals go_arith
    ·refine Zf rfl fun a _ _ _ B A => ?_;have e22 : a (.tmp 22) = _ := Zj A 0 rfl;have h1 := (Below.cell B (Zv hc3)).trans hc3;refine Zq ?_ rfl;clear A B;go_simp;all_goals go_arith
    ·refine Zf rfl fun a _ _ _ B A => ?_;have e23 : a (.tmp 23) = _ := Zj A 1 rfl;refine Zq ?_ rfl;clear A B;go_simp;all_goals go_arith
    ·refine Zf rfl fun a _ _ _ B A => ?_;have e1 : a (.tmp 1) = .pointer (some ⟨w.heap.size, 0, none⟩) := Z2 A 1 rfl;refine Zq ?_ rfl;clear A B;go_simp;all_goals go_arith
    ·refine Zf rfl fun a _ _ _ B A => ?_;have e25 : a (.tmp 25) = _ := Zj A 3 rfl;have h1 := (Below.cell B (Zv hc0)).trans hc0;refine Zq ?_ rfl;clear A B;go_simp;all_goals go_arith
    ·refine Zf rfl fun a B _ _ C A => ?_;have e26 : a (.tmp 26) = _ := Zj A 4 rfl;refine Xa (f := 130) (args := #[.int .i64 k]) ?_ ((Za4 k B).mono ?_)
     ·clear A C;go_simp;all_goals go_arith
     ·rintro e w2 ⟨rfl, rfl⟩;exact ⟨_, rfl, Zn.refl _, rfl⟩
    ·refine Zf rfl fun a _ _ _ B A => ?_;have e24 : a (.tmp 24) = _ := Zj A 2 rfl;have e27 : a (.tmp 27) = _ := Zj A 5 rfl;refine Zq ?_ rfl;clear A B;go_simp;all_goals go_arith
    ·exact Zf rfl fun a _ _ _ _ A => Yy rfl (Zj A 6 rfl)
   ·intro vs w' hg ht;obtain ⟨(r22 : vs 0 = _), (r23 : vs 1 = _), (r24 : vs 2 = _), (r25 : vs 3 = _), (r26 : vs 4 = _), (r27 : vs 5 = _), (r28 : vs 6 = _), (r21 : vs 7 = _), -⟩ := ht;simp only [Yi, Act.put, List.setIfInBounds_toArray, List.set_cons_zero, List.set_cons_succ, r22, r23, r24, r25, r26, r27, r28, r21];clear r22 r23 r24 r25 r26 r27 r28 r21;have g2 : Zn w w' := g.trans hg;clear hg g hc0 hc3;by_cases hlt : Zbj k < (l.length : Int)
    ·have HF : Hid (Yq ⟨k, y, n, l⟩ = 4) := by show Yq _ = 4; rw [HW.out, if_pos hlt]
     rw [decide_eq_true hlt];clear hlt;go_wp2;go_ret;exact ⟨Xj HF.out.symm, g2⟩
    ·have HF : Hid (Yq ⟨k, y, n, l⟩ = 0) := by show Yq _ = 0; rw [HW.out, if_neg hlt]
     rw [decide_eq_false hlt];clear hlt;go_wp2;go_ret;exact ⟨Xj HF.out.symm, g2⟩
  ·have d1 : (k != 1) = true := by simp [h]
   have d2 : (k != 2) = false := by simp [h]
   clear h;go_enter Tryz.func98, Tryz.ntmps98;go_wp2_with fail;refine (Ja k y n l _ _).mono ?_;rw [HR.out];rintro e w1 ⟨rfl, g1⟩;have g : Zn w w1 := (Zb _ _).trans g1;have hc0 : w1.cell? ⟨w.heap.size, 0, none⟩ = some (.int .i64 k) := (Below.cell g1 (p := ⟨w.heap.size, 0, none⟩) (by simp)).trans (by simp);have hc3 : w1.cell? ⟨w.heap.size, 3, none⟩ = some (.slice ao l.length cap) := (Below.cell g1 (p := ⟨w.heap.size, 3, none⟩) (by simp)).trans (by simp);clear g1;go_wp2_with fail;refine Yh [ex (.pointer (some ⟨w.heap.size, 3, none⟩)), ex (.slice ao l.length cap), ex (.int .i64 l.length), ex (.pointer (some ⟨w.heap.size, 0, none⟩)), ex (.int .i64 k), ex (.int .i64 (Zbj k)), ex (.bool (decide (Zbj k < (l.length : Int)))), ex (.bool (decide (Zbj k < (l.length : Int))))] (by kernel_rfl) (by kernel_rfl) ⟨Zm _, Zm _, Zm _, Zm _, Zm _, Zm _, Zm _, Zm _, trivial⟩ ?_ ?_
   ·refine ⟨?_, ?_, ?_, ?_, ?_, ?_, ?_, ?_, trivial⟩
    ·refine Zf rfl fun a _ _ _ B A => ?_;have e1 : a (.tmp 1) = .pointer (some ⟨w.heap.size, 0, none⟩) := Z2 A 1 rfl;refine Zq ?_ rfl;clear A B;go_simp;all_goals go_arith
    ·refine Zf rfl fun a _ _ _ B A => ?_;have e22 : a (.tmp 22) = _ := Zj A 0 rfl;have h1 := (Below.cell B (Zv hc3)).trans hc3;refine Zq ?_ rfl;clear A B;go_simp;all_goals go_arith
    ·refine Zf rfl fun a _ _ _ B A => ?_;have e23 : a (.tmp 23) = _ := Zj A 1 rfl;refine Zq ?_ rfl;clear A B;go_simp;all_goals go_arith
    ·refine Zf rfl fun a _ _ _ B A => ?_;have e1 : a (.tmp 1) = .pointer (some ⟨w.heap.size, 0, none⟩) := Z2 A 1 rfl;refine Zq ?_ rfl;clear A B;go_simp;all_goals go_arith
    ·refine Zf rfl fun a _ _ _ B A => ?_;have e25 : a (.tmp 25) = _ := Zj A 3 rfl;have h1 := (Below.cell B (Zv hc0)).trans hc0;refine Zq ?_ rfl;clear A B;go_simp;all_goals go_arith
    ·refine Zf rfl fun a B _ _ C A => ?_;have e26 : a (.tmp 26) = _ := Zj A 4 rfl;refine Xa (f := 130) (args := #[.int .i64 k]) ?_ ((Za4 k B).mono ?_)
     ·clear A C;go_simp;all_goals go_arith
     ·rintro e w2 ⟨rfl, rfl⟩;exact ⟨_, rfl, Zn.refl _, rfl⟩
    ·refine Zf rfl fun a _ _ _ B A => ?_;have e24 : a (.tmp 24) = _ := Zj A 2 rfl;have e27 : a (.tmp 27) = _ := Zj A 5 rfl;refine Zq ?_ rfl;clear A B;go_simp;all_goals go_arith
    ·exact Zf rfl fun a _ _ _ _ A => Yy rfl (Zj A 6 rfl)
   ·intro vs w' hg ht;obtain ⟨(r22 : vs 0 = _), (r23 : vs 1 = _), (r24 : vs 2 = _), (r25 : vs 3 = _), (r26 : vs 4 = _), (r27 : vs 5 = _), (r28 : vs 6 = _), (r21 : vs 7 = _), -⟩ := ht;simp only [Yi, Act.put, List.setIfInBounds_toArray, List.set_cons_zero, List.set_cons_succ, r22, r23, r24, r25, r26, r27, r28, r21];clear r22 r23 r24 r25 r26 r27 r28 r21;have g2 : Zn w w' := g.trans hg;clear hg g hc0 hc3;by_cases hlt : Zbj k < (l.length : Int)
    ·have HF : Hid (Yq ⟨k, y, n, l⟩ = 4) := by show Yq _ = 4; rw [HW.out, if_pos hlt]
     rw [decide_eq_true hlt];clear hlt;go_wp2;go_ret;exact ⟨Xj HF.out.symm, g2⟩
    ·have HF : Hid (Yq ⟨k, y, n, l⟩ = 0) := by show Yq _ = 0; rw [HW.out, if_neg hlt]
     rw [decide_eq_false hlt];clear hlt;go_wp2;go_ret;exact ⟨Xj HF.out.symm, g2⟩
  ·have d1 : (k != 1) = true := by simp [h]
   have d2 : (k != 2) = true := by simp [h]
   have d3 : (k != 3) = false := by simp [h]
   clear h;go_enter Tryz.func98, Tryz.ntmps98;go_wp2_with fail;refine (Ja k y n l _ _).mono ?_;rw [HR.out];rintro e w1 ⟨rfl, g1⟩;have g : Zn w w1 := (Zb _ _).trans g1;have hc0 : w1.cell? ⟨w.heap.size, 0, none⟩ = some (.int .i64 k) := (Below.cell g1 (p := ⟨w.heap.size, 0, none⟩) (by simp)).trans (by simp);have hc3 : w1.cell? ⟨w.heap.size, 3, none⟩ = some (.slice ao l.length cap) := (Below.cell g1 (p := ⟨w.heap.size, 3, none⟩) (by simp)).trans (by simp);clear g1;go_wp2_with fail;refine Yh [ex (.pointer (some ⟨w.heap.size, 3, none⟩)), ex (.slice ao l.length cap), ex (.int .i64 l.length), ex (.pointer (some ⟨w.heap.size, 0, none⟩)), ex (.int .i64 k), ex (.int .i64 (Zbj k)), ex (.bool (decide (Zbj k < (l.length : Int)))), ex (.bool (decide (Zbj k < (l.length : Int))))] (by kernel_rfl) (by kernel_rfl) ⟨Zm _, Zm _, Zm _, Zm _, Zm _, Zm _, Zm _, Zm _, trivial⟩ ?_ ?_
   ·refine ⟨?_, ?_, ?_, ?_, ?_, ?_, ?_, ?_, trivial⟩
    ·refine Zf rfl fun a _ _ _ B A => ?_;have e1 : a (.tmp 1) = .pointer (some ⟨w.heap.size, 0, none⟩) := Z2 A 1 rfl;refine Zq ?_ rfl;clear A B;go_simp;all_goals go_arith
    ·refine Zf rfl fun a _ _ _ B A => ?_;have e22 : a (.tmp 22) = _ := Zj A 0 rfl;have h1 := (Below.cell B (Zv hc3)).trans hc3;refine Zq ?_ rfl;clear A B;go_simp;all_goals go_arith
    ·refine Zf rfl fun a _ _ _ B A => ?_;have e23 : a (.tmp 23) = _ := Zj A 1 rfl;refine Zq ?_ rfl;clear A B;go_simp;all_goals go_arith
    ·refine Zf rfl fun a _ _ _ B A => ?_;have e1 : a (.tmp 1) = .pointer (some ⟨w.heap.size, 0, none⟩) := Z2 A 1 rfl;refine Zq ?_ rfl;clear A B;go_simp;all_goals go_arith
    ·refine Zf rfl fun a _ _ _ B A => ?_;have e25 : a (.tmp 25) = _ := Zj A 3 rfl;have h1 := (Below.cell B (Zv hc0)).trans hc0;refine Zq ?_ rfl;clear A B;go_simp;all_goals go_arith
    ·refine Zf rfl fun a B _ _ C A => ?_;have e26 : a (.tmp 26) = _ := Zj A 4 rfl;refine Xa (f := 130) (args := #[.int .i64 k]) ?_ ((Za4 k B).mono ?_)
     ·clear A C;go_simp;all_goals go_arith
     ·rintro e w2 ⟨rfl, rfl⟩;exact ⟨_, rfl, Zn.refl _, rfl⟩
    ·refine Zf rfl fun a _ _ _ B A => ?_;have e24 : a (.tmp 24) = _ := Zj A 2 rfl;have e27 : a (.tmp 27) = _ := Zj A 5 rfl;refine Zq ?_ rfl;clear A B;go_simp;all_goals go_arith
    ·exact Zf rfl fun a _ _ _ _ A => Yy rfl (Zj A 6 rfl)
   ·intro vs w' hg ht;obtain ⟨(r22 : vs 0 = _), (r23 : vs 1 = _), (r24 : vs 2 = _), (r25 : vs 3 = _), (r26 : vs 4 = _), (r27 : vs 5 = _), (r28 : vs 6 = _), (r21 : vs 7 = _), -⟩ := ht;simp only [Yi, Act.put, List.setIfInBounds_toArray, List.set_cons_zero, List.set_cons_succ, r22, r23, r24, r25, r26, r27, r28, r21];clear r22 r23 r24 r25 r26 r27 r28 r21;have g2 : Zn w w' := g.trans hg;clear hg g hc0 hc3;by_cases hlt : Zbj k < (l.length : Int)
    ·have HF : Hid (Yq ⟨k, y, n, l⟩ = 4) := by show Yq _ = 4; rw [HW.out, if_pos hlt]
     rw [decide_eq_true hlt];clear hlt;go_wp2;go_ret;exact ⟨Xj HF.out.symm, g2⟩
    ·have HF : Hid (Yq ⟨k, y, n, l⟩ = 0) := by show Yq _ = 0; rw [HW.out, if_neg hlt]
     rw [decide_eq_false hlt];clear hlt;go_wp2;go_ret;exact ⟨Xj HF.out.symm, g2⟩
theorem Zo1 : Zwr := by
 rintro ⟨k, y, n, l⟩ a c w _ hb;by_cases hk : 1 ≤ k ∧ k ≤ 3
 ·exact Zqf k y n l _ w hk hb
 ·exact Zkv k y n l _ w (by omega)
end Go.Proofs.YtpdnapbchcdhlacGreat
