import Derived.Test.YtikhknkpndhakabGreatMdlG
set_option maxHeartbeats 8000000
namespace Go.Proofs.YtikhknkpndhakabGreat
set_option maxRecDepth 100000
open Go.RowKit
open Plain Reg
def Zwi : Option Nat → Int
 | none => -1
 | some i => (i : Int)
theorem Zn6 (K : Nat) (caps : Array Value) (P : Rec → Bool) (S : Nat → Prop) (l : List Rec) (v : Value) (w : World) (hK : ∀ (args : Array Value) (w : World), (callFunc K args).run Tryz.prog w = .ok (.enter K args) w) (hl : Xh S w v l) (hn : l.length ≤ 1000000)
  (hc : ∀ (x : Rec) (a : Option Addr) (c : Nat) (w' : World), x ∈ l → Zn w w' → Z0 S w' (.slice a x.data.length c) x.data → Calls Tryz.prog K (#[.agg #[.int .i64 x.kind, .int .i64 x.key, .int .i64 x.ver, .slice a x.data.length c]] ++ caps) w' fun e w2 => e = .returned (.bool (P x)) ∧ Zn w' w2) :
  Calls Tryz.prog 102 #[v, .func (.func K) #[] caps] w fun e w' => e = .returned (.int .i64 (Zwi (l.findIdx? P))) ∧ Zn w w' := by
 obtain ⟨ao, cp, rfl⟩ := hl.form;obtain ⟨R, hR⟩ : ∃ R, R = Zwi (l.findIdx? P) := ⟨_, rfl⟩;rw [← hR];have HR : Hid _ := hR;clear hR;go_enter Tryz.func102, Tryz.ntmps102;go_wp2_with fail;go_loopw [8] (fun i wr => ∃ k : Nat, k ≤ l.length ∧ i = .int .i64 k ∧ Hid (∀ x ∈ l.take k, P x = false) ∧ Zn w wr) (fun i _ => l.length - (intOf i).toNat)
 case atStart => exact ⟨0, Nat.zero_le _, rfl, (by show ∀ _, _; simp), Zn.refl _⟩
 case round =>
  obtain ⟨k, hk, rfl, HN, hg⟩ := hrel;by_cases hlt : k < l.length
  ·obtain ⟨b, off, a1, c1, hv1, q0, q1, q2, q3, hu⟩ := Kq (hl.grow hg) k hlt;cases hv1;have HM : Hid (l[k] ∈ l) := List.getElem_mem hlt;have HF : Hid (P l[k] = true → R = (k : Int)) := fun h => by rw [HR.out, Zg3 hlt HN.out h]; rfl
   have HT : Hid (P l[k] = false → ∀ x ∈ l.take (k + 1), P x = false) := fun h x hx => by
    rw [List.take_succ_eq_append_getElem hlt] at hx;rcases List.mem_append.1 hx with h1 | h1
    ·exact HN.out x h1
    ·rw [List.mem_singleton.1 h1]; exact h
   generalize l[k] = x at *;go_wp2_with fail;refine (hc x a1 c1 _ HM.out hg hu).mono ?_;rintro e w2 ⟨rfl, g2⟩;have gw := hg.trans g2;clear g2 hg q0 q1 q2 q3 hu;obtain ⟨B, hB⟩ : ∃ B, B = P x := ⟨_, rfl⟩;rw [← hB];have HB : Hid _ := hB;clear hB;cases B with
   | false =>
    have HT2 : Hid _ := HT.out HB.out.symm;clear HT HF HB;go_wp2_with fail;go_roundw
    case rel => exact ⟨k + 1, by omega, by go_num, HT2, gw⟩
    case measure => simp [intOf]; omega
   | true =>
    obtain rfl : R = (k : Int) := HF.out HB.out.symm;clear HT HF HB HR;go_wp2_with fail;go_ret;exact ⟨rfl, gw⟩
  ·obtain rfl : R = -1 := by rw [HR.out, Zg2 fun x hx => HN.out x (by rw [List.take_of_length_le (by omega)]; exact hx)]; rfl
   clear HR;go_wp2_with fail;go_ret;exact ⟨rfl, hg⟩
end Go.Proofs.YtikhknkpndhakabGreat
namespace Go.Proofs.YtikhknkpndhakabGreat
set_option maxRecDepth 100000
open Go.RowKit Go.Deep
open Plain Reg
theorem Zli (w : World) (n : Nat) (hn : n ≤ 1000) : ∃ c, c.size = n * 4 ∧ (Instr.makeSlice 47 (.int .i64 (n : Int)) (.int .i64 (n : Int))).run Tryz.prog w = .ok (.slice (some ⟨w.heap.size, 0, none⟩) n n) (w.alloc (.cells c 51)) := by
 obtain ⟨i0, hif, hz0, hz1, hz2⟩ := info_parts K0;have h := run_make (P := Tryz.prog) w 47 51 i0 (.agg #[.int .i64 0, .int .i64 0, .int .i64 0, .slice none 0 0]) Tryz.underlying47 hif hz0 .i64 .i64 n n (by omega) (by omega) (by rw [hz2]; omega) (by omega);rw [h, hz1];exact ⟨_, size_madeCells _ _, by rw [Int.toNat_natCast]⟩
abbrev NoR : Nat → Prop := fun _ => False
structure Jb (B : Nat) (l : List Rec) (k : Nat) (cur : Array Value) (w : World) : Prop where
 row : w.heap[B]? = some (.cells cur 51 (0, 0))
 size : cur.size = l.length * 4
 each : ∀ i (hi : i < l.length), i < k → ∃ cs, Ym.enc (InS NoR B w) w l[i] cs ∧ ∀ (j : Nat) (u : Value), cs[j]? = some u → cur[i * 4 + j]? = some u
theorem Jb.grow {B : Nat} {l : List Rec} {k : Nat} {cur : Array Value} {w w' : World} (h : Jb B l k cur w) (hg : Zn w w') : Jb B l k cur w' :=
 ⟨(hg.block _ (Za h.row)).trans h.row, h.size, fun i hi hk => (h.each i hi hk).imp fun _ x => ⟨Ym.mono (Ym.keep x.1 fun b _ hb => hg.block b hb) (InS.grow hg), x.2⟩⟩
theorem Zxj {c : Array Value} {o : Nat} (h : o + 4 ≤ c.size) (x0 x1 x2 x3 : Value) (i : Nat) : ((((c.setIfInBounds o x0).setIfInBounds (o + 1) x1).setIfInBounds (o + 2) x2).setIfInBounds (o + 3) x3)[i]? = if i = o then some x0 else if i = o + 1 then some x1 else if i = o + 2 then some x2 else if i = o + 3 then some x3 else c[i]? := by
 simp only [Array.getElem?_setIfInBounds, Array.size_setIfInBounds];by_cases h3 : o + 3 = i
 ·rw [if_pos h3, if_pos (by omega), if_neg (by omega), if_neg (by omega), if_neg (by omega), if_pos h3.symm]
 ·rw [if_neg h3];by_cases h2 : o + 2 = i
  ·rw [if_pos h2, if_pos (by omega), if_neg (by omega), if_neg (by omega), if_pos h2.symm]
  ·rw [if_neg h2];by_cases h1 : o + 1 = i
   ·rw [if_pos h1, if_pos (by omega), if_neg (by omega), if_pos h1.symm]
   ·rw [if_neg h1];by_cases h0 : o = i
    ·rw [if_pos h0, if_pos (by omega), if_pos h0.symm]
    ·rw [if_neg h0, if_neg (by omega), if_neg (by omega), if_neg (by omega), if_neg (by omega)]
theorem Jb.put {B : Nat} {l : List Rec} {k : Nat} {cur : Array Value} {w : World} (h : Jb B l k cur w) (hk : k < l.length) {x0 x1 x2 x3 : Value} (hx : Ym.enc (InS NoR B w) w l[k] [x0, x1, x2, x3]) :
  Jb B l (k + 1) ((((cur.setIfInBounds (k * 4) x0).setIfInBounds (k * 4 + 1) x1).setIfInBounds (k * 4 + 2) x2).setIfInBounds (k * 4 + 3) x3)
   ((((w.setCell ⟨B, k * 4, none⟩ x0).setCell ⟨B, k * 4 + 1, none⟩ x1).setCell ⟨B, k * 4 + 2, none⟩ x2).setCell ⟨B, k * 4 + 3, none⟩ x3) := by
 have hg : Zs B w ((((w.setCell ⟨B, k * 4, none⟩ x0).setCell ⟨B, k * 4 + 1, none⟩ x1).setCell ⟨B, k * 4 + 2, none⟩ x2).setCell ⟨B, k * 4 + 3, none⟩ x3) := ((((Zs.refl B w).set _ _ _).set _ _ _).set _ _ _).set _ _ _;have hrow := Yc (Yc (Yc (Yc h.row (k * 4) x0) (k * 4 + 1) x1) (k * 4 + 2) x2) (k * 4 + 3) x3;generalize ((((w.setCell ⟨B, k * 4, none⟩ x0).setCell ⟨B, k * 4 + 1, none⟩ x1).setCell ⟨B, k * 4 + 2, none⟩ x2).setCell ⟨B, k * 4 + 3, none⟩ x3) = w2 at *;have hne : ∀ b, InS NoR B w b → b ≠ B := by
  rintro b (h1 | ⟨_, c, f, h1⟩) rfl
  ·exact h1
  ·rw [h.row] at h1; injection h1 with h1; injection h1 with _ h1; exact absurd h1 (by decide)
 have hkp : ∀ b, InS NoR B w b → b < w.heap.size → w2.heap[b]? = w.heap[b]? := fun b hb hlt => hg.block b hlt (hne b hb)
 have hmo : ∀ b, InS NoR B w b → InS NoR B w2 b := fun b hb => Xt hb (fun x => x) fun ⟨k1, c, f, k2⟩ => ⟨k1, c, f, (hkp b hb (Za k2)).trans k2⟩
 have hsz : k * 4 + 4 ≤ cur.size := by rw [h.size]; omega
 refine ⟨hrow, by simp [h.size], fun i hi hik => ?_⟩;by_cases e : i = k
 ·subst e;refine ⟨_, Ym.mono (Ym.keep hx hkp) hmo, fun j u hj => ?_⟩;rw [Zxj hsz]
  match j, hj with
  | 0, hj => simp at hj; subst hj; simp
  | 1, hj => simp at hj; subst hj; simp
  | 2, hj => simp at hj; subst hj; simp
  | 3, hj => simp at hj; subst hj; simp
  | j + 4, hj => simp at hj
 ·obtain ⟨cs, h1, h2⟩ := h.each i hi (by omega);refine ⟨cs, Ym.mono (Ym.keep h1 hkp) hmo, fun j u hj => ?_⟩;have hj4 : j < 4 := by
   have h9 : cs.length = 4 := Ym.len h1;rw [← h9]; exact (List.getElem?_eq_some_iff.1 hj).1
  rw [Zxj hsz, if_neg (by omega), if_neg (by omega), if_neg (by omega), if_neg (by omega)];exact h2 j u hj
theorem Jb.out {B : Nat} {l : List Rec} {k : Nat} {cur : Array Value} {w : World} (h : Jb B l k cur w) (hk : l.length ≤ k) (hm : l.length ≤ 1000) : ∃ css, Ys Ym NoR B (.slice (some ⟨B, 0, none⟩) l.length l.length) l css w := by
 have hex : ∀ i, i < l.length → ∃ cs : List Value, (∀ hi : i < l.length, Ym.enc (InS NoR B w) w l[i] cs) ∧ ∀ (j : Nat) (u : Value), cs[j]? = some u → cur[i * 4 + j]? = some u := fun i hi => by
  obtain ⟨cs, h1, h2⟩ := h.each i hi (by omega);exact ⟨cs, fun _ => h1, h2⟩
 obtain ⟨f, hf⟩ := choose_lt hex;have hlen : ∀ c ∈ (List.range l.length).map f, c.length = 4 := by
  intro c hc2;obtain ⟨j, hj, rfl⟩ := List.mem_map.1 hc2;have hj' : j < l.length := by simpa using hj
  exact Ym.len ((hf j hj').1 hj')
 have hl1 : ((List.range l.length).map f).flatten.length = l.length * 4 := by rw [Vo _ hlen]; simp
 have hT : cur.toList.take (l.length * 4) = ((List.range l.length).map f).flatten := by
  apply List.ext_getElem?;intro j;by_cases hj : j < l.length * 4
  ·have hq : j / 4 < l.length := by omega
   have hjd : j / 4 * 4 + j % 4 = j := by omega
   have e1 := Jr ((List.range l.length).map f) (j / 4) (j % 4) (f (j / 4)) hlen (by simp [hq]) (by omega);rw [hjd] at e1;have hl4 := hlen (f (j / 4)) (by simp only [List.mem_map, List.mem_range]; exact ⟨_, hq, rfl⟩);have h2 := (hf _ hq).2 (j % 4) (f (j / 4))[j % 4] (List.getElem?_eq_getElem (by omega));rw [hjd] at h2;rw [e1, List.getElem?_take, if_pos hj, Array.getElem?_toList, h2, List.getElem?_eq_getElem (by omega)]
  ·rw [List.getElem?_eq_none (by rw [List.length_take]; omega), List.getElem?_eq_none (by rw [hl1]; omega)]
 exact ⟨(List.range l.length).map f, by simp, fun i hi => ⟨f i, by simp [hi], (hf i hi).1 hi⟩, hl1, .inr ⟨B, l.length, cur, rfl, Nat.le_refl _, h.row, Nat.le_refl _, by unfold maxLen; omega, h.size, hT⟩⟩
theorem Zat (S : Nat → Prop) (l : List Rec) (v : Value) (w : World) (hl : Xh S w v l) (hn : l.length ≤ 1000) (h8 : ∀ x ∈ l, x.data.length ≤ 8) :
  Calls Tryz.prog 64 #[v] w fun e w' => ∃ v' css, e = .returned v' ∧ Ys Ym NoR w.heap.size v' l css w' ∧ Zn w w' := by
 obtain ⟨ao, cp, rfl⟩ := hl.form;obtain ⟨c0, hc0, mk⟩ := Zli w l.length hn;have g0 := Zc w (.cells c0 51);have hF0 : Jb w.heap.size l 0 c0 (w.alloc (.cells c0 51)) := ⟨Zl _ _ _, hc0, fun i _ h => by omega⟩;go_enter Tryz.func64, Tryz.ntmps64;go_wp2_with fail;clear mk;generalize World.alloc w _ = W at *;go_loopw [11] (fun i wr => ∃ k : Nat, k ≤ l.length ∧ i = .int .i64 k ∧ Zn w wr ∧ ∃ cur, Jb w.heap.size l k cur wr) (fun i _ => l.length - (intOf i).toNat)
 case atStart => exact ⟨0, Nat.zero_le _, rfl, g0, _, hF0⟩
 case round =>
  clear hF0 g0 hc0;obtain ⟨k, hk, rfl, hg, cur, hF⟩ := hrel;by_cases hlt : k < l.length
  ·obtain ⟨b, off, a1, c1, hv1, q0, q1, q2, q3, hu⟩ := Kq (hl.grow hg) k hlt;cases hv1;have HB : Hid (l[k].data.length ≤ 8) := h8 _ (List.getElem_mem hlt);have HP : Hid (∀ (w3 : World) (x0 x1 x2 x3 : Value), Jb w.heap.size l k cur w3 → Ym.enc (InS NoR w.heap.size w3) w3 l[k] [x0, x1, x2, x3] → _) := fun w3 x0 x1 x2 x3 h h2 => Jb.put h hlt h2
   generalize l[k] = x at *;have g1 := Zc wr (.cells #[.int .i64 x.kind, .int .i64 x.key, .int .i64 x.ver, .slice a1 x.data.length c1] 51);have hX1 := Zl wr #[.int .i64 x.kind, .int .i64 x.key, .int .i64 x.ver, .slice a1 x.data.length c1] 51;have hF1 := hF.grow g1;have hu1 := hu.grow g1;have gw1 := hg.trans g1;clear hF hu hg g1;obtain ⟨x0, x1, x2, x3⟩ := Yf hX1 rfl rfl rfl rfl;go_wp2_with fail;refine (Zdk x.kind x.key x.ver x.data _ _ (by have := HB.out; omega) hu1.p).mono ?_;rintro e w3 ⟨v3, rfl, ho, g3⟩;have hF3 := hF1.grow g3;have gw3 := gw1.trans g3;have hbi := Zd8 NoR gw1.size ho;obtain ⟨a3, c3, rfl⟩ := Yg ho;have hp := HP.out w3 _ _ _ _ hF3 ⟨_, rfl, hbi⟩;have hsz : k * 4 + 4 ≤ cur.size := by rw [hF3.size]; omega
   have z0 := Ze hF3.row (k * 4) _ (Array.getElem?_eq_getElem (by omega));have z1 := Ze hF3.row (k * 4 + 1) _ (Array.getElem?_eq_getElem (by omega));have z2 := Ze hF3.row (k * 4 + 2) _ (Array.getElem?_eq_getElem (by omega));have z3 := Ze hF3.row (k * 4 + 3) _ (Array.getElem?_eq_getElem (by omega));have f0 := Zo hF3.row (k * 4);have f1 := Zo hF3.row (k * 4 + 1);have f2 := Zo hF3.row (k * 4 + 2);have f3 := Zo hF3.row (k * 4 + 3);have gE := (((((Zs.refl w.heap.size w3).set (k * 4) none (.int .i64 x.kind)).set (k * 4 + 1) none (.int .i64 x.key)).set (k * 4 + 2) none (.int .i64 x.ver)).set (k * 4 + 3) none (.slice a3 x.data.length c3)).grow gw3 (Nat.le_refl _);generalize cur[k * 4]'(by omega) = y0 at z0;generalize cur[k * 4 + 1]'(by omega) = y1 at z1;generalize cur[k * 4 + 2]'(by omega) = y2 at z2;generalize cur[k * 4 + 3]'(by omega) = y3 at z3;clear hF3 hF1 hbi ho hsz HP x0 x1 x2 x3 hX1 hu1 gw1 gw3 g3 q0 q1 q2 q3;go_wp2_with fail;go_roundw
   case rel => exact ⟨k + 1, by omega, by go_num, gE, _, hp⟩
   case measure => simp [intOf]; omega
  ·obtain ⟨css, hE⟩ := hF.out (by omega) hn;clear hF hl;go_wp2_with fail;go_ret;exact ⟨_, css, rfl, hE, hg⟩
def Zb9 (B : Nat) (r : Rec) (v : Value) (w : World) : Prop := ∃ a c, v = .agg #[.int .i64 r.kind, .int .i64 r.key, .int .i64 r.ver, .slice a r.data.length c] ∧ w.ownsRow B 5 1 (.slice a r.data.length c) r.data.length (r.data.map bv)
theorem Zb9.grow {B : Nat} {r : Rec} {v : Value} {w w' : World} (h : Zb9 B r v w) (hg : Zn w w') : Zb9 B r v w' := by
 obtain ⟨a, c, h1, h2⟩ := h; exact ⟨a, c, h1, Ye h2 hg⟩
theorem Zqu (y m n : Int) (l : List UInt8) (v : Value) (w : World) (hm : l.length ≤ 140737488355328) (h : Bytes w v l) :
  Calls Tryz.prog 68 #[.agg #[.int .i64 1, .int .i64 y, .int .i64 m, v], .int .i64 n] w fun e w' => ∃ v', e = .returned v' ∧ Zb9 w.heap.size ⟨2, y, n, l⟩ v' w' ∧ Zn w w' := by
 obtain ⟨ao, cap, rfl, -, -⟩ := Yi h;go_enter Tryz.func68, Tryz.ntmps68;go_wp2_with fail;refine (Zdk 2 y n l _ _ hm (by exact Z2 h (Zv _ _ _))).mono ?_;rintro e w1 ⟨v', rfl, ho, g1⟩;obtain ⟨ao', cap', rfl⟩ := Yg ho;obtain ⟨hc, hf⟩ := Zpl g1;have cs := Zy;clear h;go_wp2_with fail;refine bodyPost_ret (v := .agg #[.int .i64 2, .int .i64 y, .int .i64 n, .slice ao' l.length cap']) (by simp [results, Tryz.results68, go_sem, hc, cs]) rfl ⟨_, rfl, ⟨ao', cap', rfl, Yj (base := w.heap.size + 2) ?_ (by omega)⟩, ?_⟩
 ·replace ho : w1.ownsRow (w.heap.size + 2) 5 1 (.slice ao' l.length cap') l.length (l.map bv) := by simpa using ho
  exact Xo (Xo (Xo (Xo ho (by simp) _) (by simp) _) (by simp) _) (by simp) _
 ·exact Z1 (Z1 (Z1 (Z1 ((Zv _ _ _).trans g1) (by simp) _) (by simp) _) (by simp) _) (by simp) _
theorem Zqv (y m n : Int) (v : Value) (w : World) :
  Calls Tryz.prog 68 #[.agg #[.int .i64 2, .int .i64 y, .int .i64 m, v], .int .i64 n] w fun e w' => ∃ v', e = .returned v' ∧ Zb9 w.heap.size ⟨3, y, n, []⟩ v' w' ∧ Zn w w' := by
 have g0 := Zv w (.cells #[.int .i64 2, .int .i64 y, .int .i64 m, v] 25) (.cells #[.int .i64 3, .int .i64 y, .int .i64 n, .slice none 0 0] 51);go_enter Tryz.func68, Tryz.ntmps68;go_wp2_with fail;exact bodyPost_ret (v := .agg #[.int .i64 3, .int .i64 y, .int .i64 n, .slice none 0 0]) (by simp [results, Tryz.results68, go_sem]) rfl ⟨_, rfl, ⟨none, 0, rfl, World.ownsRow_nil _ _ _ _⟩, g0⟩
theorem Zii (d : Dd) (n : Int) (a : Option Addr) (c : Nat) (w : World) (hw : Yn d = 0) (hk : d.kind ≠ 3) (hb : Bytes w (.slice a d.data.length c) d.data) :
  Calls Tryz.prog 68 #[.agg #[.int .i64 d.kind, .int .i64 d.key, .int .i64 d.num, .slice a d.data.length c], .int .i64 n] w fun e w' => ∃ v', e = .returned v' ∧ Zb9 w.heap.size (Xv d n) v' w' ∧ Zn w w' := by
 obtain ⟨a1, a2, a3, a4, a5, a6⟩ := Jf hw;obtain ⟨k, y, m, l⟩ := d;simp only at hk a1 a2 a5 a6 hb ⊢;have h12 : k = 1 ∨ k = 2 := by omega
 rcases h12 with rfl | rfl
 ·exact Zqu y m n l _ w (by omega) hb
 ·obtain rfl := List.eq_nil_of_length_eq_zero (show l.length = 0 by omega);exact Zqv y m n _ w
theorem Zrn (w : World) (ty : TypeId) (b o c : Nat) (hc : ∀ j, j < 4 → (w.cell? ⟨b, o + j, none⟩).isSome = true) (hf : ∀ j, j < 4 → w.frozen? ⟨b, o + j, none⟩ = false) :
  (Builtin.clear_ #[47] ty #[.slice (some ⟨b, o, none⟩) 1 c]).run Tryz.prog w = .ok (.tuple #[]) (w.setCells b o [.int .i64 0, .int .i64 0, .int .i64 0, .slice none 0 0]) := by
 obtain ⟨i0, hif, hz0, hz1, hz2⟩ := info_parts K0;have hv : ∀ w, (zeroValue 51).run Tryz.prog w = .ok (.agg #[.int .i64 0, .int .i64 0, .int .i64 0, .slice none 0 0]) w := fun w => by simp [zeroValue, typeInfo, hif, hz0]
 have hzc : (Builtin.zeroCells (Value.agg #[.int .i64 0, .int .i64 0, .int .i64 0, .slice none 0 0]).cells 1).toList = [.int .i64 0, .int .i64 0, .int .i64 0, .slice none 0 0] := by kernel_rfl
 have hst := run_storeCells_cells (P := Tryz.prog) b o [.int .i64 0, .int .i64 0, .int .i64 0, .slice none 0 0] 0 w (by simpa using hc) (by simpa using hf) (by intro v hv'; simp at hv'; rcases hv' with rfl | rfl <;> rfl);simp only [Nat.add_zero] at hst;simp [Builtin.clear_, run_underlying Tryz.underlying47, hv, hzc, hst]
theorem Zbi {k : Nat} : ∀ (css : List (List Value)) (j : Nat), (∀ c ∈ css, c.length = k) → css.flatten.drop (j * k) = (css.drop j).flatten
 | [], j, _ => by simp
 | c :: css, 0, _ => by simp
 | c :: css, j + 1, h => by
  have h1 := h c (by simp);rw [List.flatten_cons, List.drop_succ_cons, ← Zbi css j fun x hx => h x (by simp [hx]), List.drop_append, h1, List.drop_of_length_le (by rw [h1, Nat.add_mul]; omega), List.nil_append]
  congr 1
  rw [Nat.add_mul]; omega
theorem Zdq {k : Nat} : ∀ (css : List (List Value)) (j : Nat), (∀ c ∈ css, c.length = k) → css.flatten.take (j * k) = (css.take j).flatten
 | [], j, _ => by simp
 | c :: css, 0, _ => by simp
 | c :: css, j + 1, h => by
  have h1 := h c (by simp);rw [List.flatten_cons, List.take_succ_cons, List.flatten_cons, ← Zdq css j fun x hx => h x (by simp [hx]), List.take_append, h1, List.take_of_length_le (by rw [h1, Nat.add_mul]; omega)]
  congr 2
  rw [Nat.add_mul]; omega
theorem Ys.cslen {α : Type} {sh : Qs α} {S0 : Nat → Prop} {B : Nat} {v : Value} {xs : List α} {css : List (List Value)} {w : World} (h : Ys sh S0 B v xs css w) : ∀ c ∈ css, c.length = sh.size := by
 intro c hc;obtain ⟨i, hi, rfl⟩ := List.mem_iff_getElem.1 hc;obtain ⟨cs, k1, k2⟩ := h.each i (by rw [← h.len]; exact hi);rw [List.getElem?_eq_getElem hi] at k1;cases k1;exact sh.len k2
theorem Ys.anew {α : Type} {sh : Qs α} {B g : Nat} {v v' : Value} {xs ys : List α} {css yss : List (List Value)} {w w' : World} {c : Array Value} {f} (h : Ys sh NoR B v xs css w) (hT : sh.T ≠ 5) (hh : w.heap[g]? = some (.cells c sh.T f)) (hg : Zs g w w') (hl : yss.length = ys.length)
  (hy : ∀ i (hi : i < ys.length), ∃ j, ∃ hj : j < xs.length, xs[j] = ys[i] ∧ css[j]? = yss[i]?) (hown : w'.ownsRow B sh.T sh.size v' ys.length yss.flatten) : Ys sh NoR B v' ys yss w' := by
 have hne : ∀ b, InS NoR B w b → b ≠ g := by
  rintro b (h1 | ⟨_, c, f, h1⟩) rfl
  ·exact h1
  ·rw [hh] at h1; injection h1 with h1; injection h1 with _ h1; exact hT h1
 have hkp : ∀ b, InS NoR B w b → b < w.heap.size → w'.heap[b]? = w.heap[b]? := fun b hb hlt => hg.block b hlt (hne b hb)
 have hmo : ∀ b, InS NoR B w b → InS NoR B w' b := fun b hb => Xt hb (fun x => x) fun ⟨k1, c, f, k2⟩ => ⟨k1, c, f, (hkp b hb (Za k2)).trans k2⟩
 refine ⟨hl, fun i hi => ?_, hown⟩;obtain ⟨j, hj, e1, e2⟩ := hy i hi;obtain ⟨cs, k1, k2⟩ := h.each j hj;refine ⟨cs, by rw [← e2]; exact k1, ?_⟩;rw [← e1];exact sh.mono (sh.keep k2 hkp) hmo
def Zml (W : World) (s g n cap : Nat) (U : Array Value) (dn : Nat → Bool) (f : Nat → Value) (w : World) : Prop :=
 (dn s = false → Zn W w) ∧ (dn s = true → f s = .slice (some ⟨g, 0, none⟩) n cap ∧ w.heap[g]? = some (.cells U 51 (0, 0)) ∧ Zs g W w)
theorem Zml.start (W : World) (s g n cap : Nat) (U : Array Value) (f : Nat → Value) : Zml W s g n cap U (fun _ => false) f W.drew := ⟨fun _ => (Zn.refl _).drew, fun h => by cases h⟩
theorem Zml.app {W : World} {s g n i j cap : Nat} {cur U : Array Value} {css : List (List Value)} {dn : Nat → Bool} {f : Nat → Value} {w : World} {ad : Addr} {lc : Nat} (h : Zml W s g (i + (n - j)) cap U dn f w) (hs : dn s = false) (hU : U = (cur.toList.take (i * 4) ++ (css.drop j).flatten ++ cur.toList.drop (i * 4 + (css.drop j).flatten.length)).toArray)
  (hcur : W.heap[g]? = some (.cells cur 51 (0, 0))) (hlen : ∀ c ∈ css, c.length = 4) (hcn : css.length = n) (ht : cur.toList.take (n * 4) = css.flatten) (hone : ∀ u ∈ css.flatten, u.oneCell' = true) (hij : i < j) (hjn : j ≤ n) (hnc : n ≤ cap) (hsz : cur.size = cap * 4) (had : j < n → ad = ⟨g, 0 + j * 4, none⟩) :
  ∃ w', (Builtin.append_ #[47, 47] 47 #[.slice (some ⟨g, 0, none⟩) i cap, .slice (some ad) (n - j) lc]).run Tryz.prog w = .ok (.slice (some ⟨g, 0, none⟩) (i + (n - j)) cap) w' ∧ Zml W s g (i + (n - j)) cap U (upd dn s) (Kx f s (.slice (some ⟨g, 0, none⟩) (i + (n - j)) cap)) w' := by
 obtain ⟨i0, hif, hz0, hz1, hz2⟩ := info_parts K0;have hG := h.1 hs;have hw := (hG.block _ (Za hcur)).trans hcur;have hfl : (css.drop j).flatten.length = (n - j) * 4 := by rw [Vo (k := 4) _ (fun c hc => hlen c (List.mem_of_mem_drop hc)), List.length_drop, hcn]
 have hr := run_append_room (P := Tryz.prog) w 47 47 51 i0 Tryz.underlying47 hif g i cap cur hw ad (n - j) lc (css.drop j).flatten (by rw [hz1]; exact hfl) (fun t u hu => ?_) (fun u hu => ?_) (by omega) (by rw [hz1, hfl, hsz]; omega)
 ·rw [hz1] at hr;refine ⟨_, hr, fun h1 => ?_, fun _ => ⟨Qy, ?_, (Zs.of hG).row _⟩⟩
  ·rw [Kc] at h1; cases h1
  ·rw [← hU]; exact setRow_heap w g cur U _ _ hw
 ·have htl : t < (n - j) * 4 := by rw [← hfl]; exact (List.getElem?_eq_some_iff.1 hu).1
  rw [had (by omega)];have e : (⟨g, 0 + j * 4, none⟩ : Addr).add t = ⟨g, j * 4 + t, none⟩ := by
   unfold Addr.add;split
   ·rename_i h; rw [h]; simp
   ·simp
  rw [e];refine Ze hw _ u ?_;rw [← Zbi css j hlen, List.getElem?_drop, ← ht, List.getElem?_take, if_pos (by omega), Array.getElem?_toList] at hu;exact hu
 ·rw [← Zbi css j hlen] at hu;exact hone u (List.mem_of_mem_drop hu)
theorem Ys.ones {B : Nat} {v : Value} {xs : List Rec} {css : List (List Value)} {w : World} (h : Ys Ym NoR B v xs css w) : ∀ u ∈ css.flatten, u.oneCell' = true := by
 intro u hu;obtain ⟨c, hc, hu⟩ := List.mem_flatten.1 hu;obtain ⟨i, hi, rfl⟩ := List.mem_iff_getElem.1 hc;obtain ⟨cs, k1, k2⟩ := h.each i (by rw [← h.len]; exact hi);rw [List.getElem?_eq_getElem hi] at k1;cases k1;exact Ym.one k2 u hu
theorem Zob (B : Nat) (l : List Rec) (css : List (List Value)) (v : Value) (w : World) (i j : Nat) (hij : i < j) (hji : j < i + 2) (hjl : j ≤ l.length) (_hl : l.length ≤ 1000) (hR : Ys Ym NoR B v l css w) :
  Calls Tryz.prog 104 #[v, .int .i64 (i : Int), .int .i64 (j : Int)] w fun e w' => ∃ v' css', e = .returned v' ∧ Ys Ym NoR B v' (l.take i ++ l.drop j) css' w' ∧ ∀ w0, Zn w0 w → w0.heap.size ≤ B → Zn w0 w' := by
 rcases hR.row.2 with ⟨rfl, h0⟩ | ⟨g, cap, cur, rfl, hB, hh, hnc, hcm, hsz, ht⟩
 ·omega
 ·have hcslen : ∀ c ∈ css, c.length = 4 := hR.cslen;have hones := hR.ones;have hclen := hR.len;obtain ⟨U, hU⟩ : ∃ U, U = (cur.toList.take (i * 4) ++ (css.drop j).flatten ++ cur.toList.drop (i * 4 + (css.drop j).flatten.length)).toArray := ⟨_, rfl⟩;have hnn : cap ≤ 9223372036854775807 := hcm;have d0 : ((i : Int) == (j : Int)) = false := by simp; omega
  go_enter Tryz.func104, Tryz.ntmps104;go_wp2_with fail;obtain ⟨W, rfl⟩ : ∃ W : World, W = w := ⟨_, rfl⟩;refine V4 [px (.slice (some ⟨g, 0, none⟩) l.length cap), px (.int .i64 (i : Int)), px (.slice (some ⟨g, 0, none⟩) i cap), px (.slice (some ⟨g, 0, none⟩) l.length cap), px (.int .i64 (j : Int)), px (.slice (some (if cap = j then ⟨g, 0, none⟩ else ⟨g, 0 + j * 4, none⟩)) (l.length - j) (cap - j)), px (.slice (some ⟨g, 0, none⟩) (i + (l.length - j)) cap), px (.slice (some ⟨g, 0, none⟩) (i + (l.length - j)) cap)] [none, none, none, none, none, none, some ((fun _ _ => True))] (Zml W 6 g (i + (l.length - j)) cap U) (by kernel_rfl) (by kernel_rfl) ⟨se, se, se, se, se, se, se, se, trivial⟩ ⟨⟨(fun _ => trivial), ⟨x5, x5, x5, x5, x5, x5, .inl (by kernel_rfl), .inl (by kernel_rfl), trivial⟩⟩, trivial⟩ ⟨n5, n5, n5, n5, n5, n5, n5, n5, trivial⟩ (Zml.start _ _ _ _ _ _) ?_ ?_
  ·refine ⟨?_, ?_, ?_, ?_, ?_, ?_, ?_, ?_, trivial⟩
   ·refine Zw rfl fun a w' ek ef dn hr hg hin => ?_;have e : a (.tmp 0) = .slice (some ⟨g, 0, none⟩) l.length cap := Zm hin 0 rfl;exact Xq rfl hg e
   ·refine Zw rfl fun a w' ek ef dn hr hg hin => ?_;have e : a (.tmp 1) = .int .i64 (i : Int) := Zm hin 1 rfl;exact Xq rfl hg e
   ·refine Zw rfl fun a w' ek ef dn hr hg hin => ?_;have e20 : a (.tmp 20) = _ := Zf hin 0 rfl;have e21 : a (.tmp 21) = _ := Zf hin 1 rfl;refine Ql (Zh7 w' _ _ (.tmp 20) (.tmp 21) rfl g 0 l.length cap i (by omega) hnc e20 e21) hg rfl
   ·refine Zw rfl fun a w' ek ef dn hr hg hin => ?_;have e : a (.tmp 0) = .slice (some ⟨g, 0, none⟩) l.length cap := Zm hin 0 rfl;exact Xq rfl hg e
   ·refine Zw rfl fun a w' ek ef dn hr hg hin => ?_;have e : a (.tmp 2) = .int .i64 (j : Int) := Zm hin 2 rfl;exact Xq rfl hg e
   ·refine Zw rfl fun a w' ek ef dn hr hg hin => ?_;have e23 : a (.tmp 23) = _ := Zf hin 3 rfl;have e24 : a (.tmp 24) = _ := Zf hin 4 rfl;refine Ql (Zen w' _ _ (.tmp 23) (.tmp 24) rfl g 0 l.length cap j hjl hnc e23 e24) hg rfl
   ·refine Zw rfl fun a w' ek ef dn hr hg hin => ?_;have e22 : a (.tmp 22) = _ := Zf hin 2 rfl;have e25 : a (.tmp 25) = _ := Zf hin 5 rfl;obtain ⟨w2, hrun, hJ⟩ := Zml.app (n := l.length) (lc := cap - j) (ad := (if cap = j then ⟨g, 0, none⟩ else ⟨g, 0 + j * 4, none⟩)) hg hr.un hU hh hcslen hclen ht hones hij hjl hnc hsz (fun h => if_neg (show ¬ cap = j by omega));exact Qm (v := .slice (some ⟨g, 0, none⟩) (i + (l.length - j)) cap) (w' := w2) (Qu (.tmp 22) (.tmp 25) 47 rfl _ _ e22 e25 hrun) trivial hJ rfl
   ·refine Zw rfl fun a w' ek ef dn hr hg hin => ?_;have e : a (.tmp 26) = _ := Zf hin 6 rfl;exact Xl rfl hg e
  ·intro vs w' dn hdn hg ht;obtain ⟨q20, q21, q22, q23, q24, q25, q26, q0, -⟩ := ht;have r20 : vs 0 = .slice (some ⟨g, 0, none⟩) l.length cap := q20;have r21 : vs 1 = .int .i64 (i : Int) := q21;have r22 : vs 2 = .slice (some ⟨g, 0, none⟩) i cap := q22;have r23 : vs 3 = .slice (some ⟨g, 0, none⟩) l.length cap := q23;have r24 : vs 4 = .int .i64 (j : Int) := q24;have r25 : vs 5 = .slice (some (if cap = j then ⟨g, 0, none⟩ else ⟨g, 0 + j * 4, none⟩)) (l.length - j) (cap - j) := q25;have r26 : vs 6 = .slice (some ⟨g, 0, none⟩) (i + (l.length - j)) cap := q26;have r0 : vs 7 = .slice (some ⟨g, 0, none⟩) (i + (l.length - j)) cap := q0;clear q20 q21 q22 q23 q24 q25 q26 q0;simp only [Z6, Act.put, List.setIfInBounds_toArray, List.set_cons_zero, List.set_cons_succ, r20, r21, r22, r23, r24, r25, r26, r0];clear r20 r21 r22 r23 r24 r25 r26 r0;obtain ⟨-, hUg, hGB⟩ := hg.2 (hdn 6 (by decide));clear hg hdn;obtain ⟨N, hN⟩ : ∃ N, N = i + (l.length - j) := ⟨_, rfl⟩;have hN1 : N < l.length := by omega
   have hN2 : l.length < N + 2 := by omega
   have hfl : (css.drop j).flatten.length = (l.length - j) * 4 := by rw [Vo (k := 4) _ (fun c hc => hcslen c (List.mem_of_mem_drop hc)), List.length_drop, hclen]
   have hsz4 : cur.size = cap * 4 := hsz;have hUs : U.size = cap * 4 := by
    rw [hU];simp only [List.size_toArray, List.length_append, List.length_take, List.length_drop, Array.length_toList, hfl, hsz4];omega
   have hUt : U.toList.take (N * 4) = (css.take i ++ css.drop j).flatten := by
    have e1 : cur.toList.take (i * 4) = (css.take i).flatten := by
     rw [← Zdq css i hcslen, ← ht, List.take_take, show min (i * 4) (l.length * Ym.size) = i * 4 from Nat.min_eq_left (by show i * 4 ≤ l.length * 4; omega)]
    have e2 : ((css.take i).flatten ++ (css.drop j).flatten).length = N * 4 := by
     rw [List.length_append, hfl, Vo (k := 4) _ (fun c hc => hcslen c (List.mem_of_mem_take hc)), List.length_take, hclen];omega
    rw [hU, e1, List.flatten_append, List.take_append_of_le_length (by rw [e2]; exact Nat.le_refl _), ← e2, List.take_length]
   have hcl : ∀ ty, (Builtin.clear_ #[47] ty #[.slice (some ⟨g, N * 4, none⟩) (l.length - N) (cap - N)]).run Tryz.prog w' = .ok (.tuple #[]) (w'.setCells g (N * 4) [.int .i64 0, .int .i64 0, .int .i64 0, .slice none 0 0]) := fun ty => by
    rw [show l.length - N = 1 from by omega];exact Zrn w' ty g (N * 4) (cap - N) (fun t h => by rw [Ze hUg _ _ (Array.getElem?_eq_getElem (show N * 4 + t < U.size by omega))]; rfl) (fun t _ => Zo hUg _)
   have hsz2 : N * 4 + 4 ≤ U.size := by omega
   have hrow := Yc (Yc (Yc (Yc hUg (N * 4) (.int .i64 0)) (N * 4 + 1) (.int .i64 0)) (N * 4 + 2) (.int .i64 0)) (N * 4 + 3) (.slice none 0 0);have hGE : Zs g W (w'.setCells g (N * 4) [.int .i64 0, .int .i64 0, .int .i64 0, .slice none 0 0]) := (((hGB.set _ _ _).set _ _ _).set _ _ _).set _ _ _;have hrow2 : (w'.setCells g (N * 4) [.int .i64 0, .int .i64 0, .int .i64 0, .slice none 0 0]).heap[g]? = _ := hrow;have hE : Ys Ym NoR B (.slice (some ⟨g, 0, none⟩) N cap) (l.take i ++ l.drop j) (css.take i ++ css.drop j) (w'.setCells g (N * 4) [.int .i64 0, .int .i64 0, .int .i64 0, .slice none 0 0]) := by
    have hlN : (l.take i ++ l.drop j).length = N := by simp only [List.length_append, List.length_take, List.length_drop]; omega
    refine Ys.anew hR (by decide) hh hGE (by simp [hclen]) (fun t htl => ?_) ?_
    ·rw [hlN] at htl;by_cases hti : t < i
     ·exact ⟨t, by omega, by rw [List.getElem_append_left (by simp; omega), List.getElem_take], by rw [List.getElem?_append_left (by simp; omega), List.getElem?_take, if_pos hti]⟩
     ·refine ⟨j + (t - i), by omega, ?_, ?_⟩
      ·rw [List.getElem_append_right (by simp; omega), List.getElem_drop]
       congr 1
       simp; omega
      ·rw [List.getElem?_append_right (by simp; omega), List.getElem?_drop]
       congr 1
       simp; omega
    ·rw [hlN];refine ⟨?_, .inr ⟨g, cap, _, rfl, hB, hrow2, by omega, hcm, by show _ = cap * 4; simpa using hUs, ?_⟩⟩
     ·rw [← hUt, List.length_take, Array.length_toList];show min (N * 4) U.size = N * 4;omega
     ·show List.take (N * 4) _ = _;rw [← hUt];apply List.ext_getElem?;intro t;rw [List.getElem?_take, List.getElem?_take];by_cases ht4 : t < N * 4
      ·rw [if_pos ht4, if_pos ht4, Array.getElem?_toList, Array.getElem?_toList, Zxj hsz2, if_neg (by omega), if_neg (by omega), if_neg (by omega), if_neg (by omega)]
      ·rw [if_neg ht4, if_neg ht4]
   have hgr : ∀ w0, Zn w0 W → w0.heap.size ≤ B → Zn w0 (w'.setCells g (N * 4) [.int .i64 0, .int .i64 0, .int .i64 0, .slice none 0 0]) := fun w0 h1 h2 => hGE.grow h1 (by omega)
   rw [← hN];generalize (if cap = j then (⟨g, 0, none⟩ : Addr) else ⟨g, 0 + j * 4, none⟩) = ad5;generalize w'.setCells g (N * 4) [.int .i64 0, .int .i64 0, .int .i64 0, .slice none 0 0] = wE at *;clear hrow hrow2 hGE hsz2 hUt hUs hfl hN hGB hUg hR hh ht hsz4 hsz hcm hU hones hcslen hclen;go_wp2_with fail;go_ret;exact ⟨_, _, rfl, hE, hgr⟩
end Go.Proofs.YtikhknkpndhakabGreat
