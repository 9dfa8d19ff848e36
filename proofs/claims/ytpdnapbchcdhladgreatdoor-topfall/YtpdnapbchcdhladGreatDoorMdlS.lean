import Derived.Test.YtpdnapbchcdhladGreatDoorRDo
set_option maxHeartbeats 8000000
namespace Go.Proofs.YtpdnapbchcdhladGreatDoor
set_option maxRecDepth 100000
open Go.RowKit
open Plain Reg
def Zhk : Option Nat → Int
 | none => -1
 | some i => (i : Int)
theorem Zv4 (P : Rec → Bool) (l : List Rec) : decide (0 ≤ Zhk (l.findIdx? P)) = l.any P := by
 cases h : l.findIdx? P with
 | none =>
  have h2 := List.findIdx?_eq_none_iff.1 h;have : l.any P = false := by rw [List.any_eq_false]; intro x hx; rw [h2 x hx]; simp
  rw [this]; rfl
 | some i =>
  obtain ⟨h2, h3, -⟩ := List.findIdx?_eq_some_iff_getElem.1 h;have : l.any P = true := by rw [List.any_eq_true]; exact ⟨l[i], List.getElem_mem h2, h3⟩
  rw [this];exact decide_eq_true (show (0 : Int) ≤ (i : Int) by omega)
theorem Zgu (K : Nat) (caps : Array Value) (P : Rec → Bool) (S : Nat → Prop) (l : List Rec) (v : Value) (w : World) (hK : ∀ (args : Array Value) (w : World), (callFunc K args).run Tryz.prog w = .ok (.enter K args) w) (hl : Yz S w v l) (hn : l.length ≤ 1000000)
  (hc : ∀ (x : Rec) (a : Option Addr) (c : Nat) (w' : World), x ∈ l → Zj w w' → Z0 S w' (.slice a x.data.length c) x.data → Calls Tryz.prog K (#[.agg #[.int .i64 x.kind, .int .i64 x.key, .int .i64 x.ver, .slice a x.data.length c]] ++ caps) w' fun e w2 => e = .returned (.bool (P x)) ∧ Zj w' w2) :
  Calls Tryz.prog 139 #[v, .func (.func K) #[] caps] w fun e w' => e = .returned (.int .i64 (Zhk (l.findIdx? P))) ∧ Zj w w' := by
 obtain ⟨ao, cp, rfl⟩ := hl.form;obtain ⟨R, hR⟩ : ∃ R, R = Zhk (l.findIdx? P) := ⟨_, rfl⟩;rw [← hR];have HR : Hid _ := hR;clear hR;go_enter Tryz.func139, Tryz.ntmps139;go_wp2_with fail;go_loopw [8] (fun i wr => ∃ k : Nat, k ≤ l.length ∧ i = .int .i64 k ∧ Hid (∀ x ∈ l.take k, P x = false) ∧ Zj w wr) (fun i _ => l.length - (intOf i).toNat)
 case atStart => exact ⟨0, Nat.zero_le _, rfl, (by show ∀ _, _; simp), Zj.refl _⟩
 case round =>
  obtain ⟨k, hk, rfl, HN, hg⟩ := hrel;by_cases hlt : k < l.length
  ·obtain ⟨b, off, a1, c1, hv1, q0, q1, q2, q3, hu⟩ := Jn (hl.grow hg) k hlt;cases hv1;have HM : Hid (l[k] ∈ l) := List.getElem_mem hlt;have HF : Hid (P l[k] = true → R = (k : Int)) := fun h => by rw [HR.out, Zo0 hlt HN.out h]; rfl
   have HT : Hid (P l[k] = false → ∀ x ∈ l.take (k + 1), P x = false) := fun h x hx => by
    rw [List.take_succ_eq_append_getElem hlt] at hx;rcases List.mem_append.1 hx with h1 | h1
    ·exact HN.out x h1
    ·rw [List.mem_singleton.1 h1]; exact h
   generalize l[k] = x at *;go_wp2_with fail;refine (hc x a1 c1 _ HM.out hg hu).mono ?_;rintro e w2 ⟨rfl, g2⟩;have gw := hg.trans g2;clear g2 hg q0 q1 q2 q3 hu;obtain ⟨B, hB⟩ : ∃ B, B = P x := ⟨_, rfl⟩;rw [← hB];have HB : Hid _ := hB;clear hB;cases B with
   | false =>
    have HT2 : Hid _ := HT.out HB.out.symm;clear HT HF HB;go_wp2_with fail;go_roundw
    case rel => exact ⟨k + 1, by omega, by go_num, HT2, gw⟩
    case measure => simp [intOf]; omega
   | true =>
    obtain rfl : R = (k : Int) := HF.out HB.out.symm;clear HT HF HB HR;go_wp2_with fail;go_ret;exact ⟨rfl, gw⟩
  ·obtain rfl : R = -1 := by rw [HR.out, Zmf fun x hx => HN.out x (by rw [List.take_of_length_le (by omega)]; exact hx)]; rfl
   clear HR;go_wp2_with fail;go_ret;exact ⟨rfl, hg⟩
theorem Zcf (K : Nat) (caps : Array Value) (P : Rec → Bool) (S : Nat → Prop) (l : List Rec) (v : Value) (w : World) (hK : ∀ (args : Array Value) (w : World), (callFunc K args).run Tryz.prog w = .ok (.enter K args) w) (hl : Yz S w v l) (hn : l.length ≤ 1000000)
  (hc : ∀ (x : Rec) (a : Option Addr) (c : Nat) (w' : World), x ∈ l → Zj w w' → Z0 S w' (.slice a x.data.length c) x.data → Calls Tryz.prog K (#[.agg #[.int .i64 x.kind, .int .i64 x.key, .int .i64 x.ver, .slice a x.data.length c]] ++ caps) w' fun e w2 => e = .returned (.bool (P x)) ∧ Zj w' w2) :
  Calls Tryz.prog 122 #[v, .func (.func K) #[] caps] w fun e w' => e = .returned (.bool (l.any P)) ∧ Zj w w' := by
 rw [← Zv4];obtain ⟨I, hI⟩ : ∃ I, I = Zhk (l.findIdx? P) := ⟨_, rfl⟩;rw [← hI];have HI : Hid _ := hI;clear hI;go_enter Tryz.func122, Tryz.ntmps122;go_wp2_with fail;refine (Zgu K caps P S l v w hK hl hn hc).mono ?_;rw [← HI.out];rintro e w1 ⟨rfl, g1⟩;clear hl hc HI;go_wp2_with fail;go_ret;exact ⟨rfl, g1⟩
theorem Zho (args : Array Value) (w : World) : (callFunc 161 args).run Tryz.prog w = .ok (.enter 161 args) w := by
 simp [callFunc, Tryz.func161, Tryz.f161, mark]
theorem Zj1 (args : Array Value) (w : World) : (callFunc 123 args).run Tryz.prog w = .ok (.enter 123 args) w := by
 simp [callFunc, Tryz.func123, Tryz.f123, mark]
theorem Zpd (x r : Rec) (a b : Option Addr) (c d : Nat) (g : Nat) (w : World) (hx : Bytes w (.slice a x.data.length c) x.data) (hr : Bytes w (.slice b r.data.length d) r.data) (hp : w.heap[g]? = some (.cells #[.int .i64 r.kind, .int .i64 r.key, .int .i64 r.ver, .slice b r.data.length d] 49 (0, 0))) :
  Calls Tryz.prog 161 #[.agg #[.int .i64 x.kind, .int .i64 x.key, .int .i64 x.ver, .slice a x.data.length c], .pointer (some ⟨g, 0, none⟩)] w fun e w' => e = .returned (.bool (Kb x r)) ∧ Zj w w' := by
 have g0 := Zd w (.cells #[.int .i64 x.kind, .int .i64 x.key, .int .i64 x.ver, .slice a x.data.length c] 49);have hp1 := (g0.block _ (Za hp)).trans hp;obtain ⟨y0, y1, y2, y3⟩ := Z4 hp1 rfl rfl rfl rfl;have hxx := Z2 hx g0;have hr1 := Z2 hr g0;clear hp hp1 hx hr;go_enter Tryz.func161, Tryz.ntmps161;go_wp2_with fail;refine (Zfz _ _ _ _ _ _ x.data r.data _ _ _ hxx hr1).mono ?_;rintro e w1 ⟨rfl, g1⟩;have gE := g0.trans g1;clear y0 y1 y2 y3 hxx hr1 g0 g1;go_wp2_with fail;go_ret;exact ⟨rfl, gE⟩
theorem Ztg (S : Nat → Prop) (l : List Rec) (r : Rec) (v : Value) (b : Option Addr) (d : Nat) (w : World) (hl : Yz S w v l) (hn : l.length ≤ 1000000) (hr : Bytes w (.slice b r.data.length d) r.data) :
  Calls Tryz.prog 124 #[v, .agg #[.int .i64 r.kind, .int .i64 r.key, .int .i64 r.ver, .slice b r.data.length d]] w fun e w' => e = .returned (.bool (Zay l r)) ∧ Zj w w' := by
 obtain ⟨ao, cp, rfl⟩ := hl.form;have g0 := Zd w (.cells #[.int .i64 r.kind, .int .i64 r.key, .int .i64 r.ver, .slice b r.data.length d] 49);have hp := Zk w #[.int .i64 r.kind, .int .i64 r.key, .int .i64 r.ver, .slice b r.data.length d] 49;go_enter Tryz.func124, Tryz.ntmps124;go_wp2_with fail;refine (Zcf 161 #[.pointer (some ⟨w.heap.size, 0, none⟩)] (fun x => Kb x r) S l _ _ Zho (hl.grow g0) hn (fun x a c w' _ hg hx => Zpd x r a b c d _ w' hx.p (Z2 hr (g0.trans hg)) ((hg.block _ (Za hp)).trans hp))).mono ?_;rintro e w1 ⟨rfl, g1⟩;have gE := g0.trans g1;have HA : Hid ((l.any fun x => Kb x r) = Zay l r) := rfl;rw [HA.out];clear g0 g1 hp hl hr;go_wp2_with fail;go_ret;exact ⟨rfl, gE⟩
theorem Zq4 (S : Nat → Prop) (t : List Rec) (x : Rec) (a b : Option Addr) (c d : Nat) (g : Nat) (w : World) (hl : Yz S w (.slice b t.length d) t) (hn : t.length ≤ 1000000) (hx : Bytes w (.slice a x.data.length c) x.data) (hp : w.heap[g]? = some (.cells #[.slice b t.length d] 33 (0, 0))) :
  Calls Tryz.prog 123 #[.agg #[.int .i64 x.kind, .int .i64 x.key, .int .i64 x.ver, .slice a x.data.length c], .pointer (some ⟨g, 0, none⟩)] w fun e w' => e = .returned (.bool (!Zay t x)) ∧ Zj w w' := by
 have g0 := Zd w (.cells #[.int .i64 x.kind, .int .i64 x.key, .int .i64 x.ver, .slice a x.data.length c] 49);have hp1 := (g0.block _ (Za hp)).trans hp;have y0 := Ze hp1 0 _ rfl;have hxx := Z2 hx g0;have hl1 := hl.grow g0;clear hp hp1 hx hl;go_enter Tryz.func123, Tryz.ntmps123;go_wp2_with fail;refine (Ztg S t x _ _ _ _ hl1 hn hxx).mono ?_;rintro e w1 ⟨rfl, g1⟩;have gE := g0.trans g1;clear y0 hxx hl1 g0 g1;go_wp2_with fail;go_ret;exact ⟨rfl, gE⟩
theorem Zll (p : Rec → Bool) (l : List Rec) : (!l.any fun x => !p x) = l.all p := by
 induction l with
 | nil => rfl
 | cons x l ih => simp only [List.any_cons, List.all_cons, ← ih]; cases p x <;> simp
theorem Zrx (S S' : Nat → Prop) (s t : List Rec) (v u : Value) (w : World) (hs : Yz S w v s) (ht : Yz S' w u t) (hm : s.length ≤ 1000000) (hn : t.length ≤ 1000000) :
  Calls Tryz.prog 80 #[v, u] w fun e w' => e = .returned (.bool (Xv s t)) ∧ Zj w w' := by
 obtain ⟨ao, ca, rfl⟩ := hs.form;obtain ⟨bo, cb, rfl⟩ := ht.form;have g0 := Zd w (.cells #[.slice bo t.length cb] 33);have hp := Zk w #[.slice bo t.length cb] 33;obtain ⟨R, hR⟩ : ∃ R, R = Xv s t := ⟨_, rfl⟩;rw [← hR];have HR : Hid _ := hR;clear hR;by_cases he : s.length = t.length
 ·have d0 : ((s.length : Int) != (t.length : Int)) = false := by simp [he]
  have HR2 : Hid (R = !s.any fun x => !Zay t x) := by show _ = _; rw [HR.out]; unfold Xv; rw [decide_eq_true he, Bool.and_true, Zll]
  clear he HR;go_enter Tryz.func80, Tryz.ntmps80;go_wp2_with fail;refine (Zcf 123 #[.pointer (some ⟨w.heap.size, 0, none⟩)] (fun x => !Zay t x) S s _ _ Zj1 (hs.grow g0) hm (fun x a c w' _ hg hx => Zq4 S' t x a bo c cb _ w' (ht.grow (g0.trans hg)) hn hx.p ((hg.block _ (Za hp)).trans hp))).mono ?_;rintro e w1 ⟨rfl, g1⟩;have gE := g0.trans g1;clear g0 g1 hp hs ht;generalize (s.any fun x => !Zay t x) = A at *;obtain rfl := HR2.out;clear HR2;go_wp2_with fail;go_ret;exact ⟨rfl, gE⟩
 ·have d0 : ((s.length : Int) != (t.length : Int)) = true := by simp; omega
  obtain rfl : R = false := by rw [HR.out]; unfold Xv; rw [decide_eq_false he, Bool.and_false]
  clear he HR;go_enter Tryz.func80, Tryz.ntmps80;go_wp2_with fail;go_ret;exact ⟨rfl, g0⟩
end Go.Proofs.YtpdnapbchcdhladGreatDoor
namespace Go.Proofs.YtpdnapbchcdhladGreatDoor
set_option maxRecDepth 100000
open Go.RowKit Go.Deep
open Plain Reg
variable {B k : Nat} {cur : Array Value} {l : List Rec} {w : World}
theorem Zlv (w : World) (n : Nat) (hn : n ≤ 1000) : ∃ c, c.size = n * 4 ∧ (Instr.makeSlice 33 (.int .i64 (n : Int)) (.int .i64 (n : Int))).run Tryz.prog w = .ok (.slice (some ⟨w.heap.size, 0, none⟩) n n) (w.alloc (.cells c 49)) := by
 obtain ⟨i0, hif, hz0, hz1, hz2⟩ := info_parts Zdp;have h := run_make (P := Tryz.prog) w 33 49 i0 (.agg #[.int .i64 0, .int .i64 0, .int .i64 0, .slice none 0 0]) Tryz.underlying33 hif hz0 .i64 .i64 n n (by omega) (by omega) (by rw [hz2]; omega) (by omega);rw [h, hz1];exact ⟨_, size_madeCells _ _, by rw [Int.toNat_natCast]⟩
abbrev NoR : Nat → Prop := fun _ => False
structure Kr (B : Nat) (l : List Rec) (k : Nat) (cur : Array Value) (w : World) : Prop where
 row : w.heap[B]? = some (.cells cur 49 (0, 0))
 size : cur.size = l.length * 4
 each : ∀ i (hi : i < l.length), i < k → ∃ cs, Yg.enc (InS NoR B w) w l[i] cs ∧ ∀ (j : Nat) (u : Value), cs[j]? = some u → cur[i * 4 + j]? = some u
theorem Kr.grow {w' : World} (h : Kr B l k cur w) (hg : Zj w w') : Kr B l k cur w' :=
 ⟨(hg.block _ (Za h.row)).trans h.row, h.size, fun i hi hk => (h.each i hi hk).imp fun _ x => ⟨Yg.mono (Yg.keep x.1 fun b _ hb => hg.block b hb) (InS.grow hg), x.2⟩⟩
theorem Zzu {c : Array Value} {o : Nat} (h : o + 4 ≤ c.size) (x0 x1 x2 x3 : Value) (i : Nat) : ((((c.setIfInBounds o x0).setIfInBounds (o + 1) x1).setIfInBounds (o + 2) x2).setIfInBounds (o + 3) x3)[i]? = if i = o then some x0 else if i = o + 1 then some x1 else if i = o + 2 then some x2 else if i = o + 3 then some x3 else c[i]? := by
 simp only [Array.getElem?_setIfInBounds, Array.size_setIfInBounds];by_cases h3 : o + 3 = i
 ·rw [if_pos h3, if_pos (by omega), if_neg (by omega), if_neg (by omega), if_neg (by omega), if_pos h3.symm]
 ·rw [if_neg h3];by_cases h2 : o + 2 = i
  ·rw [if_pos h2, if_pos (by omega), if_neg (by omega), if_neg (by omega), if_pos h2.symm]
  ·rw [if_neg h2];by_cases h1 : o + 1 = i
   ·rw [if_pos h1, if_pos (by omega), if_neg (by omega), if_pos h1.symm]
   ·rw [if_neg h1];by_cases h0 : o = i
    ·rw [if_pos h0, if_pos (by omega), if_pos h0.symm]
    ·rw [if_neg h0, if_neg (by omega), if_neg (by omega), if_neg (by omega), if_neg (by omega)]
theorem Kr.put (h : Kr B l k cur w) (hk : k < l.length) {x0 x1 x2 x3 : Value} (hx : Yg.enc (InS NoR B w) w l[k] [x0, x1, x2, x3]) :
  Kr B l (k + 1) ((((cur.setIfInBounds (k * 4) x0).setIfInBounds (k * 4 + 1) x1).setIfInBounds (k * 4 + 2) x2).setIfInBounds (k * 4 + 3) x3)
   ((((w.setCell ⟨B, k * 4, none⟩ x0).setCell ⟨B, k * 4 + 1, none⟩ x1).setCell ⟨B, k * 4 + 2, none⟩ x2).setCell ⟨B, k * 4 + 3, none⟩ x3) := by
 have hg : Zo B w ((((w.setCell ⟨B, k * 4, none⟩ x0).setCell ⟨B, k * 4 + 1, none⟩ x1).setCell ⟨B, k * 4 + 2, none⟩ x2).setCell ⟨B, k * 4 + 3, none⟩ x3) := ((((Zo.refl B w).set _ _ _).set _ _ _).set _ _ _).set _ _ _;have hrow := heap_set (heap_set (heap_set (heap_set h.row (k * 4) x0) (k * 4 + 1) x1) (k * 4 + 2) x2) (k * 4 + 3) x3;generalize ((((w.setCell ⟨B, k * 4, none⟩ x0).setCell ⟨B, k * 4 + 1, none⟩ x1).setCell ⟨B, k * 4 + 2, none⟩ x2).setCell ⟨B, k * 4 + 3, none⟩ x3) = w2 at *;have hne : ∀ b, InS NoR B w b → b ≠ B := by
  rintro b (h1 | ⟨_, c, f, h1⟩) rfl
  ·exact h1
  ·rw [h.row] at h1; injection h1 with h1; injection h1 with _ h1; exact absurd h1 (by decide)
 have hkp : ∀ b, InS NoR B w b → b < w.heap.size → w2.heap[b]? = w.heap[b]? := fun b hb hlt => hg.block b hlt (hne b hb)
 have hmo : ∀ b, InS NoR B w b → InS NoR B w2 b := fun b hb => Xh hb (fun x => x) fun ⟨k1, c, f, k2⟩ => ⟨k1, c, f, (hkp b hb (Za k2)).trans k2⟩
 have hsz : k * 4 + 4 ≤ cur.size := by rw [h.size]; omega
 refine ⟨hrow, by simp [h.size], fun i hi hik => ?_⟩;by_cases e : i = k
 ·subst e;refine ⟨_, Yg.mono (Yg.keep hx hkp) hmo, fun j u hj => ?_⟩;rw [Zzu hsz]
  match j, hj with
  | 0, hj => simp at hj; subst hj; simp
  | 1, hj => simp at hj; subst hj; simp
  | 2, hj => simp at hj; subst hj; simp
  | 3, hj => simp at hj; subst hj; simp
  | j + 4, hj => simp at hj
 ·obtain ⟨cs, h1, h2⟩ := h.each i hi (by omega);refine ⟨cs, Yg.mono (Yg.keep h1 hkp) hmo, fun j u hj => ?_⟩;have hj4 : j < 4 := by
   have h9 : cs.length = 4 := Yg.len h1;rw [← h9]; exact (List.getElem?_eq_some_iff.1 hj).1
  rw [Zzu hsz, if_neg (by omega), if_neg (by omega), if_neg (by omega), if_neg (by omega)];exact h2 j u hj
theorem Kr.out (h : Kr B l k cur w) (hk : l.length ≤ k) (hm : l.length ≤ 1000) : ∃ css, Yo Yg NoR B (.slice (some ⟨B, 0, none⟩) l.length l.length) l css w := by
 have hex : ∀ i, i < l.length → ∃ cs : List Value, (∀ hi : i < l.length, Yg.enc (InS NoR B w) w l[i] cs) ∧ ∀ (j : Nat) (u : Value), cs[j]? = some u → cur[i * 4 + j]? = some u := fun i hi => by
  obtain ⟨cs, h1, h2⟩ := h.each i hi (by omega);exact ⟨cs, fun _ => h1, h2⟩
 obtain ⟨f, hf⟩ := choose_lt hex;have hlen : ∀ c ∈ (List.range l.length).map f, c.length = 4 := by
  intro c hc2;obtain ⟨j, hj, rfl⟩ := List.mem_map.1 hc2;have hj' : j < l.length := by simpa using hj
  exact Yg.len ((hf j hj').1 hj')
 have hl1 : ((List.range l.length).map f).flatten.length = l.length * 4 := by rw [Q0 _ hlen]; simp
 have hT : cur.toList.take (l.length * 4) = ((List.range l.length).map f).flatten := by
  apply List.ext_getElem?;intro j;by_cases hj : j < l.length * 4
  ·have hq : j / 4 < l.length := by omega
   have hjd : j / 4 * 4 + j % 4 = j := by omega
   have e1 := K9 ((List.range l.length).map f) (j / 4) (j % 4) (f (j / 4)) hlen (by simp [hq]) (by omega);rw [hjd] at e1;have hl4 := hlen (f (j / 4)) (by simp only [List.mem_map, List.mem_range]; exact ⟨_, hq, rfl⟩);have h2 := (hf _ hq).2 (j % 4) (f (j / 4))[j % 4] (List.getElem?_eq_getElem (by omega));rw [hjd] at h2;rw [e1, List.getElem?_take, if_pos hj, Array.getElem?_toList, h2, List.getElem?_eq_getElem (by omega)]
  ·rw [List.getElem?_eq_none (by rw [List.length_take]; omega), List.getElem?_eq_none (by rw [hl1]; omega)]
 exact ⟨(List.range l.length).map f, by simp, fun i hi => ⟨f i, by simp [hi], (hf i hi).1 hi⟩, hl1, .inr ⟨B, l.length, cur, rfl, Nat.le_refl _, h.row, Nat.le_refl _, by unfold maxLen; omega, h.size, hT⟩⟩
theorem Vs (S : Nat → Prop) (l : List Rec) (v : Value) (w : World) (hl : Yz S w v l) (hn : l.length ≤ 1000) (h8 : ∀ x ∈ l, x.data.length ≤ 8) :
  Calls Tryz.prog 98 #[v] w fun e w' => ∃ v' css, e = .returned v' ∧ Yo Yg NoR w.heap.size v' l css w' ∧ Zj w w' := by
 obtain ⟨ao, cp, rfl⟩ := hl.form;obtain ⟨c0, hc0, mk⟩ := Zlv w l.length hn;have g0 := Zd w (.cells c0 49);have hF0 : Kr w.heap.size l 0 c0 (w.alloc (.cells c0 49)) := ⟨Zk _ _ _, hc0, fun i _ h => by omega⟩;go_enter Tryz.func98, Tryz.ntmps98;go_wp2_with fail;clear mk;generalize World.alloc w _ = W at *;go_loopw [11] (fun i wr => ∃ k : Nat, k ≤ l.length ∧ i = .int .i64 k ∧ Zj w wr ∧ ∃ cur, Kr w.heap.size l k cur wr) (fun i _ => l.length - (intOf i).toNat)
 case atStart => exact ⟨0, Nat.zero_le _, rfl, g0, _, hF0⟩
 case round =>
  clear hF0 g0 hc0;obtain ⟨k, hk, rfl, hg, cur, hF⟩ := hrel;by_cases hlt : k < l.length
  ·obtain ⟨b, off, a1, c1, hv1, q0, q1, q2, q3, hu⟩ := Jn (hl.grow hg) k hlt;cases hv1;have HB : Hid (l[k].data.length ≤ 8) := h8 _ (List.getElem_mem hlt);have HP : Hid (∀ (w3 : World) (x0 x1 x2 x3 : Value), Kr w.heap.size l k cur w3 → Yg.enc (InS NoR w.heap.size w3) w3 l[k] [x0, x1, x2, x3] → _) := fun w3 x0 x1 x2 x3 h h2 => Kr.put h hlt h2
   generalize l[k] = x at *;have g1 := Zd wr (.cells #[.int .i64 x.kind, .int .i64 x.key, .int .i64 x.ver, .slice a1 x.data.length c1] 49);have hX1 := Zk wr #[.int .i64 x.kind, .int .i64 x.key, .int .i64 x.ver, .slice a1 x.data.length c1] 49;have hF1 := hF.grow g1;have hu1 := hu.grow g1;have gw1 := hg.trans g1;clear hF hu hg g1;obtain ⟨x0, x1, x2, x3⟩ := Z4 hX1 rfl rfl rfl rfl;go_wp2_with fail;refine (Zdf x.kind x.key x.ver x.data _ _ (by have := HB.out; omega) hu1.p).mono ?_;rintro e w3 ⟨v3, rfl, ho, g3⟩;have hF3 := hF1.grow g3;have gw3 := gw1.trans g3;have hbi := Zga NoR gw1.size ho;obtain ⟨a3, c3, rfl⟩ := Ye ho;have hp := HP.out w3 _ _ _ _ hF3 ⟨_, rfl, hbi⟩;have hsz : k * 4 + 4 ≤ cur.size := by rw [hF3.size]; omega
   have z0 := Ze hF3.row (k * 4) _ (Array.getElem?_eq_getElem (by omega));have z1 := Ze hF3.row (k * 4 + 1) _ (Array.getElem?_eq_getElem (by omega));have z2 := Ze hF3.row (k * 4 + 2) _ (Array.getElem?_eq_getElem (by omega));have z3 := Ze hF3.row (k * 4 + 3) _ (Array.getElem?_eq_getElem (by omega));have f0 := Zt hF3.row (k * 4);have f1 := Zt hF3.row (k * 4 + 1);have f2 := Zt hF3.row (k * 4 + 2);have f3 := Zt hF3.row (k * 4 + 3);have gE := (((((Zo.refl w.heap.size w3).set (k * 4) none (.int .i64 x.kind)).set (k * 4 + 1) none (.int .i64 x.key)).set (k * 4 + 2) none (.int .i64 x.ver)).set (k * 4 + 3) none (.slice a3 x.data.length c3)).grow gw3 (Nat.le_refl _);generalize cur[k * 4]'(by omega) = y0 at z0;generalize cur[k * 4 + 1]'(by omega) = y1 at z1;generalize cur[k * 4 + 2]'(by omega) = y2 at z2;generalize cur[k * 4 + 3]'(by omega) = y3 at z3;clear hF3 hF1 hbi ho hsz HP x0 x1 x2 x3 hX1 hu1 gw1 gw3 g3 q0 q1 q2 q3;go_wp2_with fail;go_roundw
   case rel => exact ⟨k + 1, by omega, by go_num, gE, _, hp⟩
   case measure => simp [intOf]; omega
  ·obtain ⟨css, hE⟩ := hF.out (by omega) hn;clear hF hl;go_wp2_with fail;go_ret;exact ⟨_, css, rfl, hE, hg⟩
end Go.Proofs.YtpdnapbchcdhladGreatDoor
