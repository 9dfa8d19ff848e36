import Derived.Test.YtikhknkpndhakabGreatMdlD
set_option maxHeartbeats 8000000
namespace Go.Proofs.YtikhknkpndhakabGreat
set_option maxRecDepth 100000
open Go.RowKit Go.Deep
open Plain Reg
theorem Ztr (x y : Int) (w : World) (h : ¬ x < y) : Calls Tryz.prog 131 #[.int .i64 x, .int .i64 y] w fun e w' => e = .returned (.bool false) ∧ w' = w := by
 go_enter Tryz.func131, Tryz.ntmps131;go_wp2_with fail;refine (Za5 _ _).mono ?_;rintro e w1 ⟨rfl, rfl⟩;go_wp2_with fail;go_ret;exact ⟨by show Ending.returned (.bool (decide (x < y))) = _; rw [decide_eq_false (by omega)], rfl⟩
def Zeg (ao : Option Addr) (xs : List Int) (w : World) : Prop := ∀ (j : Nat) (h : j < xs.length), ∃ g, ao = some ⟨g, 0, none⟩ ∧ w.cell? ⟨g, j, none⟩ = some (.int .i64 xs[j])
theorem Zs8 {w : World} {B n cap : Nat} {T : TypeId} {ao : Option Addr} {xs : List Int} (h : w.ownsRow B T 1 (.slice ao n cap) n (xs.map (Value.int .i64))) : Zeg ao xs w := fun j hj => by
 rcases h.2 with ⟨e, h0⟩ | ⟨q, cap', cur, e, _⟩
 ·have := h.1;simp at this; omega
 ·cases e;have hn : xs.length = n := by have := h.1; simp at this; exact this
  exact ⟨q, rfl, by rw [h.cellAt j (by omega)]; simp [hj]⟩
theorem Znq (xs : List Int) (ao : Option Addr) (cap : Nat) (w : World) (hn : xs.length ≤ 12) (hs : xs.Pairwise (· ≤ ·)) (hc : Zeg ao xs w) :
  Calls Tryz.prog 125 #[.slice ao xs.length cap, .int .i64 0, .int .i64 (xs.length : Int)] w fun e w' => e = .returned (.tuple #[]) ∧ Zo w w' := by
 go_enter Tryz.func125, Tryz.ntmps125;go_wp2_with fail;go_loopw [6] (fun i wr => ∃ k : Nat, (k + 1 ≤ xs.length ∨ k = 0) ∧ i = .int .i64 ((k : Int) + 1) ∧ Zo w wr) (fun i _ => xs.length - (intOf i).toNat)
 case atStart => exact ⟨0, .inr rfl, rfl, Zo.refl _⟩
 case round =>
  obtain ⟨m, hk2, rfl, hG⟩ := hrel;by_cases hlt : m + 1 < xs.length
  ·have d0 : (m : Int) + 1 < (xs.length : Int) := by omega
   obtain ⟨g, hgo, q1⟩ := hc (m + 1) hlt;obtain ⟨g', e', p1⟩ := hc m (by omega);rw [hgo] at e';cases e';subst hgo;have q0 := (Below.cell hG (Zv q1)).trans q1;have p0 := (Below.cell hG (Zv p1)).trans p1;have HL : Hid (¬ xs[m + 1] < xs[m]) := by
    have := List.pairwise_iff_getElem.1 hs m (m + 1) (by omega) hlt (by omega);show ¬ _;omega
   generalize xs[m + 1] = y at *;generalize xs[m] = x at *;clear q1 p1;go_wp2_with fail;obtain ⟨wo, rfl⟩ : ∃ wo : World, wo = wr := ⟨_, rfl⟩;go_loopw [7] (fun i wq => i = .int .i64 ((m : Int) + 1) ∧ wo = wq) (fun _ _ => 0)
   case atStart => exact ⟨rfl, rfl⟩
   case round =>
    obtain ⟨rfl, hww⟩ := hrel;subst hww;go_wp2_with fail;refine Z5 [ex (.int .i64 ((m : Int) + 1)), ex (.int .i64 0), ex (.bool true), ex (.bool true), ex (.slice (some ⟨g, 0, none⟩) xs.length cap), ex (.int .i64 ((m : Int) + 1)), ex (.pointer (some ⟨g, m + 1, none⟩)), ex (.int .i64 y), ex (.slice (some ⟨g, 0, none⟩) xs.length cap), ex (.int .i64 ((m : Int) + 1)), ex (.int .i64 (m : Int)), ex (.pointer (some ⟨g, m, none⟩)), ex (.int .i64 x), ex (.bool false), ex (.bool false)] (by kernel_rfl) (by kernel_rfl) ⟨Zi _, Zi _, Zi _, Zi _, Zi _, Zi _, Zi _, Zi _, Zi _, Zi _, Zi _, Zi _, Zi _, Zi _, Zi _, trivial⟩ ?_ ?_
    ·refine ⟨?_, ?_, ?_, ?_, ?_, ?_, ?_, ?_, ?_, ?_, ?_, ?_, ?_, ?_, ?_, trivial⟩
     ·refine Zc rfl fun a w' ek ef hg hin => ?_;have e : a (.tmp 7) = .int .i64 ((m : Int) + 1) := Zy hin 7 rfl;exact Zt rfl e
     ·refine Zc rfl fun a w' ek ef hg hin => ?_;have e : a (.tmp 1) = .int .i64 0 := Zy hin 1 rfl;exact Zt rfl e
     ·refine Zc rfl fun a w' ek ef hg hin => ?_;have e16 : a (.tmp 16) = _ := Zg hin 0 rfl;have e17 : a (.tmp 17) = _ := Zg hin 1 rfl;refine Zm ?_ rfl;clear hin hg;go_simp;all_goals go_arith
     ·refine Zc rfl fun a w' ek ef hg hin => ?_;have e : a (.tmp 18) = _ := Zg hin 2 rfl;exact Zt rfl e
     ·refine Zu 3 true rfl (fun a w' hin => Zq hin 3 (by kernel_rfl)) fun a w' ek ef hg hin => ?_;have e : a (.tmp 0) = .slice (some ⟨g, 0, none⟩) xs.length cap := Zy hin 0 rfl;exact Zt rfl e
     ·refine Zu 3 true rfl (fun a w' hin => Zq hin 3 (by kernel_rfl)) fun a w' ek ef hg hin => ?_;have e : a (.tmp 7) = .int .i64 ((m : Int) + 1) := Zy hin 7 rfl;exact Zt rfl e
     ·refine Zu 3 true rfl (fun a w' hin => Zq hin 3 (by kernel_rfl)) fun a w' ek ef hg hin => ?_;have e20 : a (.tmp 20) = _ := Zg hin 4 rfl;have e21 : a (.tmp 21) = _ := Zg hin 5 rfl;refine Zm ?_ rfl;clear hin hg;go_simp;all_goals go_arith
     ·refine Zu 3 true rfl (fun a w' hin => Zq hin 3 (by kernel_rfl)) fun a w' ek ef hg hin => ?_;have e22 : a (.tmp 22) = _ := Zg hin 6 rfl;have h0 := (Below.cell hg (Zv q0)).trans q0;refine Zm ?_ rfl;clear hin hg;go_simp;all_goals go_arith
     ·refine Zu 3 true rfl (fun a w' hin => Zq hin 3 (by kernel_rfl)) fun a w' ek ef hg hin => ?_;have e : a (.tmp 0) = .slice (some ⟨g, 0, none⟩) xs.length cap := Zy hin 0 rfl;exact Zt rfl e
     ·refine Zu 3 true rfl (fun a w' hin => Zq hin 3 (by kernel_rfl)) fun a w' ek ef hg hin => ?_;have e : a (.tmp 7) = .int .i64 ((m : Int) + 1) := Zy hin 7 rfl;exact Zt rfl e
     ·refine Zu 3 true rfl (fun a w' hin => Zq hin 3 (by kernel_rfl)) fun a w' ek ef hg hin => ?_;have e25 : a (.tmp 25) = _ := Zg hin 9 rfl;refine Zm ?_ rfl;clear hin hg;go_simp;all_goals go_arith
     ·refine Zu 3 true rfl (fun a w' hin => Zq hin 3 (by kernel_rfl)) fun a w' ek ef hg hin => ?_;have e24 : a (.tmp 24) = _ := Zg hin 8 rfl;have e26 : a (.tmp 26) = _ := Zg hin 10 rfl;refine Zm ?_ rfl;clear hin hg;go_simp;all_goals go_arith
     ·refine Zu 3 true rfl (fun a w' hin => Zq hin 3 (by kernel_rfl)) fun a w' ek ef hg hin => ?_;have e27 : a (.tmp 27) = _ := Zg hin 11 rfl;have h0 := (Below.cell hg (Zv p0)).trans p0;refine Zm ?_ rfl;clear hin hg;go_simp;all_goals go_arith
     ·refine Zu 3 true rfl (fun a w' hin => Zq hin 3 (by kernel_rfl)) fun a w' ek ef hg hin => ?_;have e23 : a (.tmp 23) = _ := Zg hin 7 rfl;have e28 : a (.tmp 28) = _ := Zg hin 12 rfl;refine Yz (f := 131) (args := #[.int .i64 y, .int .i64 x]) ?_ ((Ztr y x w' (by have := HL.out; omega)).mono ?_)
      ·clear hin hg;go_simp;all_goals go_arith
      ·rintro e w2 ⟨rfl, rfl⟩;exact ⟨_, rfl, Zo.refl _, rfl⟩
     ·refine Zc rfl fun a w' ek ef hg hin => ?_;have ec : a (.tmp 19) = _ := Zg hin 3 rfl;have e : a (.tmp 29) = _ := Zg hin 13 rfl;exact Xq rfl ec e
    ·intro vs w' hg ht;obtain ⟨q16, q17, q18, q19, q20, q21, q22, q23, q24, q25, q26, q27, q28, q29, q30, -⟩ := ht;have r16 : vs 0 = .int .i64 ((m : Int) + 1) := q16;have r17 : vs 1 = .int .i64 0 := q17;have r18 : vs 2 = .bool true := q18;have r19 : vs 3 = .bool true := q19;have r20 : vs 4 = .slice (some ⟨g, 0, none⟩) xs.length cap := q20;have r21 : vs 5 = .int .i64 ((m : Int) + 1) := q21;have r22 : vs 6 = .pointer (some ⟨g, m + 1, none⟩) := q22;have r23 : vs 7 = .int .i64 y := q23;have r24 : vs 8 = .slice (some ⟨g, 0, none⟩) xs.length cap := q24;have r25 : vs 9 = .int .i64 ((m : Int) + 1) := q25;have r26 : vs 10 = .int .i64 (m : Int) := q26;have r27 : vs 11 = .pointer (some ⟨g, m, none⟩) := q27;have r28 : vs 12 = .int .i64 x := q28;have r29 : vs 13 = .bool false := q29;have r30 : vs 14 = .bool false := q30;clear q16 q17 q18 q19 q20 q21 q22 q23 q24 q25 q26 q27 q28 q29 q30;simp only [Yc, Act.put, List.setIfInBounds_toArray, List.set_cons_zero, List.set_cons_succ, r16, r17, r18, r19, r20, r21, r22, r23, r24, r25, r26, r27, r28, r29, r30];clear r16 r17 r18 r19 r20 r21 r22 r23 r24 r25 r26 r27 r28 r29 r30;have hG2 := hG.trans hg;clear hg hG p0 q0 HL;go_wp2_with fail;go_roundw
     case rel => exact ⟨m + 1, by omega, by go_num, hG2⟩
     case measure => simp [intOf]; omega
  ·have d0 : ¬ ((m : Int) + 1 < (xs.length : Int)) := by omega
   go_wp2_with fail;go_end0;exact ⟨rfl, hG⟩
theorem Zs3 (xs : List Int) (ao : Option Addr) (cap : Nat) (r : Int) (w : World) (hn : xs.length ≤ 12) (hs : xs.Pairwise (· ≤ ·)) (hc : Zeg ao xs w) :
  Calls Tryz.prog 91 #[.slice ao xs.length cap, .int .i64 0, .int .i64 (xs.length : Int), .int .i64 r] w fun e w' => e = .returned (.tuple #[]) ∧ Zo w w' := by
 have HC : Hid (Zeg ao xs w) := hc;clear hc;go_enter Tryz.func91, Tryz.ntmps91;go_wp2_with fail;go_loopw [1, 2] (fun i j wr => i = .int .i64 0 ∧ j = .int .i64 (xs.length : Int) ∧ w = wr) (fun _ _ _ => 0)
 case atStart => exact ⟨rfl, rfl, rfl⟩
 case round =>
  obtain ⟨rfl, rfl, hww⟩ := hrel;subst hww;have d0 : (xs.length : Int) ≤ 12 := by omega
  go_wp2_with fail;refine (Znq xs ao cap w hn hs HC.out).mono ?_;rintro e w1 ⟨rfl, hE⟩;clear HC d0;go_wp2_with fail;exact bodyPost_ret (v := .tuple #[]) (by simp [results, Tryz.results91, go_sem]) rfl ⟨rfl, hE⟩
theorem Zpp (xs : List Int) (ao : Option Addr) (cap : Nat) (w : World) (hn : xs.length ≤ 6) (hs : xs.Pairwise (· ≤ ·)) (hc : Zeg ao xs w) :
  Calls Tryz.prog 51 #[.slice ao xs.length cap] w fun e w' => e = .returned (.tuple #[]) ∧ Zo w w' := by
 have HC : Hid (Zeg ao xs w) := hc;clear hc;have hn64 : (xs.length : Int) % 18446744073709551616 = (xs.length : Int) := by omega
 go_enter Tryz.func51, Tryz.ntmps51;go_wp2_with fail;refine (Zo1 xs.length w hn).mono ?_;rintro e w1 ⟨r, rfl, rfl⟩;go_wp2_with fail;refine (Zs3 xs ao cap r w1 (by omega) hs HC.out).mono ?_;rintro e w2 ⟨rfl, hE⟩;clear HC;go_wp2_with fail;go_end0;exact ⟨rfl, hE⟩
structure Cpt (xs : List Int) (m : Nat) (ds zs : List Int) : Prop where
 len : zs.length = xs.length
 few : ds.length < m
 head : zs.take ds.length = ds
 tail : ∀ j, m ≤ j + 1 → zs[j]? = xs[j]?
 up : ds.Pairwise (· < ·)
 mem : ∀ x, x ∈ ds ↔ x ∈ xs.take m
theorem Zhw {xs : List Int} {m : Nat} (h0 : 1 ≤ m) (hm : m < xs.length) (he : xs[m] = xs[m - 1]) (x : Int) : x ∈ xs.take (m + 1) ↔ x ∈ xs.take m := by
 rw [List.take_succ_eq_append_getElem hm, List.mem_append, List.mem_singleton, he];refine ⟨fun h => h.elim (fun h => h) fun h => ?_, .inl⟩;rw [h];exact List.mem_iff_getElem.2 ⟨m - 1, by rw [List.length_take]; omega, by rw [List.getElem_take]⟩
theorem Cpt.start {xs : List Int} {m : Nat} (h0 : 1 ≤ m) (hm : m < xs.length) (he : xs[m] = xs[m - 1]) (hu : (xs.take m).Pairwise (· < ·)) : Cpt xs (m + 1) (xs.take m) xs :=
 ⟨rfl, by rw [List.length_take]; omega, by rw [List.length_take, Nat.min_eq_left (by omega)], fun _ _ => rfl, hu, fun x => (Zhw h0 hm he x).symm⟩
theorem Cpt.skip {xs : List Int} {m : Nat} {ds zs : List Int} (h : Cpt xs m ds zs) (h0 : 1 ≤ m) (hm : m < xs.length) (he : xs[m] = xs[m - 1]) : Cpt xs (m + 1) ds zs :=
 ⟨h.len, Nat.lt_succ_of_lt h.few, h.head, fun j hj => h.tail j (by omega), h.up, fun x => (h.mem x).trans (Zhw h0 hm he x).symm⟩
theorem Zfv {xs : List Int} (hs : xs.Pairwise (· ≤ ·)) {m : Nat} (h0 : 1 ≤ m) (hm : m < xs.length) (he : xs[m] ≠ xs[m - 1]) : ∀ x ∈ xs.take m, x < xs[m] := fun x hx => by
 obtain ⟨i, hi, rfl⟩ := List.mem_iff_getElem.1 hx;rw [List.length_take] at hi;rw [List.getElem_take];have h1 := List.pairwise_iff_getElem.1 hs (m - 1) m (by omega) hm (by omega);by_cases e : i = m - 1
 ·subst e; omega
 ·have h2 := List.pairwise_iff_getElem.1 hs i (m - 1) (by omega) (by omega) (by omega);omega
theorem Zuz {xs : List Int} (hs : xs.Pairwise (· ≤ ·)) {m : Nat} (h0 : 1 ≤ m) (hm : m < xs.length) (he : xs[m] ≠ xs[m - 1]) (hu : (xs.take m).Pairwise (· < ·)) : (xs.take (m + 1)).Pairwise (· < ·) := by
 rw [List.take_succ_eq_append_getElem hm];exact List.pairwise_append.2 ⟨hu, by simp, fun x hx y hy => by rw [List.mem_singleton.1 hy]; exact Zfv hs h0 hm he x hx⟩
theorem Cpt.put {xs : List Int} {m : Nat} {ds zs : List Int} (h : Cpt xs m ds zs) (hs : xs.Pairwise (· ≤ ·)) (hm : m < xs.length) (he : xs[m] ≠ xs[m - 1]) : Cpt xs (m + 1) (ds ++ [xs[m]]) (zs.set ds.length xs[m]) := by
 have hf := h.few;have hl := h.len;refine ⟨by simp [hl], by simp; omega, ?_, fun j hj => by rw [List.getElem?_set_ne (by omega)]; exact h.tail j (by omega), ?_, fun x => ?_⟩
 ·rw [List.length_append, List.length_singleton, List.take_succ_eq_append_getElem (by simp; omega), List.getElem_set_self, List.take_set, List.set_eq_of_length_le (by rw [List.length_take]; omega), h.head]
 ·refine List.pairwise_append.2 ⟨h.up, by simp, fun x hx y hy => ?_⟩;rw [List.mem_singleton.1 hy];exact Zfv hs (by omega) hm he x ((h.mem x).1 hx)
 ·rw [List.take_succ_eq_append_getElem hm, List.mem_append, List.mem_append, h.mem]
theorem Zin {g : Nat} {T : TypeId} {f} : ∀ (vs : List Value) (o : Nat) (w : World) (cur : Array Value), w.heap[g]? = some (.cells cur T f) →
  ∃ cur', (w.setCells g o vs).heap[g]? = some (.cells cur' T f) ∧ cur'.size = cur.size ∧ (∀ i, i < o → cur'[i]? = cur[i]?) ∧ Zp g w (w.setCells g o vs)
 | [], o, w, cur, h => ⟨cur, h, rfl, fun _ _ => rfl, Zp.refl _ _⟩
 | v :: vs, o, w, cur, h => by
  obtain ⟨c', h1, h2, h3, h4⟩ := Zin vs (o + 1) _ _ (Yb h o v);refine ⟨c', h1, by rw [h2]; simp, fun i hi => ?_, ((Zp.refl g w).set _ _ _).trans h4⟩;rw [h3 i (by omega), Array.getElem?_setIfInBounds, if_neg (by omega)]
theorem Zii : (Tryz.prog.info? 3).map (fun i => (i.zero, i.size, i.bytes)) = some (some (.int .i64 0), 1, 8) := by kernel_rfl
theorem Zn4 (w : World) (b o n c : Nat) (hc : ∀ j, j < n + 1 → (w.cell? ⟨b, o + j, none⟩).isSome = true) (hf : ∀ j, j < n + 1 → w.frozen? ⟨b, o + j, none⟩ = false) :
  ∃ vs, ∀ ty, (Builtin.clear_ #[36] ty #[.slice (some ⟨b, o, none⟩) (n + 1) c]).run Tryz.prog w = .ok (.tuple #[]) (w.setCells b o vs) := by
 obtain ⟨i0, hif, hz0, hz1, hz2⟩ := info_parts Zii;have hv : ∀ w, (zeroValue 3).run Tryz.prog w = .ok (.int .i64 0) w := fun w => by simp [zeroValue, typeInfo, hif, hz0]
 have hzl : (Builtin.zeroCells (Value.int .i64 0).cells (n + 1)).toList.length = n + 1 := by simp [Builtin.zeroCells, Value.cells]
 have hz1 : ∀ v ∈ (Builtin.zeroCells (Value.int .i64 0).cells (n + 1)).toList, v = Value.int .i64 0 := by simp [Builtin.zeroCells, Value.cells, Nat.mod_one]
 refine ⟨(Builtin.zeroCells (Value.int .i64 0).cells (n + 1)).toList, fun ty => ?_⟩;have hst := run_storeCells_cells (P := Tryz.prog) b o (Builtin.zeroCells (Value.int .i64 0).cells (n + 1)).toList 0 w (by rw [hzl]; simpa using hc) (by rw [hzl]; simpa using hf) (by intro v hv'; rw [hz1 v hv']; rfl);simp only [Nat.add_zero] at hst;simp [Builtin.clear_, run_underlying Tryz.underlying36, hv, hst]
end Go.Proofs.YtikhknkpndhakabGreat
