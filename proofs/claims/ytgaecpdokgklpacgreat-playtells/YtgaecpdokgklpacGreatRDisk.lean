import Derived.Test.YtgaecpdokgklpacGreatDk
set_option maxHeartbeats 8000000
namespace Go.Proofs.YtgaecpdokgklpacGreat
set_option maxRecDepth 100000
open Go.RowKit
open Plain Reg
theorem Zcm {α : Type} (a b : List α) (k : Nat) (ha : k < a.length) (hb : k < b.length) (h : a.take k = b.take k) (he : a[k] = b[k]) : a.take (k + 1) = b.take (k + 1) := by
 rw [List.take_succ_eq_append_getElem ha, List.take_succ_eq_append_getElem hb, h, he]
theorem Zj7 {α : Type} (a b : List α) (k : Nat) (ha : k < a.length) (hb : k < b.length) (he : a[k] ≠ b[k]) : a ≠ b := by
 rintro rfl; exact he rfl
theorem Zhs {α : Type} [BEq α] [LawfulBEq α] {a b : α} (h : a = b) : (a == b) = true := by simp [h]
theorem X6 {α : Type} [BEq α] [LawfulBEq α] {a b : α} (h : a ≠ b) : (a == b) = false := by simpa using h
theorem Ze4 (s t : List (List UInt8)) (va vb : Value) (w : World) (ha : Xl w va s) (hb : Xl w vb t) (hm : s.length ≤ 140737488355328) :
  Calls Tryz.prog 60 #[va, vb] w fun e w' => e = .returned (.bool (s == t)) ∧ Zo w w' := by
 obtain ⟨aa, ca, rfl⟩ := ha.form;obtain ⟨ab, cb, rfl⟩ := hb.form;by_cases hlen : s.length = t.length
 ·have d1 : ((s.length : Int) != (t.length : Int)) = false := by simp [hlen]
  have HL : Hid (s.length = t.length) := hlen;clear hlen;go_enter Tryz.func60, Tryz.ntmps60;go_wp2_with fail;go_loopw [13] (fun i wr => ∃ k : Nat, k ≤ s.length ∧ i = .int .i64 k ∧ Zo w wr ∧ s.take k = t.take k) (fun i _ => s.length - (intOf i).toNat)
  case atStart => exact ⟨0, Nat.zero_le _, rfl, Zo.refl _, rfl⟩
  case round =>
   obtain ⟨k, hk, rfl, gr, htk⟩ := hrel;have HT : Hid (s.take k = t.take k) := htk;clear htk;by_cases hlt : k < s.length
   ·have hlb : k < t.length := by have := HL.out; omega
    obtain ⟨b1, o1, rfl, u1, hu1, hB1⟩ := (ha.grow gr).at k hlt;obtain ⟨b2, o2, rfl, u2, hu2, hB2⟩ := (hb.grow gr).at k hlb;obtain ⟨a1, c1, rfl, -, -⟩ := Yl hB1;obtain ⟨a2, c2, rfl, -, -⟩ := Yl hB2;have HX : Hid (s[k] = t[k] → s.take (k + 1) = t.take (k + 1)) := Zcm s t k hlt hlb HT.out;have HY : Hid (s[k] ≠ t[k] → (s == t) = false) := fun h => X6 (Zj7 s t k hlt hlb h)
    generalize s[k] = x at *;generalize t[k] = z at *;go_wp2_with fail;rename_i wr _;refine Ya [ex (.slice (some ⟨b1, o1, none⟩) s.length ca), ex (.int .i64 k), ex (.pointer (some ⟨b1, o1 + k, none⟩)), ex (.slice a1 x.length c1), ex (str x), ex (.slice (some ⟨b2, o2, none⟩) t.length cb), ex (.int .i64 k), ex (.pointer (some ⟨b2, o2 + k, none⟩)), ex (.slice a2 z.length c2), ex (str z), ex (.bool (x != z))] (by kernel_rfl) (by kernel_rfl) ⟨Zh _, Zh _, Zh _, Zh _, Zh _, Zh _, Zh _, Zh _, Zh _, Zh _, Zh _, trivial⟩ ?_ ?_
    ·refine ⟨?_, ?_, ?_, ?_, ?_, ?_, ?_, ?_, ?_, ?_, ?_, trivial⟩
     ·refine Zb rfl fun a w' ek ef hg hin => ?_;have e : a (.tmp 0) = .slice (some ⟨b1, o1, none⟩) s.length ca := Zx hin 0 rfl;exact Zt rfl e
     ·refine Zb rfl fun a w' ek ef hg hin => ?_;have e : a (.tmp 5) = .int .i64 k := Zx hin 5 rfl;exact Zt rfl e
     ·refine Zb rfl fun a w' ek ef hg hin => ?_;have e16 : a (.tmp 16) = _ := Zg hin 0 rfl;have e17 : a (.tmp 17) = _ := Zg hin 1 rfl;refine Zi ?_ rfl;clear hin hg;go_simp;all_goals go_arith
     ·refine Zb rfl fun a w' ek ef hg hin => ?_;have e18 : a (.tmp 18) = _ := Zg hin 2 rfl;have h1 := (Below.cell hg (Zu hu1)).trans hu1;refine Zi ?_ rfl;clear hin hg;go_simp;all_goals go_arith
     ·refine Zb rfl fun a w' ek ef hg hin => ?_;have e19 : a (.tmp 19) = _ := Zg hin 3 rfl;refine Zi ?_ rfl;have hrun := V9 w' _ _ (Z1 hB1 hg);clear hin hg;go_simp;all_goals go_arith
     ·refine Zb rfl fun a w' ek ef hg hin => ?_;have e : a (.tmp 1) = .slice (some ⟨b2, o2, none⟩) t.length cb := Zx hin 1 rfl;exact Zt rfl e
     ·refine Zb rfl fun a w' ek ef hg hin => ?_;have e : a (.tmp 5) = .int .i64 k := Zx hin 5 rfl;exact Zt rfl e
     ·refine Zb rfl fun a w' ek ef hg hin => ?_;have e21 : a (.tmp 21) = _ := Zg hin 5 rfl;have e22 : a (.tmp 22) = _ := Zg hin 6 rfl;refine Zi ?_ rfl;clear hin hg;go_simp;all_goals go_arith
     ·refine Zb rfl fun a w' ek ef hg hin => ?_;have e23 : a (.tmp 23) = _ := Zg hin 7 rfl;have h1 := (Below.cell hg (Zu hu2)).trans hu2;refine Zi ?_ rfl;clear hin hg;go_simp;all_goals go_arith
     ·refine Zb rfl fun a w' ek ef hg hin => ?_;have e24 : a (.tmp 24) = _ := Zg hin 8 rfl;refine Zi ?_ rfl;have hrun := V9 w' _ _ (Z1 hB2 hg);clear hin hg;go_simp;all_goals go_arith
     ·refine Zb rfl fun a w' ek ef hg hin => ?_;have e20 : a (.tmp 20) = _ := Zg hin 4 rfl;have e25 : a (.tmp 25) = _ := Zg hin 9 rfl;refine Zi ?_ rfl;unfold str at e20 e25;clear hin hg;go_simp;simp only [bne, Bool.not_not]
    ·intro vs w' hg ht;obtain ⟨q16, q17, q18, q19, q20, q21, q22, q23, q24, q25, q26, -⟩ := ht;have r16 : vs 0 = .slice (some ⟨b1, o1, none⟩) s.length ca := q16;have r17 : vs 1 = .int .i64 k := q17;have r18 : vs 2 = .pointer (some ⟨b1, o1 + k, none⟩) := q18;have r19 : vs 3 = .slice a1 x.length c1 := q19;have r20 : vs 4 = str x := q20;have r21 : vs 5 = .slice (some ⟨b2, o2, none⟩) t.length cb := q21;have r22 : vs 6 = .int .i64 k := q22;have r23 : vs 7 = .pointer (some ⟨b2, o2 + k, none⟩) := q23;have r24 : vs 8 = .slice a2 z.length c2 := q24;have r25 : vs 9 = str z := q25;have r26 : vs 10 = .bool (x != z) := q26;clear q16 q17 q18 q19 q20 q21 q22 q23 q24 q25 q26;simp only [Yf, Act.put, List.setIfInBounds_toArray, List.set_cons_zero, List.set_cons_succ, r16, r17, r18, r19, r20, r21, r22, r23, r24, r25, r26];clear r16 r17 r18 r19 r20 r21 r22 r23 r24 r25 r26;have g2 := gr.trans hg;by_cases hxz : x = z
     ·have d2 : (x != z) = false := by simp [hxz]
      have HN := HX.out hxz;clear hxz;rw [d2];have HN' : Hid _ := HN;clear HN d2;go_wp2_with fail;go_roundw
      case rel => exact ⟨k + 1, by omega, by go_num, g2, HN'.out⟩
      case measure => simp [intOf]; omega
     ·have d2 : (x != z) = true := by simp [hxz]
      have HN : Hid _ := HY.out hxz;clear hxz;rw [d2];clear d2;go_wp2_with fail;go_ret;exact ⟨Vn HN.out.symm, g2⟩
   ·have HN : Hid ((s == t) = true) := by
     have h := HT.out;rw [List.take_of_length_le (by omega), List.take_of_length_le (by have := HL.out; omega)] at h;exact Zhs h
    go_wp2_with fail;go_ret;exact ⟨Vn HN.out.symm, gr⟩
 ·have d1 : ((s.length : Int) != (t.length : Int)) = true := by simp; omega
  have HN : Hid ((s == t) = false) := X6 (fun e => hlen (by rw [e]));clear hlen;go_enter Tryz.func60, Tryz.ntmps60;go_wp2_with fail;go_ret;exact ⟨Vn HN.out.symm, Zo.refl _⟩
theorem Zuq (s t : List Wr) (k : Nat) (hs : k < s.length) (ht : k < t.length) (h : s[k].1 ≠ t[k].1 ∨ s[k].2 ≠ t[k].2) : (s == t) = false := by
 refine X6 (Zj7 s t k hs ht (fun e => ?_));rcases h with h | h
 ·exact h (by rw [e])
 ·exact h (by rw [e])
theorem Zh5 (s t : Dk) (vb vl ub ul : Value) (w : World) (hb : Xl w vb s.blocks) (hl : Vc w vl s.late) (hb' : Xl w ub t.blocks) (hl' : Vc w ul t.late) (hm : s.blocks.length ≤ 140737488355328) (hm2 : s.late.length ≤ 140737488355328) :
  Calls Tryz.prog 33 #[.agg #[vb, vl], .agg #[ub, ul]] w fun e w' => e = .returned (.bool (s.same t)) ∧ Zo w w' := by
 obtain ⟨ab, cb, rfl⟩ := hb.form;obtain ⟨al, cl, rfl⟩ := hl.form;obtain ⟨ab', cb', rfl⟩ := hb'.form;obtain ⟨al', cl', rfl⟩ := hl'.form;have gW := Zs w (.cells #[.slice ab s.blocks.length cb, .slice al s.late.length cl] 26) (.cells #[.slice ab' t.blocks.length cb', .slice al' t.late.length cl'] 26);have hx : ((w.alloc (.cells #[.slice ab s.blocks.length cb, .slice al s.late.length cl] 26)).alloc (.cells #[.slice ab' t.blocks.length cb', .slice al' t.late.length cl'] 26)).heap[w.heap.size]? = some (.cells #[.slice ab s.blocks.length cb, .slice al s.late.length cl] 26 (0, 0)) :=
  ((Zc (w.alloc (.cells #[.slice ab s.blocks.length cb, .slice al s.late.length cl] 26)) _).block _ (by simp)).trans (Zj _ _ _)
 have hy : ((w.alloc (.cells #[.slice ab s.blocks.length cb, .slice al s.late.length cl] 26)).alloc (.cells #[.slice ab' t.blocks.length cb', .slice al' t.late.length cl'] 26)).heap[w.heap.size + 1]? = some (.cells #[.slice ab' t.blocks.length cb', .slice al' t.late.length cl'] 26 (0, 0)) := by
  have h := Zj (w.alloc (.cells #[.slice ab s.blocks.length cb, .slice al s.late.length cl] 26)) #[.slice ab' t.blocks.length cb', .slice al' t.late.length cl'] 26;rw [World.size_alloc] at h;exact h
 have hbW := hb.grow gW;have hbW' := hb'.grow gW;go_enter Tryz.func33, Tryz.ntmps33;go_wp2_with fail;generalize World.alloc (World.alloc w _) _ = W at hx hy gW hbW hbW' ⊢;refine (Ze4 s.blocks t.blocks _ _ _ hbW hbW' hm).mono ?_;cases hbe : (s.blocks == t.blocks) with
 | false =>
  have HN : Hid (s.same t = false) := by show s.same t = false; unfold Dk.same; rw [hbe]; rfl
  clear hbe;rintro e w1 ⟨rfl, g1⟩;go_wp2_with fail;go_ret;exact ⟨Vn HN.out.symm, gW.trans g1⟩
 | true =>
  have HS : Hid (s.same t = (s.late == t.late)) := by show s.same t = _; unfold Dk.same; rw [hbe]; rfl
  clear hbe;rintro e w1 ⟨rfl, g1⟩;have hx1 := (g1.block _ (Za hx)).trans hx;have hy1 := (g1.block _ (Za hy)).trans hy;have gw1 := gW.trans g1;obtain ⟨x0, x1⟩ := Xb hx1 rfl rfl;obtain ⟨y0, y1⟩ := Xb hy1 rfl rfl;clear hx hy g1 hbW hbW' gW;by_cases hlen : s.late.length = t.late.length
  ·have d1 : ((s.late.length : Int) != (t.late.length : Int)) = false := by simp [hlen]
   have HL : Hid (s.late.length = t.late.length) := hlen;clear hlen;go_wp2_with fail;go_loopw [24] (fun i wr => ∃ k : Nat, k ≤ s.late.length ∧ i = .int .i64 k ∧ Zo w1 wr ∧ s.late.take k = t.late.take k) (fun i _ => s.late.length - (intOf i).toNat)
   case atStart => exact ⟨0, Nat.zero_le _, rfl, Zo.refl _, rfl⟩
   case round =>
    obtain ⟨k, hk, rfl, gr, htk⟩ := hrel;have HT : Hid (s.late.take k = t.late.take k) := htk;clear htk;by_cases hlt : k < s.late.length
    ·have hlb : k < t.late.length := by have := HL.out; omega
     have gwr := gw1.trans gr;obtain ⟨b1, o1, rfl, hp1, u1, hu1, hB1⟩ := (hl.grow gwr).at k hlt;obtain ⟨b2, o2, rfl, hp2, u2, hu2, hB2⟩ := (hl'.grow gwr).at k hlb;obtain ⟨a1, c1, rfl, -, -⟩ := Yl hB1;obtain ⟨a2, c2, rfl, -, -⟩ := Yl hB2;have HX : Hid (s.late[k].1 = t.late[k].1 → s.late[k].2 = t.late[k].2 → s.late.take (k + 1) = t.late.take (k + 1)) := fun h1 h2 => Zcm _ _ k hlt hlb HT.out (Prod.ext h1 h2)
     have HY : Hid (s.late[k].1 ≠ t.late[k].1 ∨ s.late[k].2 ≠ t.late[k].2 → (s.late == t.late) = false) := Zuq _ _ k hlt hlb;have x1' := (Below.cell gr (Zu x1)).trans x1;have y1' := (Below.cell gr (Zu y1)).trans y1;clear x1 y1 x0 y0 hx1 hy1;have x1 := x1';have y1 := y1';clear x1' y1';generalize s.late[k].1 = p at *;generalize t.late[k].1 = q at *;generalize s.late[k].2 = x at *;generalize t.late[k].2 = z at *;go_wp2_with fail;rename_i wr _;by_cases hpq : p = q
     ·have d2 : (p != q) = false := by simp [hpq]
      have HPQ : Hid (p = q) := hpq;clear hpq;refine Ya [ex (.pointer (some ⟨w.heap.size, 1, none⟩)), ex (.slice (some ⟨b1, o1, none⟩) s.late.length cl), ex (.int .i64 k), ex (.pointer (some ⟨b1, o1 + k * 2, none⟩)), ex (.pointer (some ⟨b1, o1 + k * 2, none⟩)), ex (.int .i64 p), ex (.pointer (some ⟨w.heap.size + 1, 1, none⟩)), ex (.slice (some ⟨b2, o2, none⟩) t.late.length cl'), ex (.int .i64 k), ex (.pointer (some ⟨b2, o2 + k * 2, none⟩)), ex (.pointer (some ⟨b2, o2 + k * 2, none⟩)), ex (.int .i64 q), ex (.bool false), ex (.bool false), ex (.pointer (some ⟨w.heap.size, 1, none⟩)), ex (.slice (some ⟨b1, o1, none⟩) s.late.length cl), ex (.int .i64 k), ex (.pointer (some ⟨b1, o1 + k * 2, none⟩)), ex (.pointer (some ⟨b1, o1 + k * 2 + 1, none⟩)), ex (.slice a1 x.length c1), ex (str x), ex (.pointer (some ⟨w.heap.size + 1, 1, none⟩)), ex (.slice (some ⟨b2, o2, none⟩) t.late.length cl'), ex (.int .i64 k), ex (.pointer (some ⟨b2, o2 + k * 2, none⟩)), ex (.pointer (some ⟨b2, o2 + k * 2 + 1, none⟩)), ex (.slice a2 z.length c2), ex (str z), ex (.bool (x != z)), ex (.bool (x != z))] (by kernel_rfl) (by kernel_rfl) ⟨Zh _, Zh _, Zh _, Zh _, Zh _, Zh _, Zh _, Zh _, Zh _, Zh _, Zh _, Zh _, Zh _, Zh _, Zh _, Zh _, Zh _, Zh _, Zh _, Zh _, Zh _, Zh _, Zh _, Zh _, Zh _, Zh _, Zh _, Zh _, Zh _, Zh _, trivial⟩ ?_ ?_
      ·refine ⟨?_, ?_, ?_, ?_, ?_, ?_, ?_, ?_, ?_, ?_, ?_, ?_, ?_, ?_, ?_, ?_, ?_, ?_, ?_, ?_, ?_, ?_, ?_, ?_, ?_, ?_, ?_, ?_, ?_, ?_, trivial⟩
       ·refine Zb rfl fun a w' ek ef hg hin => ?_;have e2 : a (.tmp 2) = .pointer (some ⟨w.heap.size, 0, none⟩) := Zx hin 2 rfl;refine Zi ?_ rfl;clear hin hg;go_simp;all_goals go_arith
       ·refine Zb rfl fun a w' ek ef hg hin => ?_;have e27 : a (.tmp 27) = _ := Zg hin 0 rfl;have h1 := (Below.cell hg (Zu x1)).trans x1;refine Zi ?_ rfl;clear hin hg;go_simp;all_goals go_arith
       ·refine Zb rfl fun a w' ek ef hg hin => ?_;have e : a (.tmp 5) = .int .i64 k := Zx hin 5 rfl;exact Zt rfl e
       ·refine Zb rfl fun a w' ek ef hg hin => ?_;have e28 : a (.tmp 28) = _ := Zg hin 1 rfl;have e29 : a (.tmp 29) = _ := Zg hin 2 rfl;refine Zi ?_ rfl;clear hin hg;go_simp;all_goals go_arith
       ·refine Zb rfl fun a w' ek ef hg hin => ?_;have e30 : a (.tmp 30) = _ := Zg hin 3 rfl;refine Zi ?_ rfl;clear hin hg;go_simp;all_goals go_arith
       ·refine Zb rfl fun a w' ek ef hg hin => ?_;have e31 : a (.tmp 31) = _ := Zg hin 4 rfl;have h1 := (Below.cell hg (Zu hp1)).trans hp1;refine Zi ?_ rfl;clear hin hg;go_simp;all_goals go_arith
       ·refine Zb rfl fun a w' ek ef hg hin => ?_;have e3 : a (.tmp 3) = .pointer (some ⟨w.heap.size + 1, 0, none⟩) := Zx hin 3 rfl;refine Zi ?_ rfl;clear hin hg;go_simp;all_goals go_arith
       ·refine Zb rfl fun a w' ek ef hg hin => ?_;have e33 : a (.tmp 33) = _ := Zg hin 6 rfl;have h1 := (Below.cell hg (Zu y1)).trans y1;refine Zi ?_ rfl;clear hin hg;go_simp;all_goals go_arith
       ·refine Zb rfl fun a w' ek ef hg hin => ?_;have e : a (.tmp 5) = .int .i64 k := Zx hin 5 rfl;exact Zt rfl e
       ·refine Zb rfl fun a w' ek ef hg hin => ?_;have e34 : a (.tmp 34) = _ := Zg hin 7 rfl;have e35 : a (.tmp 35) = _ := Zg hin 8 rfl;refine Zi ?_ rfl;clear hin hg;go_simp;all_goals go_arith
       ·refine Zb rfl fun a w' ek ef hg hin => ?_;have e36 : a (.tmp 36) = _ := Zg hin 9 rfl;refine Zi ?_ rfl;clear hin hg;go_simp;all_goals go_arith
       ·refine Zb rfl fun a w' ek ef hg hin => ?_;have e37 : a (.tmp 37) = _ := Zg hin 10 rfl;have h1 := (Below.cell hg (Zu hp2)).trans hp2;refine Zi ?_ rfl;clear hin hg;go_simp;all_goals go_arith
       ·refine Zb rfl fun a w' ek ef hg hin => ?_;have e32 : a (.tmp 32) = _ := Zg hin 5 rfl;have e38 : a (.tmp 38) = _ := Zg hin 11 rfl;refine Zi ?_ rfl;clear hin hg;go_simp;all_goals go_arith
       ·refine Zb rfl fun a w' ek ef hg hin => ?_;have e : a (.tmp 39) = _ := Zg hin 12 rfl;exact Zt rfl e
       ·refine Zq 13 false rfl (fun a w' hin => Zp hin 13 (by kernel_rfl)) fun a w' ek ef hg hin => ?_;have e2 : a (.tmp 2) = .pointer (some ⟨w.heap.size, 0, none⟩) := Zx hin 2 rfl;refine Zi ?_ rfl;clear hin hg;go_simp;all_goals go_arith
       ·refine Zq 13 false rfl (fun a w' hin => Zp hin 13 (by kernel_rfl)) fun a w' ek ef hg hin => ?_;have e41 : a (.tmp 41) = _ := Zg hin 14 rfl;have h1 := (Below.cell hg (Zu x1)).trans x1;refine Zi ?_ rfl;clear hin hg;go_simp;all_goals go_arith
       ·refine Zq 13 false rfl (fun a w' hin => Zp hin 13 (by kernel_rfl)) fun a w' ek ef hg hin => ?_;have e : a (.tmp 5) = .int .i64 k := Zx hin 5 rfl;exact Zt rfl e
       ·refine Zq 13 false rfl (fun a w' hin => Zp hin 13 (by kernel_rfl)) fun a w' ek ef hg hin => ?_;have e42 : a (.tmp 42) = _ := Zg hin 15 rfl;have e43 : a (.tmp 43) = _ := Zg hin 16 rfl;refine Zi ?_ rfl;clear hin hg;go_simp;all_goals go_arith
       ·refine Zq 13 false rfl (fun a w' hin => Zp hin 13 (by kernel_rfl)) fun a w' ek ef hg hin => ?_;have e44 : a (.tmp 44) = _ := Zg hin 17 rfl;refine Zi ?_ rfl;clear hin hg;go_simp;all_goals go_arith
       ·refine Zq 13 false rfl (fun a w' hin => Zp hin 13 (by kernel_rfl)) fun a w' ek ef hg hin => ?_;have e45 : a (.tmp 45) = _ := Zg hin 18 rfl;have h1 := (Below.cell hg (Zu hu1)).trans hu1;refine Zi ?_ rfl;clear hin hg;go_simp;all_goals go_arith
       ·refine Zq 13 false rfl (fun a w' hin => Zp hin 13 (by kernel_rfl)) fun a w' ek ef hg hin => ?_;have e46 : a (.tmp 46) = _ := Zg hin 19 rfl;refine Zi ?_ rfl;have hrun := V9 w' _ _ (Z1 hB1 hg);clear hin hg;go_simp;all_goals go_arith
       ·refine Zq 13 false rfl (fun a w' hin => Zp hin 13 (by kernel_rfl)) fun a w' ek ef hg hin => ?_;have e3 : a (.tmp 3) = .pointer (some ⟨w.heap.size + 1, 0, none⟩) := Zx hin 3 rfl;refine Zi ?_ rfl;clear hin hg;go_simp;all_goals go_arith
       ·refine Zq 13 false rfl (fun a w' hin => Zp hin 13 (by kernel_rfl)) fun a w' ek ef hg hin => ?_;have e48 : a (.tmp 48) = _ := Zg hin 21 rfl;have h1 := (Below.cell hg (Zu y1)).trans y1;refine Zi ?_ rfl;clear hin hg;go_simp;all_goals go_arith
       ·refine Zq 13 false rfl (fun a w' hin => Zp hin 13 (by kernel_rfl)) fun a w' ek ef hg hin => ?_;have e : a (.tmp 5) = .int .i64 k := Zx hin 5 rfl;exact Zt rfl e
       ·refine Zq 13 false rfl (fun a w' hin => Zp hin 13 (by kernel_rfl)) fun a w' ek ef hg hin => ?_;have e49 : a (.tmp 49) = _ := Zg hin 22 rfl;have e50 : a (.tmp 50) = _ := Zg hin 23 rfl;refine Zi ?_ rfl;clear hin hg;go_simp;all_goals go_arith
       ·refine Zq 13 false rfl (fun a w' hin => Zp hin 13 (by kernel_rfl)) fun a w' ek ef hg hin => ?_;have e51 : a (.tmp 51) = _ := Zg hin 24 rfl;refine Zi ?_ rfl;clear hin hg;go_simp;all_goals go_arith
       ·refine Zq 13 false rfl (fun a w' hin => Zp hin 13 (by kernel_rfl)) fun a w' ek ef hg hin => ?_;have e52 : a (.tmp 52) = _ := Zg hin 25 rfl;have h1 := (Below.cell hg (Zu hu2)).trans hu2;refine Zi ?_ rfl;clear hin hg;go_simp;all_goals go_arith
       ·refine Zq 13 false rfl (fun a w' hin => Zp hin 13 (by kernel_rfl)) fun a w' ek ef hg hin => ?_;have e53 : a (.tmp 53) = _ := Zg hin 26 rfl;refine Zi ?_ rfl;have hrun := V9 w' _ _ (Z1 hB2 hg);clear hin hg;go_simp;all_goals go_arith
       ·refine Zq 13 false rfl (fun a w' hin => Zp hin 13 (by kernel_rfl)) fun a w' ek ef hg hin => ?_;have e47 : a (.tmp 47) = _ := Zg hin 20 rfl;have e54 : a (.tmp 54) = _ := Zg hin 27 rfl;refine Zi ?_ rfl;unfold str at e47 e54;clear hin hg;go_simp;simp only [bne, Bool.not_not]
       ·refine Zb rfl fun a w' ek ef hg hin => ?_;have ec : a (.tmp 40) = _ := Zg hin 13 rfl;have e : a (.tmp 55) = _ := Zg hin 28 rfl;exact Xc rfl ec e
      ·intro vs w' hg ht;obtain ⟨q27, q28, q29, q30, q31, q32, q33, q34, q35, q36, q37, q38, q39, q40, q41, q42, q43, q44, q45, q46, q47, q48, q49, q50, q51, q52, q53, q54, q55, q56, -⟩ := ht;have r27 : vs 0 = .pointer (some ⟨w.heap.size, 1, none⟩) := q27;have r28 : vs 1 = .slice (some ⟨b1, o1, none⟩) s.late.length cl := q28;have r29 : vs 2 = .int .i64 k := q29;have r30 : vs 3 = .pointer (some ⟨b1, o1 + k * 2, none⟩) := q30;have r31 : vs 4 = .pointer (some ⟨b1, o1 + k * 2, none⟩) := q31;have r32 : vs 5 = .int .i64 p := q32;have r33 : vs 6 = .pointer (some ⟨w.heap.size + 1, 1, none⟩) := q33;have r34 : vs 7 = .slice (some ⟨b2, o2, none⟩) t.late.length cl' := q34;have r35 : vs 8 = .int .i64 k := q35;have r36 : vs 9 = .pointer (some ⟨b2, o2 + k * 2, none⟩) := q36;have r37 : vs 10 = .pointer (some ⟨b2, o2 + k * 2, none⟩) := q37;have r38 : vs 11 = .int .i64 q := q38;have r39 : vs 12 = .bool false := q39;have r40 : vs 13 = .bool false := q40;have r41 : vs 14 = .pointer (some ⟨w.heap.size, 1, none⟩) := q41;have r42 : vs 15 = .slice (some ⟨b1, o1, none⟩) s.late.length cl := q42;have r43 : vs 16 = .int .i64 k := q43;have r44 : vs 17 = .pointer (some ⟨b1, o1 + k * 2, none⟩) := q44;have r45 : vs 18 = .pointer (some ⟨b1, o1 + k * 2 + 1, none⟩) := q45;have r46 : vs 19 = .slice a1 x.length c1 := q46;have r47 : vs 20 = str x := q47;have r48 : vs 21 = .pointer (some ⟨w.heap.size + 1, 1, none⟩) := q48;have r49 : vs 22 = .slice (some ⟨b2, o2, none⟩) t.late.length cl' := q49
       have r50 : vs 23 = .int .i64 k := q50;have r51 : vs 24 = .pointer (some ⟨b2, o2 + k * 2, none⟩) := q51;have r52 : vs 25 = .pointer (some ⟨b2, o2 + k * 2 + 1, none⟩) := q52;have r53 : vs 26 = .slice a2 z.length c2 := q53;have r54 : vs 27 = str z := q54;have r55 : vs 28 = .bool (x != z) := q55;have r56 : vs 29 = .bool (x != z) := q56;clear q27 q28 q29 q30 q31 q32 q33 q34 q35 q36 q37 q38 q39 q40 q41 q42 q43 q44 q45 q46 q47 q48 q49 q50 q51 q52 q53 q54 q55 q56;simp only [Yf, Act.put, List.setIfInBounds_toArray, List.set_cons_zero, List.set_cons_succ, r27, r28, r29, r30, r31, r32, r33, r34, r35, r36, r37, r38, r39, r40, r41, r42, r43, r44, r45, r46, r47, r48, r49, r50, r51, r52, r53, r54, r55, r56];clear r27 r28 r29 r30 r31 r32 r33 r34 r35 r36 r37 r38 r39 r40 r41 r42 r43 r44 r45 r46 r47 r48 r49 r50 r51 r52 r53 r54 r55 r56;have g2 := gr.trans hg;by_cases hxz : x = z
       ·have d3 : (x != z) = false := by simp [hxz]
        have HN : Hid _ := HX.out HPQ.out hxz;clear hxz;rw [d3];clear d3;go_wp2_with fail;go_roundw
        case rel => exact ⟨k + 1, by omega, by go_num, g2, HN.out⟩
        case measure => simp [intOf]; omega
       ·have d3 : (x != z) = true := by simp [hxz]
        have HN : Hid (s.same t = false) := HS.out.trans (HY.out (.inr hxz));clear hxz;rw [d3];clear d3;go_wp2_with fail;go_ret;exact ⟨Vn HN.out.symm, gw1.trans g2⟩
     ·have d2 : (p != q) = true := by simp [hpq]
      have HN : Hid (s.same t = false) := HS.out.trans (HY.out (.inl hpq));clear hpq;refine Ya [ex (.pointer (some ⟨w.heap.size, 1, none⟩)), ex (.slice (some ⟨b1, o1, none⟩) s.late.length cl), ex (.int .i64 k), ex (.pointer (some ⟨b1, o1 + k * 2, none⟩)), ex (.pointer (some ⟨b1, o1 + k * 2, none⟩)), ex (.int .i64 p), ex (.pointer (some ⟨w.heap.size + 1, 1, none⟩)), ex (.slice (some ⟨b2, o2, none⟩) t.late.length cl'), ex (.int .i64 k), ex (.pointer (some ⟨b2, o2 + k * 2, none⟩)), ex (.pointer (some ⟨b2, o2 + k * 2, none⟩)), ex (.int .i64 q), ex (.bool true), ex (.bool true), ex (undef), ex (undef), ex (undef), ex (undef), ex (undef), ex (undef), ex (undef), ex (undef), ex (undef), ex (undef), ex (undef), ex (undef), ex (undef), ex (undef), ex (undef), ex (.bool true)] (by kernel_rfl) (by kernel_rfl) ⟨Zh _, Zh _, Zh _, Zh _, Zh _, Zh _, Zh _, Zh _, Zh _, Zh _, Zh _, Zh _, Zh _, Zh _, Zh _, Zh _, Zh _, Zh _, Zh _, Zh _, Zh _, Zh _, Zh _, Zh _, Zh _, Zh _, Zh _, Zh _, Zh _, Zh _, trivial⟩ ?_ ?_
      ·refine ⟨?_, ?_, ?_, ?_, ?_, ?_, ?_, ?_, ?_, ?_, ?_, ?_, ?_, ?_, ?_, ?_, ?_, ?_, ?_, ?_, ?_, ?_, ?_, ?_, ?_, ?_, ?_, ?_, ?_, ?_, trivial⟩
       ·refine Zb rfl fun a w' ek ef hg hin => ?_;have e2 : a (.tmp 2) = .pointer (some ⟨w.heap.size, 0, none⟩) := Zx hin 2 rfl;refine Zi ?_ rfl;clear hin hg;go_simp;all_goals go_arith
       ·refine Zb rfl fun a w' ek ef hg hin => ?_;have e27 : a (.tmp 27) = _ := Zg hin 0 rfl;have h1 := (Below.cell hg (Zu x1)).trans x1;refine Zi ?_ rfl;clear hin hg;go_simp;all_goals go_arith
       ·refine Zb rfl fun a w' ek ef hg hin => ?_;have e : a (.tmp 5) = .int .i64 k := Zx hin 5 rfl;exact Zt rfl e
       ·refine Zb rfl fun a w' ek ef hg hin => ?_;have e28 : a (.tmp 28) = _ := Zg hin 1 rfl;have e29 : a (.tmp 29) = _ := Zg hin 2 rfl;refine Zi ?_ rfl;clear hin hg;go_simp;all_goals go_arith
       ·refine Zb rfl fun a w' ek ef hg hin => ?_;have e30 : a (.tmp 30) = _ := Zg hin 3 rfl;refine Zi ?_ rfl;clear hin hg;go_simp;all_goals go_arith
       ·refine Zb rfl fun a w' ek ef hg hin => ?_;have e31 : a (.tmp 31) = _ := Zg hin 4 rfl;have h1 := (Below.cell hg (Zu hp1)).trans hp1;refine Zi ?_ rfl;clear hin hg;go_simp;all_goals go_arith
       ·refine Zb rfl fun a w' ek ef hg hin => ?_;have e3 : a (.tmp 3) = .pointer (some ⟨w.heap.size + 1, 0, none⟩) := Zx hin 3 rfl;refine Zi ?_ rfl;clear hin hg;go_simp;all_goals go_arith
       ·refine Zb rfl fun a w' ek ef hg hin => ?_;have e33 : a (.tmp 33) = _ := Zg hin 6 rfl;have h1 := (Below.cell hg (Zu y1)).trans y1;refine Zi ?_ rfl;clear hin hg;go_simp;all_goals go_arith
       ·refine Zb rfl fun a w' ek ef hg hin => ?_;have e : a (.tmp 5) = .int .i64 k := Zx hin 5 rfl;exact Zt rfl e
       ·refine Zb rfl fun a w' ek ef hg hin => ?_;have e34 : a (.tmp 34) = _ := Zg hin 7 rfl;have e35 : a (.tmp 35) = _ := Zg hin 8 rfl;refine Zi ?_ rfl;clear hin hg;go_simp;all_goals go_arith
       ·refine Zb rfl fun a w' ek ef hg hin => ?_;have e36 : a (.tmp 36) = _ := Zg hin 9 rfl;refine Zi ?_ rfl;clear hin hg;go_simp;all_goals go_arith
       ·refine Zb rfl fun a w' ek ef hg hin => ?_;have e37 : a (.tmp 37) = _ := Zg hin 10 rfl;have h1 := (Below.cell hg (Zu hp2)).trans hp2;refine Zi ?_ rfl;clear hin hg;go_simp;all_goals go_arith
       ·refine Zb rfl fun a w' ek ef hg hin => ?_;have e32 : a (.tmp 32) = _ := Zg hin 5 rfl;have e38 : a (.tmp 38) = _ := Zg hin 11 rfl;refine Zi ?_ rfl;clear hin hg;go_simp;all_goals go_arith
       ·refine Zb rfl fun a w' ek ef hg hin => ?_;have e : a (.tmp 39) = _ := Zg hin 12 rfl;exact Zt rfl e
       ·refine Zz 13 false true rfl (by decide) (fun a w' hin => Zp hin 13 (by kernel_rfl)) (fun _ => rfl)
       ·refine Zz 13 false true rfl (by decide) (fun a w' hin => Zp hin 13 (by kernel_rfl)) (fun _ => rfl)
       ·refine Zz 13 false true rfl (by decide) (fun a w' hin => Zp hin 13 (by kernel_rfl)) (fun _ => rfl)
       ·refine Zz 13 false true rfl (by decide) (fun a w' hin => Zp hin 13 (by kernel_rfl)) (fun _ => rfl)
       ·refine Zz 13 false true rfl (by decide) (fun a w' hin => Zp hin 13 (by kernel_rfl)) (fun _ => rfl)
       ·refine Zz 13 false true rfl (by decide) (fun a w' hin => Zp hin 13 (by kernel_rfl)) (fun _ => rfl)
       ·refine Zz 13 false true rfl (by decide) (fun a w' hin => Zp hin 13 (by kernel_rfl)) (fun _ => rfl)
       ·refine Zz 13 false true rfl (by decide) (fun a w' hin => Zp hin 13 (by kernel_rfl)) (fun _ => rfl)
       ·refine Zz 13 false true rfl (by decide) (fun a w' hin => Zp hin 13 (by kernel_rfl)) (fun _ => rfl)
       ·refine Zz 13 false true rfl (by decide) (fun a w' hin => Zp hin 13 (by kernel_rfl)) (fun _ => rfl)
       ·refine Zz 13 false true rfl (by decide) (fun a w' hin => Zp hin 13 (by kernel_rfl)) (fun _ => rfl)
       ·refine Zz 13 false true rfl (by decide) (fun a w' hin => Zp hin 13 (by kernel_rfl)) (fun _ => rfl)
       ·refine Zz 13 false true rfl (by decide) (fun a w' hin => Zp hin 13 (by kernel_rfl)) (fun _ => rfl)
       ·refine Zz 13 false true rfl (by decide) (fun a w' hin => Zp hin 13 (by kernel_rfl)) (fun _ => rfl)
       ·refine Zz 13 false true rfl (by decide) (fun a w' hin => Zp hin 13 (by kernel_rfl)) (fun _ => rfl)
       ·refine Zb rfl fun a w' ek ef hg hin => ?_;have ec : a (.tmp 40) = _ := Zg hin 13 rfl;exact Xc rfl ec (ek _)
      ·intro vs w' hg ht;obtain ⟨q27, q28, q29, q30, q31, q32, q33, q34, q35, q36, q37, q38, q39, q40, q41, q42, q43, q44, q45, q46, q47, q48, q49, q50, q51, q52, q53, q54, q55, q56, -⟩ := ht;have r27 : vs 0 = .pointer (some ⟨w.heap.size, 1, none⟩) := q27;have r28 : vs 1 = .slice (some ⟨b1, o1, none⟩) s.late.length cl := q28;have r29 : vs 2 = .int .i64 k := q29;have r30 : vs 3 = .pointer (some ⟨b1, o1 + k * 2, none⟩) := q30;have r31 : vs 4 = .pointer (some ⟨b1, o1 + k * 2, none⟩) := q31;have r32 : vs 5 = .int .i64 p := q32;have r33 : vs 6 = .pointer (some ⟨w.heap.size + 1, 1, none⟩) := q33;have r34 : vs 7 = .slice (some ⟨b2, o2, none⟩) t.late.length cl' := q34;have r35 : vs 8 = .int .i64 k := q35;have r36 : vs 9 = .pointer (some ⟨b2, o2 + k * 2, none⟩) := q36;have r37 : vs 10 = .pointer (some ⟨b2, o2 + k * 2, none⟩) := q37;have r38 : vs 11 = .int .i64 q := q38;have r39 : vs 12 = .bool true := q39;have r40 : vs 13 = .bool true := q40;have r41 : vs 14 = undef := q41;have r42 : vs 15 = undef := q42;have r43 : vs 16 = undef := q43;have r44 : vs 17 = undef := q44;have r45 : vs 18 = undef := q45;have r46 : vs 19 = undef := q46;have r47 : vs 20 = undef := q47;have r48 : vs 21 = undef := q48;have r49 : vs 22 = undef := q49;have r50 : vs 23 = undef := q50;have r51 : vs 24 = undef := q51;have r52 : vs 25 = undef := q52;have r53 : vs 26 = undef := q53;have r54 : vs 27 = undef := q54;have r55 : vs 28 = undef := q55;have r56 : vs 29 = .bool true := q56
       clear q27 q28 q29 q30 q31 q32 q33 q34 q35 q36 q37 q38 q39 q40 q41 q42 q43 q44 q45 q46 q47 q48 q49 q50 q51 q52 q53 q54 q55 q56;simp only [Yf, Act.put, List.setIfInBounds_toArray, List.set_cons_zero, List.set_cons_succ, r27, r28, r29, r30, r31, r32, r33, r34, r35, r36, r37, r38, r39, r40, r41, r42, r43, r44, r45, r46, r47, r48, r49, r50, r51, r52, r53, r54, r55, r56];clear r27 r28 r29 r30 r31 r32 r33 r34 r35 r36 r37 r38 r39 r40 r41 r42 r43 r44 r45 r46 r47 r48 r49 r50 r51 r52 r53 r54 r55 r56;have g2 := gr.trans hg;go_wp2_with fail;go_ret;exact ⟨Vn HN.out.symm, gw1.trans g2⟩
    ·have HN : Hid (s.same t = true) := by
      have h := HT.out;rw [List.take_of_length_le (by omega), List.take_of_length_le (by have := HL.out; omega)] at h;exact HS.out.trans (Zhs h)
     go_wp2_with fail;go_ret;exact ⟨Vn HN.out.symm, gw1.trans gr⟩
  ·have d1 : ((s.late.length : Int) != (t.late.length : Int)) = true := by simp; omega
   have HN : Hid (s.same t = false) := HS.out.trans (X6 (fun e => hlen (by rw [e])));clear hlen;go_wp2_with fail;go_ret;exact ⟨Vn HN.out.symm, gw1⟩
end Go.Proofs.YtgaecpdokgklpacGreat
