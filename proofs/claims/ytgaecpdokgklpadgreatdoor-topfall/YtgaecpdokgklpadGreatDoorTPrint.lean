import Derived.Test.YtgaecpdokgklpadGreatDoorScrL
import Derived.Test.YtgaecpdokgklpadGreatDoorMdlW
import Derived.Lib.Bytealg
import Derived.Lib.Split
import Derived.Lib.IndexBytes
import Derived.MapKept
set_option maxHeartbeats 8000000
namespace Go.Proofs.YtgaecpdokgklpadGreatDoor
set_option maxRecDepth 100000
open Go.RowKit
open Plain Reg
theorem Vy {dn : Nat → Bool} {i j : Nat} (h : j ≠ i) : upd dn i j = dn j := by unfold upd; rw [if_neg h]
theorem Zib {dn : Nat → Bool} {i : Nat} : upd dn i i = true := by unfold upd; rw [if_pos rfl]
theorem Ks {f : Nat → Value} {i j : Nat} {v : Value} (h : j ≠ i) : Qj f i v j = f j := by unfold Qj; rw [if_neg h]
theorem Zau {f : Nat → Value} {i : Nat} {v : Value} : Qj f i v i = v := by unfold Qj; rw [if_pos rfl]
def Zae (c : UInt8) : Int := match Ki c with
 | some x => (x : Int)
 | none => -1
theorem Zna : ∀ c : UInt8, Lib.indexByte Zx8 c = Zae c := by
 have h : ∀ c : Fin 256, Lib.indexByte Zx8 (UInt8.ofNat c.val) = Zae (UInt8.ofNat c.val) := by decide +kernel
 intro c;have := h ⟨c.toNat, c.toNat_lt⟩;simpa using this
def Zgj : Prop := ∀ (c : UInt8) (w : World),
 Calls Tryz.prog 87 #[.string ⟨#[48, 49, 50, 51, 52, 53, 54, 55, 56, 57, 97, 98, 99, 100, 101, 102]⟩, .int .u8 (c.toNat : Int)] w fun r w' => r = .returned (.int .i64 (Zae c)) ∧ Zj w w'
theorem Zta : ∀ x y : Fin 16, bits .or .i64 (((x.val * 16 : Nat)) : Int) ((y.val : Nat) : Int) = ((16 * x.val + y.val : Nat) : Int) := by decide +kernel
theorem Zyl {x y : Nat} (hx : x < 16) (hy : y < 16) : bits .or .i64 ((x : Int) * 16) (y : Int) = 16 * (x : Int) + (y : Int) := by
 have := Zta ⟨x, hx⟩ ⟨y, hy⟩;simpa using this
theorem Zew : ∀ (m : Nat) (s pre : List UInt8) (x y : Nat) (h : 2 * m + 1 < s.length), Q0 (s.take (2 * m)) = some pre → Ki s[2 * m] = some x → Ki s[2 * m + 1] = some y → Q0 (s.take (2 * (m + 1))) = some (pre ++ [UInt8.ofNat (16 * x + y)])
 | 0, a :: b :: r, pre, x, y, h, h1, h2, h3 => by
  simp only [Nat.mul_zero, List.take_zero, Q0, Option.some.injEq] at h1;subst h1;have h2' : Ki a = some x := h2;have h3' : Ki b = some y := h3;simp [Q0, h2', h3']
 | m + 1, a :: b :: r, pre, x, y, h, h1, h2, h3 => by
  have e : (a :: b :: r).take (2 * (m + 1)) = a :: b :: r.take (2 * m) := by rw [show 2 * (m + 1) = 2 * m + 1 + 1 by omega, List.take_succ_cons, List.take_succ_cons]
  have e2 : (a :: b :: r).take (2 * (m + 1 + 1)) = a :: b :: r.take (2 * (m + 1)) := by rw [show 2 * (m + 1 + 1) = 2 * (m + 1) + 1 + 1 by omega, List.take_succ_cons, List.take_succ_cons]
  rw [e] at h1;rw [e2];unfold Q0 at h1 ⊢;split at h1
  ·rename_i p q t hp hq ht;cases h1;have h2' : Ki (r[2 * m]'(by simp at h; omega)) = some x := by simpa [show 2 * (m + 1) = 2 * m + 1 + 1 by omega] using h2
   have h3' : Ki (r[2 * m + 1]'(by simp at h; omega)) = some y := by simpa [show 2 * (m + 1) = 2 * m + 1 + 1 by omega] using h3
   have ih := Zew m r t x y (by simp at h; omega) ht h2' h3';rw [hp, hq, ih];rfl
  ·cases h1
 | _, [], _, _, _, h, _, _, _ => by simp at h
 | _, [_], _, _, _, h, _, _, _ => by simp at h
theorem Zb6 : ∀ (s l : List UInt8), Q0 s = some l → s.length = 2 * l.length
 | [], l, h => by unfold Q0 at h; cases h; rfl
 | [_], l, h => by unfold Q0 at h; cases h
 | a :: b :: r, l, h => by
  unfold Q0 at h;split at h
  ·rename_i x y t hx hy ht;cases h;have := Zb6 r t ht;simp; omega
  ·cases h
def Zyu (o : Option (List UInt8)) (e : Ending) (w : World) : Prop := match o with
 | some l => ∃ v, e = .returned (.tuple #[v, .bool true]) ∧ Bytes w v l
 | none => e = .returned (.tuple #[.slice none 0 0, .bool false])
theorem Zl1 (IX : Zgj) (s : List UInt8) (w : World) (hm : s.length ≤ 140737488355328) :
  Calls Tryz.prog 51 #[.string ⟨s.toArray⟩] w fun r w' => Zyu (Kc s) r w' ∧ Zj w w' := by
 by_cases hs : s = [45]
 ·have HD : Hid (Kc s = some []) := by show _ = _; rw [hs]; rfl
  have dd : (s == [45]) = true := by simp [hs]
  obtain ⟨O, hO⟩ : ∃ O, O = Kc s := ⟨_, rfl⟩;rw [← hO];rw [HD.out] at hO;subst hO;clear hs HD;go_enter Tryz.func51, Tryz.ntmps51;go_wp2_with fail;exact bodyPost_ret (v := .tuple #[.slice none 0 0, .bool true]) (by simp [results, Tryz.results51, go_sem]) rfl ⟨⟨_, rfl, .inl ⟨none, 0, rfl, rfl, fun _ => rfl⟩⟩, Zj.refl _⟩
 ·have dd : (s == [45]) = false := by simp [hs]
  have HNS : Hid (s ≠ [45]) := hs;obtain ⟨O, hO⟩ : ∃ O, O = Kc s := ⟨_, rfl⟩;rw [← hO];have HO : Hid _ := hO;clear hs hO;by_cases h0 : s = []
  ·have hON : O = none := by rw [HO.out, h0]; rfl
   subst hON;have d0 : (s == []) = true := by simp [h0]
   clear h0;go_enter Tryz.func51, Tryz.ntmps51;go_wp2_with fail;exact bodyPost_ret (v := .tuple #[.slice none 0 0, .bool false]) (by simp [results, Tryz.results51, go_sem]) rfl ⟨rfl, Zj.refl _⟩
  ·have d0 : (s == []) = false := by simp [h0]
   have HNE : Hid (s ≠ []) := h0;by_cases hev : s.length % 2 = 0
   ·have hr2 : (s.length : Int).tmod 2 = 0 := by rw [Int.tmod_eq_emod_of_nonneg (by omega)]; omega
    have hq2 : (s.length : Int).tdiv 2 = ((s.length / 2 : Nat) : Int) := by rw [Int.tdiv_eq_ediv_of_nonneg (by omega)]; omega
    clear h0;obtain ⟨i0, hif, hz0, hz1, hz2⟩ := info_parts J0;go_enter Tryz.func51, Tryz.ntmps51;go_wp2_with (at_make; refine wpList_make_full _ rfl _ _ 38 rfl w.heap.size 5 i0 (.int .u8 0) 1 Tryz.underlying38 hif hz0 hz1 .i64 .i64 _ _ (s.length / 2) rfl rfl hq2 hq2 (by rw [hz2]; omega) (by unfold maxLen; omega) (Nat.le_refl _) ?_; intro w1 hown1 hgrow1);have g1 : Zj w w1 := Yl (Zj.refl _) hgrow1 (fun k hk => by cases hk);have HEV : Hid _ := hev;clear hgrow1 hev hr2;rw [Nat.mul_one] at hown1;rw [show (Value.int .u8 0).cells = #[Value.int .u8 0] from rfl, toList_madeCells_one] at hown1;obtain ⟨n, hn⟩ : ∃ n, n = s.length / 2 := ⟨_, rfl⟩;have HN : Hid (s.length = 2 * n) := by show _ = _; have := HEV.out; omega
    rw [← hn] at hown1 ⊢;have hnb : n ≤ 140737488355328 := by omega
    clear hn hq2;go_loopw [24] (fun i wr => ∃ (k : Nat) (pre : List UInt8), k ≤ n ∧ i = .int .i64 k ∧ Hid (Q0 (s.take (2 * k)) = some pre) ∧ wr.ownsRow w.heap.size 5 1 (.slice (some ⟨w.heap.size, 0, none⟩) n n) n (pre.map bv ++ List.replicate (n - k) (.int .u8 0)) ∧ Zj w wr) (fun i _ => n - (intOf i).toNat)
    case atStart => exact ⟨0, [], Nat.zero_le _, rfl, (by show _ = _; rfl), by simpa using hown1, g1⟩
    case round =>
     clear hown1 g1;obtain ⟨k, pre, hk, rfl, HPRE, hrow, hgr⟩ := hrel;by_cases hlt : k < n
     ·have hl1 : 2 * k + 1 < s.length := by rw [HN.out]; omega
      have hl0 : 2 * k < s.length := by omega
      have HPL : Hid (pre.length = k) := by
       show _ = _;have := Zb6 _ _ HPRE.out;rw [List.length_take] at this;omega
      obtain ⟨c, hc⟩ : ∃ c, c = s[2 * k] := ⟨_, rfl⟩;obtain ⟨e, he⟩ : ∃ e, e = s[2 * k + 1] := ⟨_, rfl⟩;have HC : Hid _ := hc;have HE : Hid _ := he;clear hc he;go_wp2_with fail;refine Zy [ex (.string ⟨s.toArray⟩), ex (.int .i64 (k : Int)), ex (.int .i64 ((2 * k : Nat) : Int)), ex (.int .u8 (c.toNat : Int)), ex (.int .i64 (Zae c)), ex (.string ⟨s.toArray⟩), ex (.int .i64 (k : Int)), ex (.int .i64 ((2 * k : Nat) : Int)), ex (.int .i64 ((2 * k + 1 : Nat) : Int)), ex (.int .u8 (e.toNat : Int)), ex (.int .i64 (Zae e)), ex (.int .i64 (Zae c)), ex (.int .i64 (Zae e))] (by kernel_rfl) (by kernel_rfl) ⟨Zf _, Zf _, Zf _, Zf _, Zf _, Zf _, Zf _, Zf _, Zf _, Zf _, Zf _, Zf _, Zf _, trivial⟩ ?_ ?_
      ·refine ⟨?_, ?_, ?_, ?_, ?_, ?_, ?_, ?_, ?_, ?_, ?_, ?_, ?_, trivial⟩
       ·refine Za rfl fun a w' ek ef hg hin => ?_;have e : a (.tmp 0) = .string ⟨s.toArray⟩ := Zq hin 0 rfl;exact Zn rfl e
       ·refine Za rfl fun a w' ek ef hg hin => ?_;have e : a (.tmp 5) = .int .i64 (k : Int) := Zq hin 5 rfl;exact Zn rfl e
       ·refine Za rfl fun a w' ek ef hg hin => ?_;have e28 : a (.tmp 28) = _ := Zc hin 1 rfl;refine Zi ?_ rfl;clear hin hg;go_simp;all_goals go_arith
       ·refine Za rfl fun a w' ek ef hg hin => ?_;have e27 : a (.tmp 27) = _ := Zc hin 0 rfl;have e29 : a (.tmp 29) = _ := Zc hin 2 rfl;exact Zi (by rw [HC.out]; exact Zoo w' a _ _ _ rfl s (2 * k) hl0 e27 e29) rfl
       ·refine Za rfl fun a w' ek ef hg hin => ?_;have e30 : a (.tmp 30) = _ := Zc hin 3 rfl;refine Yq (f := 87) (args := #[.string ⟨#[48, 49, 50, 51, 52, 53, 54, 55, 56, 57, 97, 98, 99, 100, 101, 102]⟩, .int .u8 (c.toNat : Int)]) ?_ ((IX c w').mono ?_)
        ·clear hin hg;go_simp;all_goals go_arith
        ·rintro r w2 ⟨rfl, g2⟩;exact ⟨_, rfl, g2, rfl⟩
       ·refine Za rfl fun a w' ek ef hg hin => ?_;have e : a (.tmp 0) = .string ⟨s.toArray⟩ := Zq hin 0 rfl;exact Zn rfl e
       ·refine Za rfl fun a w' ek ef hg hin => ?_;have e : a (.tmp 5) = .int .i64 (k : Int) := Zq hin 5 rfl;exact Zn rfl e
       ·refine Za rfl fun a w' ek ef hg hin => ?_;have e33 : a (.tmp 33) = _ := Zc hin 6 rfl;refine Zi ?_ rfl;clear hin hg;go_simp;all_goals go_arith
       ·refine Za rfl fun a w' ek ef hg hin => ?_;have e34 : a (.tmp 34) = _ := Zc hin 7 rfl;refine Zi ?_ rfl;clear hin hg;go_simp;all_goals go_arith
       ·refine Za rfl fun a w' ek ef hg hin => ?_;have e32 : a (.tmp 32) = _ := Zc hin 5 rfl;have e35 : a (.tmp 35) = _ := Zc hin 8 rfl;exact Zi (by rw [HE.out]; exact Zoo w' a _ _ _ rfl s (2 * k + 1) hl1 e32 e35) rfl
       ·refine Za rfl fun a w' ek ef hg hin => ?_;have e36 : a (.tmp 36) = _ := Zc hin 9 rfl;refine Yq (f := 87) (args := #[.string ⟨#[48, 49, 50, 51, 52, 53, 54, 55, 56, 57, 97, 98, 99, 100, 101, 102]⟩, .int .u8 (e.toNat : Int)]) ?_ ((IX e w').mono ?_)
        ·clear hin hg;go_simp;all_goals go_arith
        ·rintro r w2 ⟨rfl, g2⟩;exact ⟨_, rfl, g2, rfl⟩
       ·refine Za rfl fun a w' ek ef hg hin => ?_;have e : a (.tmp 31) = _ := Zc hin 4 rfl;exact Yk rfl e
       ·refine Za rfl fun a w' ek ef hg hin => ?_;have e : a (.tmp 37) = _ := Zc hin 10 rfl;exact Yk rfl e
      ·intro vs w' hg ht;obtain ⟨q27, q28, q29, q30, q31, q32, q33, q34, q35, q36, q37, q6, q7, -⟩ := ht;have r27 : vs 0 = .string ⟨s.toArray⟩ := q27;have r28 : vs 1 = .int .i64 (k : Int) := q28;have r29 : vs 2 = .int .i64 ((2 * k : Nat) : Int) := q29;have r30 : vs 3 = .int .u8 (c.toNat : Int) := q30;have r31 : vs 4 = .int .i64 (Zae c) := q31;have r32 : vs 5 = .string ⟨s.toArray⟩ := q32;have r33 : vs 6 = .int .i64 (k : Int) := q33;have r34 : vs 7 = .int .i64 ((2 * k : Nat) : Int) := q34;have r35 : vs 8 = .int .i64 ((2 * k + 1 : Nat) : Int) := q35;have r36 : vs 9 = .int .u8 (e.toNat : Int) := q36;have r37 : vs 10 = .int .i64 (Zae e) := q37;have r6 : vs 11 = .int .i64 (Zae c) := q6;have r7 : vs 12 = .int .i64 (Zae e) := q7;clear q27 q28 q29 q30 q31 q32 q33 q34 q35 q36 q37 q6 q7;simp only [Z9, Act.put, List.setIfInBounds_toArray, List.set_cons_zero, List.set_cons_succ, r27, r28, r29, r30, r31, r32, r33, r34, r35, r36, r37, r6, r7];clear r27 r28 r29 r30 r31 r32 r33 r34 r35 r36 r37 r6 r7;have g2 := hgr.trans hg;have hrow2 := Z5 hrow hg;clear hg hgr hrow;cases hx : Ki c with
       | none =>
        have hI : Zae c = -1 := by unfold Zae; rw [hx]
        obtain rfl : O = none := by rw [HO.out]; exact Zht HNS.out hl0 (by rw [← HC.out]; exact hx)
        rw [hI];clear hI hx;go_wp2_with fail;exact bodyPost_ret (v := .tuple #[.slice none 0 0, .bool false]) (by simp [results, Tryz.results51, go_sem]) rfl ⟨rfl, g2⟩
       | some x =>
        have hI : Zae c = (x : Int) := by unfold Zae; rw [hx]
        have hx16 := (Zhl hx).1;have dx : ¬ ((x : Int) < 0) := by omega
        have HX : Hid _ := hx;rw [hI];clear hI hx;cases hy : Ki e with
        | none =>
         have hJ : Zae e = -1 := by unfold Zae; rw [hy]
         obtain rfl : O = none := by rw [HO.out]; exact Zht HNS.out hl1 (by rw [← HE.out]; exact hy)
         rw [hJ];clear hJ hy;go_wp2_with fail;exact bodyPost_ret (v := .tuple #[.slice none 0 0, .bool false]) (by simp [results, Tryz.results51, go_sem]) rfl ⟨rfl, g2⟩
        | some y =>
         have hJ : Zae e = (y : Int) := by unfold Zae; rw [hy]
         have hy16 := (Zhl hy).1;have dy : ¬ ((y : Int) < 0) := by omega
         have HY : Hid _ := hy;rw [hJ];clear hJ hy;have ho := Zyl hx16 hy16;have HNX : Hid (Q0 (s.take (2 * (k + 1))) = some (pre ++ [UInt8.ofNat (16 * x + y)])) := Zew k s pre x y hl1 HPRE.out (by rw [← HC.out]; exact HX.out) (by rw [← HE.out]; exact HY.out);have f0 := hrow2.frozenAt k;have c0 : w'.cell? ⟨w.heap.size, k, none⟩ = some (.int .u8 0) := by
          have := hrow2.cellAt k (by omega);rw [this, List.getElem?_append_right (by simp [HPL.out]), show n - k = (n - k - 1) + 1 by omega, List.replicate_succ];simp [HPL.out]
         have hst := (hrow2.stored k (.int .u8 (16 * (x : Int) + (y : Int)))).1;have hrow6 : (w'.setCell ⟨w.heap.size, k, none⟩ (.int .u8 (16 * (x : Int) + (y : Int)))).ownsRow w.heap.size 5 1 (.slice (some ⟨w.heap.size, 0, none⟩) n n) n ((pre ++ [UInt8.ofNat (16 * x + y)]).map bv ++ List.replicate (n - (k + 1)) (.int .u8 0)) := by
          have hb2 : (UInt8.ofNat (16 * x + y)).toNat = 16 * x + y := by simp; omega
          have h1 : (pre.map bv ++ List.replicate (n - k) (Value.int .u8 0)).set k (.int .u8 (16 * (x : Int) + (y : Int))) = (pre ++ [UInt8.ofNat (16 * x + y)]).map bv ++ List.replicate (n - (k + 1)) (.int .u8 0) := by
           rw [show n - k = (n - (k + 1)) + 1 by omega, List.replicate_succ, List.set_append_right _ _ (by simp [HPL.out])];simp [HPL.out, bv];omega
          rw [← h1]; exact hst
         have g6 := Ya g2 (a := ⟨w.heap.size, k, none⟩) (Nat.le_refl _) (.int .u8 (16 * (x : Int) + (y : Int)));have cs := Zv;have HR6 : Hid _ := hrow6;have HG6 : Hid _ := g6;clear hrow2 g2 hst hrow6 g6;go_wp2_with fail;go_roundw
         case rel => exact ⟨k + 1, _, by omega, by go_num, HNX, HR6.out, HG6.out⟩
         case measure => simp [intOf]; omega
     ·have HKN : Hid (k = n) := by show _ = _; omega
      have hON : O = some pre := by
       rw [HO.out];unfold Kc;rw [if_neg HNS.out, if_neg HNE.out];have h := HPRE.out;rw [HKN.out, ← HN.out, List.take_length] at h;exact h
      subst hON;have hB := hrow;rw [HKN.out, Nat.sub_self, List.replicate_zero, List.append_nil] at hB;have dlt : ¬ ((k : Int) < (s.length : Int) / 2) := by have := HN.out; omega
      clear hrow;go_wp2_with fail;exact bodyPost_ret (v := .tuple #[.slice (some ⟨w.heap.size, 0, none⟩) n n, .bool true]) (by simp [results, Tryz.results51, go_sem]) rfl ⟨⟨_, rfl, Qf hB⟩, hgr⟩
   ·have hr2 : (s.length : Int).tmod 2 = 1 := by rw [Int.tmod_eq_emod_of_nonneg (by omega)]; omega
    have hON : O = none := by
     rw [HO.out];unfold Kc;rw [if_neg HNS.out, if_neg h0];exact Zgu s (by omega)
    subst hON;clear h0 hev;go_enter Tryz.func51, Tryz.ntmps51;go_wp2_with fail;exact bodyPost_ret (v := .tuple #[.slice none 0 0, .bool false]) (by simp [results, Tryz.results51, go_sem]) rfl ⟨rfl, Zj.refl _⟩
theorem Zdg : ∀ s : List UInt8, (Lib.indexByte s 32 = -1 ∧ ∀ c ∈ s, c ≠ 32) ∨ ∃ i : Nat, Lib.indexByte s 32 = (i : Int) ∧ s = s.take i ++ 32 :: s.drop (i + 1) ∧ ∀ c ∈ s.take i, c ≠ 32
 | [] => .inl ⟨rfl, fun _ h => by cases h⟩
 | b :: l => by
  by_cases hb : b = 32
  ·subst hb;exact .inr ⟨0, by simp [Lib.indexByte], by simp, fun _ h => by simp at h⟩
  ·rcases Zdg l with ⟨h1, h2⟩ | ⟨i, h1, h2, h3⟩
   ·refine .inl ⟨by simp [Lib.indexByte, hb, h1], fun c hc => ?_⟩;rcases List.mem_cons.1 hc with rfl | hc
    ·exact hb
    ·exact h2 c hc
   ·refine .inr ⟨i + 1, ?_, ?_, fun c hc => ?_⟩
    ·simp only [Lib.indexByte, h1];rw [if_neg (by simpa using hb), if_neg (by simp)];simp
    ·rw [List.take_succ_cons, List.drop_succ_cons, List.cons_append, ← h2]
    ·rw [List.take_succ_cons] at hc;rcases List.mem_cons.1 hc with rfl | hc
     ·exact hb
     ·exact h3 c hc
theorem Je (s : List UInt8) : Lib.index s [32] = Lib.indexByte s 32 := Lib.index_one s 32
theorem Zlv : ∀ s : List UInt8, 1 ≤ (Yx s).length := fun s => by
 cases h : Yx s with
 | nil => exact absurd h (Zck s)
 | cons => simp
theorem Zhu : ∀ (k : Nat) (s : List UInt8), ((Yx s).length ≤ k + 1 ∧ Lib.splitK [32] 0 k s = Yx s) ∨ (k + 1 < (Yx s).length ∧ (Lib.splitK [32] 0 k s).length = k + 1 ∧ (1 ≤ k → (Lib.splitK [32] 0 k s).head? = (Yx s).head?))
 | 0, s => by
  rcases Zdg s with ⟨h1, h2⟩ | ⟨i, h1, h2, h3⟩
  ·left; rw [Kn s h2]; exact ⟨by simp, rfl⟩
  ·right;have e : Yx s = s.take i :: Yx (s.drop (i + 1)) := (congrArg Yx h2).trans (Qm _ _ h3);rw [e];have := Zlv (s.drop (i + 1));refine ⟨by simp; omega, rfl, fun h => by omega⟩
 | k + 1, s => by
  rcases Zdg s with ⟨h1, h2⟩ | ⟨i, h1, h2, h3⟩
  ·left;rw [Kn s h2];unfold Lib.splitK;rw [Je, h1];exact ⟨by simp, rfl⟩
  ·have e : Yx s = s.take i :: Yx (s.drop (i + 1)) := (congrArg Yx h2).trans (Qm _ _ h3);have e2 : Lib.splitK [32] 0 (k + 1) s = s.take i :: Lib.splitK [32] 0 k (s.drop (i + 1)) := by
    conv => lhs; unfold Lib.splitK
    rw [Je, h1, if_neg (by simp)];simp
   rw [e, e2];rcases Zhu k (s.drop (i + 1)) with ⟨h4, h5⟩ | ⟨h4, h5, _⟩
   ·left; exact ⟨by simp; omega, by rw [h5]⟩
   ·right; exact ⟨by simp; omega, by simp [h5], fun _ => rfl⟩
theorem Zgt : ∀ s : List UInt8, (Yx s).length ≤ s.length + 1
 | [] => by simp [Yx]
 | c :: s => by
  have ih := Zgt s;unfold Yx;split
  ·simp; omega
  ·split
   ·rename_i w ws h; rw [h] at ih; simp at ih ⊢; omega
   ·simp
def Zln (s : List UInt8) (ws : List (List UInt8)) : Prop := ws.length ≤ 4 ∧ (ws = Yx s ∨ (ws.length = 4 ∧ 4 < (Yx s).length ∧ ws.head? = (Yx s).head?))
theorem Zj8 (s : List UInt8) : Zln s (Lib.splitK [32] 0 (min 4 (s.length + 1) - 1) s) := by
 have hm := Zgt s;rcases Zhu (min 4 (s.length + 1) - 1) s with ⟨h1, h2⟩ | ⟨h1, h2, h3⟩
 ·refine ⟨by rw [h2]; omega, .inl h2⟩
 ·have h4 : min 4 (s.length + 1) - 1 = 3 := by omega
  rw [h4] at h1 h2 h3 ⊢;exact ⟨by omega, .inr ⟨h2, by omega, h3 (by omega)⟩⟩
def Zi9 (V : World → Prop) : Prop := ∀ (s : List UInt8) (w : World), V w → s.length ≤ 140737488355328 →
 Calls Tryz.prog 27 #[.string ⟨s.toArray⟩, .string ⟨#[32]⟩, .int .i64 4] w fun r w' => ∃ (ws : List (List UInt8)) (g c : Nat), Zln s ws ∧ r = .returned (.slice (some ⟨g, 0, none⟩) ws.length c) ∧ ws.length ≤ c ∧ (∀ (i : Nat) (h : i < ws.length), w'.cell? ⟨g, i, none⟩ = some (.string ⟨ws[i].toArray⟩)) ∧ Zj w w'
def Zaw : Obj := .map #[{ key := .string ⟨Zcm.toArray⟩, val := .agg #[.int .i64 1, .int .i64 3], born := 0 }, { key := .string ⟨Vx.toArray⟩, val := .agg #[.int .i64 2, .int .i64 2], born := 1 }, { key := .string ⟨Zat.toArray⟩, val := .agg #[.int .i64 3, .int .i64 3], born := 2 }] 3
theorem Zay {w : World} {r clock : Nat} {es : Array MapEntry} (s : ByteArray) (v : Value) (hb : w.heap[r]? = some (.map es clock)) (hf : Instr.findNow .string (.string s) es.toList 0 = some none) :
  ∃ w', (Instr.mapUpdate 80 (.map (some r)) (.string s) v).run Tryz.prog w = .ok () w' ∧ w'.heap[r]? = some (.map (es.push { key := .string s, val := v, born := clock }) (clock + 1)) ∧ Zp r w w' := by
 have hk := Tryz.underlying9;have hc : (Instr.checkKey false 10000 9 (.string s)).run Tryz.prog w = .ok () w := MapKept.run_checkKey (k := .string s) hk (by simp [MapKept.IsKey]) false 9999;refine ⟨{ w with heap := w.heap.setIfInBounds r (.map (es.push { key := .string s, val := v, born := clock }) (clock + 1)) }, ?_, ?_, ?_⟩
 ·simp [Instr.mapUpdate, run_underlying Tryz.underlying80, MapKept.run_getObj_map hb, hc, MapKept.run_findKey hk hf, MapKept.run_setObj_map _ hb, Result.andThen]
 ·exact (MapKept.heap_set hb).1
 ·exact ⟨rfl, rfl, rfl, by simp, fun k hk hn => (MapKept.heap_set hb).2 k hn⟩
def Kf (s : List UInt8) : Option (Int × Int) := if s = Zcm then some (1, 3) else if s = Vx then some (2, 2) else if s = Zat then some (3, 3) else none
def Zdu (s : List UInt8) : Value := match Kf s with
 | some (k, n) => .tuple #[.agg #[.int .i64 k, .int .i64 n], .bool true]
 | none => .tuple #[.agg #[.int .i64 0, .int .i64 0], .bool false]
theorem Zmb {a b : List UInt8} (h : a ≠ b) : ((ByteArray.mk a.toArray) == (ByteArray.mk b.toArray)) = false := by
 show (a.toArray == b.toArray) = false;simpa using h
theorem K9 {w : World} {r clock : Nat} {es : Array MapEntry} (s : List UInt8) (hb : w.heap[r]? = some (.map es clock)) (he : es.isEmpty = false) (x : Option (Nat × Value)) (hf : Instr.findNow .string (.string ⟨s.toArray⟩) es.toList 0 = some x) (hv : (match x with | some (_, v) => Value.tuple #[v, .bool true] | none => .tuple #[.agg #[.int .i64 0, .int .i64 0], .bool false]) = Zdu s) :
  (Instr.lookup 80 (.map (some r)) (.string ⟨s.toArray⟩) true).run Tryz.prog w = .ok (Zdu s) w := by
 have hk := Tryz.underlying9;have hc : (Instr.checkKey false 10000 9 (.string ⟨s.toArray⟩)).run Tryz.prog w = .ok () w := MapKept.run_checkKey (k := .string ⟨s.toArray⟩) hk (by simp [MapKept.IsKey]) false 9999;have hg := MapKept.run_getObj_map (P := Tryz.prog) hb;have hq := MapKept.run_findKey (P := Tryz.prog) (w := w) hk hf;rw [← hv];cases x with
 | none => simp [Instr.lookup, run_underlying Tryz.underlying80, hg, he, hc, hq, Result.andThen]
 | some y => simp [Instr.lookup, run_underlying Tryz.underlying80, hg, he, hc, hq, Result.andThen]
theorem Zo7 {w : World} {r : Nat} (s : List UInt8) (hb : w.heap[r]? = some Zaw) : (Instr.lookup 80 (.map (some r)) (.string ⟨s.toArray⟩) true).run Tryz.prog w = .ok (Zdu s) w := by
 by_cases h1 : s = Zcm
 ·subst h1; exact K9 Zcm hb rfl (some (0, .agg #[.int .i64 1, .int .i64 3])) rfl rfl
 ·by_cases h2 : s = Vx
  ·subst h2; exact K9 Vx hb rfl (some (1, .agg #[.int .i64 2, .int .i64 2])) rfl rfl
  ·by_cases h3 : s = Zat
   ·subst h3; exact K9 Zat hb rfl (some (2, .agg #[.int .i64 3, .int .i64 3])) rfl rfl
   ·refine K9 s hb rfl none ?_ ?_
    ·simp [Instr.findNow, Instr.sameNow, Zmb h1, Zmb h2, Zmb h3]
    ·simp [Zdu, Kf, h1, h2, h3]
theorem Zjg (w : World) : Calls Tryz.prog 28 #[] w fun r w' => ∃ b, r = .returned (.map (some b)) ∧ w.heap.size ≤ b ∧ w'.heap[b]? = some Zaw ∧ Zj w w' := by
 have h0 : (w.alloc (.map #[] 0)).heap[w.heap.size]? = some (.map #[] 0) := by show (w.heap.push _)[w.heap.size]? = _; simp
 have g0 := Zd w (.map #[] 0);obtain ⟨w1, r1, h1, k1⟩ := Zay ⟨#[112, 117, 116]⟩ (.agg #[.int .i64 1, .int .i64 3]) h0 rfl;obtain ⟨w2, r2, h2, k2⟩ := Zay ⟨#[100, 101, 108, 101, 116, 101]⟩ (.agg #[.int .i64 2, .int .i64 2]) h1 rfl;obtain ⟨w3, r3, h3, k3⟩ := Zay ⟨#[112, 117, 114, 103, 101]⟩ (.agg #[.int .i64 3, .int .i64 3]) h2 rfl;have gE := k3.grow (k2.grow (k1.grow g0 (Nat.le_refl _)) (Nat.le_refl _)) (Nat.le_refl _);have HH : Hid (w3.heap[w.heap.size]? = some Zaw) := h3;have hmm := @run_makeMap Tryz.prog;clear h0 h1 h2 h3 k1 k2 k3 g0;go_enter Tryz.func28, Tryz.ntmps28;go_wp2_with fail;go_ret;exact ⟨_, rfl, Nat.le_refl _, HH.out, gE⟩
end Go.Proofs.YtgaecpdokgklpadGreatDoor
