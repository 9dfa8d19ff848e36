import Derived.Test.YtpdnapbchcdhladGreatDoorTextLaw
import Derived.Lib.Bytealg
import Derived.Lib.Split
import Derived.Lib.IndexBytes
import Derived.MapKept
set_option maxHeartbeats 8000000
namespace Go.Proofs.YtpdnapbchcdhladGreatDoor
set_option maxRecDepth 100000
open Go.RowKit
open Plain Reg
variable {dn : Nat → Bool} {f : Nat → Value} {i j : Nat} {v : Value}
theorem V6 (h : j ≠ i) : upd dn i j = dn j := by unfold upd; rw [if_neg h]
theorem Zjj : upd dn i i = true := by unfold upd; rw [if_pos rfl]
theorem K3 (h : j ≠ i) : Qt f i v j = f j := by unfold Qt; rw [if_neg h]
theorem Za6 : Qt f i v i = v := by unfold Qt; rw [if_pos rfl]
def Zcv (c : UInt8) : Int := match Kv c with
 | some x => (x : Int)
 | none => -1
theorem Zox : ∀ c : UInt8, Lib.indexByte Z01 c = Zcv c := by
 have h : ∀ c : Fin 256, Lib.indexByte Z01 (UInt8.ofNat c.val) = Zcv (UInt8.ofNat c.val) := by decide +kernel
 intro c;have := h ⟨c.toNat, c.toNat_lt⟩;simpa using this
def Zhd : Prop := ∀ (c : UInt8) (w : World),
 Calls Tryz.prog 97 #[.string ⟨#[48, 49, 50, 51, 52, 53, 54, 55, 56, 57, 97, 98, 99, 100, 101, 102]⟩, .int .u8 (c.toNat : Int)] w fun r w' => r = .returned (.int .i64 (Zcv c)) ∧ Zj w w'
theorem Zvl : ∀ x y : Fin 16, bits .or .i64 (((x.val * 16 : Nat)) : Int) ((y.val : Nat) : Int) = ((16 * x.val + y.val : Nat) : Int) := by decide +kernel
theorem Z1f {x y : Nat} (hx : x < 16) (hy : y < 16) : bits .or .i64 ((x : Int) * 16) (y : Int) = 16 * (x : Int) + (y : Int) := by
 have := Zvl ⟨x, hx⟩ ⟨y, hy⟩;simpa using this
theorem Zfm : ∀ (m : Nat) (s pre : List UInt8) (x y : Nat) (h : 2 * m + 1 < s.length), Q9 (s.take (2 * m)) = some pre → Kv s[2 * m] = some x → Kv s[2 * m + 1] = some y → Q9 (s.take (2 * (m + 1))) = some (pre ++ [UInt8.ofNat (16 * x + y)])
 | 0, a :: b :: r, pre, x, y, h, h1, h2, h3 => by
  simp only [Nat.mul_zero, List.take_zero, Q9, Option.some.injEq] at h1;subst h1;have h2' : Kv a = some x := h2;have h3' : Kv b = some y := h3;simp [Q9, h2', h3']
 | m + 1, a :: b :: r, pre, x, y, h, h1, h2, h3 => by
  have e : (a :: b :: r).take (2 * (m + 1)) = a :: b :: r.take (2 * m) := by rw [show 2 * (m + 1) = 2 * m + 1 + 1 by omega, List.take_succ_cons, List.take_succ_cons]
  have e2 : (a :: b :: r).take (2 * (m + 1 + 1)) = a :: b :: r.take (2 * (m + 1)) := by rw [show 2 * (m + 1 + 1) = 2 * (m + 1) + 1 + 1 by omega, List.take_succ_cons, List.take_succ_cons]
  rw [e] at h1;rw [e2];unfold Q9 at h1 ⊢;split at h1
  ·rename_i p q t hp hq ht;cases h1;have h2' : Kv (r[2 * m]'(by simp at h; omega)) = some x := by simpa [show 2 * (m + 1) = 2 * m + 1 + 1 by omega] using h2
   have h3' : Kv (r[2 * m + 1]'(by simp at h; omega)) = some y := by simpa [show 2 * (m + 1) = 2 * m + 1 + 1 by omega] using h3
   have ih := Zfm m r t x y (by simp at h; omega) ht h2' h3';rw [hp, hq, ih];rfl
  ·cases h1
 | _, [], _, _, _, h, _, _, _ => by simp at h
 | _, [_], _, _, _, h, _, _, _ => by simp at h
theorem Zcj : ∀ (s l : List UInt8), Q9 s = some l → s.length = 2 * l.length
 | [], l, h => by unfold Q9 at h; cases h; rfl
 | [_], l, h => by unfold Q9 at h; cases h
 | a :: b :: r, l, h => by
  unfold Q9 at h;split at h
  ·rename_i x y t hx hy ht;cases h;have := Zcj r t ht;simp; omega
  ·cases h
def Z1n (o : Option (List UInt8)) (e : Ending) (w : World) : Prop := match o with
 | some l => ∃ v, e = .returned (.tuple #[v, .bool true]) ∧ Bytes w v l
 | none => e = .returned (.tuple #[.slice none 0 0, .bool false])
theorem Znj (IX : Zhd) (s : List UInt8) (w : World) (hm : s.length ≤ 140737488355328) :
  Calls Tryz.prog 57 #[.string ⟨s.toArray⟩] w fun r w' => Z1n (Kp s) r w' ∧ Zj w w' := by
 by_cases hs : s = [45]
 ·have HD : Hid (Kp s = some []) := by show _ = _; rw [hs]; rfl
  have dd : (s == [45]) = true := by simp [hs]
  obtain ⟨O, hO⟩ : ∃ O, O = Kp s := ⟨_, rfl⟩;rw [← hO];rw [HD.out] at hO;subst hO;clear hs HD;go_enter Tryz.func57, Tryz.ntmps57;go_wp2_with fail;exact bodyPost_ret (v := .tuple #[.slice none 0 0, .bool true]) (by simp [results, Tryz.results57, go_sem]) rfl ⟨⟨_, rfl, .inl ⟨none, 0, rfl, rfl, fun _ => rfl⟩⟩, Zj.refl _⟩
 ·have dd : (s == [45]) = false := by simp [hs]
  have HNS : Hid (s ≠ [45]) := hs;obtain ⟨O, hO⟩ : ∃ O, O = Kp s := ⟨_, rfl⟩;rw [← hO];have HO : Hid _ := hO;clear hs hO;by_cases h0 : s = []
  ·have hON : O = none := by rw [HO.out, h0]; rfl
   subst hON;have d0 : (s == []) = true := by simp [h0]
   clear h0;go_enter Tryz.func57, Tryz.ntmps57;go_wp2_with fail;exact bodyPost_ret (v := .tuple #[.slice none 0 0, .bool false]) (by simp [results, Tryz.results57, go_sem]) rfl ⟨rfl, Zj.refl _⟩
  ·have d0 : (s == []) = false := by simp [h0]
   have HNE : Hid (s ≠ []) := h0;by_cases hev : s.length % 2 = 0
   ·have hr2 : (s.length : Int).tmod 2 = 0 := by rw [Int.tmod_eq_emod_of_nonneg (by omega)]; omega
    have hq2 : (s.length : Int).tdiv 2 = ((s.length / 2 : Nat) : Int) := by rw [Int.tdiv_eq_ediv_of_nonneg (by omega)]; omega
    clear h0;obtain ⟨i0, hif, hz0, hz1, hz2⟩ := info_parts Zab;go_enter Tryz.func57, Tryz.ntmps57;go_wp2_with (at_make; refine wpList_make_full _ rfl _ _ 38 rfl w.heap.size 5 i0 (.int .u8 0) 1 Tryz.underlying38 hif hz0 hz1 .i64 .i64 _ _ (s.length / 2) rfl rfl hq2 hq2 (by rw [hz2]; omega) (by unfold maxLen; omega) (Nat.le_refl _) ?_; intro w1 hown1 hgrow1);have g1 : Zj w w1 := Yl (Zj.refl _) hgrow1 (fun k hk => by cases hk);have HEV : Hid _ := hev;clear hgrow1 hev hr2;rw [Nat.mul_one] at hown1;rw [show (Value.int .u8 0).cells = #[Value.int .u8 0] from rfl, toList_madeCells_one] at hown1;obtain ⟨n, hn⟩ : ∃ n, n = s.length / 2 := ⟨_, rfl⟩;have HN : Hid (s.length = 2 * n) := by show _ = _; have := HEV.out; omega
    rw [← hn] at hown1 ⊢;have hnb : n ≤ 140737488355328 := by omega
    clear hn hq2;go_loopw [24] (fun i wr => ∃ (k : Nat) (pre : List UInt8), k ≤ n ∧ i = .int .i64 k ∧ Hid (Q9 (s.take (2 * k)) = some pre) ∧ wr.ownsRow w.heap.size 5 1 (.slice (some ⟨w.heap.size, 0, none⟩) n n) n (pre.map bv ++ List.replicate (n - k) (.int .u8 0)) ∧ Zj w wr) (fun i _ => n - (intOf i).toNat)
    case atStart => exact ⟨0, [], Nat.zero_le _, rfl, (by show _ = _; rfl), by simpa using hown1, g1⟩
    case round =>
     clear hown1 g1;obtain ⟨k, pre, hk, rfl, HPRE, hrow, hgr⟩ := hrel;by_cases hlt : k < n
     ·have hl1 : 2 * k + 1 < s.length := by rw [HN.out]; omega
      have hl0 : 2 * k < s.length := by omega
      have HPL : Hid (pre.length = k) := by
       show _ = _;have := Zcj _ _ HPRE.out;rw [List.length_take] at this;omega
      obtain ⟨c, hc⟩ : ∃ c, c = s[2 * k] := ⟨_, rfl⟩;obtain ⟨e, he⟩ : ∃ e, e = s[2 * k + 1] := ⟨_, rfl⟩;have HC : Hid _ := hc;have HE : Hid _ := he;clear hc he;go_wp2_with fail;refine Zz [ex (.string ⟨s.toArray⟩), ex (.int .i64 (k : Int)), ex (.int .i64 ((2 * k : Nat) : Int)), ex (.int .u8 (c.toNat : Int)), ex (.int .i64 (Zcv c)), ex (.string ⟨s.toArray⟩), ex (.int .i64 (k : Int)), ex (.int .i64 ((2 * k : Nat) : Int)), ex (.int .i64 ((2 * k + 1 : Nat) : Int)), ex (.int .u8 (e.toNat : Int)), ex (.int .i64 (Zcv e)), ex (.int .i64 (Zcv c)), ex (.int .i64 (Zcv e))] (by kernel_rfl) (by kernel_rfl) ⟨Zg _, Zg _, Zg _, Zg _, Zg _, Zg _, Zg _, Zg _, Zg _, Zg _, Zg _, Zg _, Zg _, trivial⟩ ?_ ?_
      ·refine ⟨?_, ?_, ?_, ?_, ?_, ?_, ?_, ?_, ?_, ?_, ?_, ?_, ?_, trivial⟩
       ·exact Zb rfl fun a _ _ _ _ A => Zm rfl (Zp A 0 rfl)
       ·exact Zb rfl fun a _ _ _ _ A => Zm rfl (Zp A 5 rfl)
       ·refine Zb rfl fun a _ _ _ B A => ?_;have e28 : a (.tmp 28) = _ := Zc A 1 rfl;refine Zi ?_ rfl;clear A B;go_simp;all_goals go_arith
       ·refine Zb rfl fun a B _ _ _ A => ?_;have e27 : a (.tmp 27) = _ := Zc A 0 rfl;have e29 : a (.tmp 29) = _ := Zc A 2 rfl;exact Zi (by rw [HC.out]; exact Zqe B a _ _ _ rfl s (2 * k) hl0 e27 e29) rfl
       ·refine Zb rfl fun a B _ _ C A => ?_;have e30 : a (.tmp 30) = _ := Zc A 3 rfl;refine Yj (f := 97) (args := #[.string ⟨#[48, 49, 50, 51, 52, 53, 54, 55, 56, 57, 97, 98, 99, 100, 101, 102]⟩, .int .u8 (c.toNat : Int)]) ?_ ((IX c B).mono ?_)
        ·clear A C;go_simp;all_goals go_arith
        ·rintro r w2 ⟨rfl, g2⟩;exact ⟨_, rfl, g2, rfl⟩
       ·exact Zb rfl fun a _ _ _ _ A => Zm rfl (Zp A 0 rfl)
       ·exact Zb rfl fun a _ _ _ _ A => Zm rfl (Zp A 5 rfl)
       ·refine Zb rfl fun a _ _ _ B A => ?_;have e33 : a (.tmp 33) = _ := Zc A 6 rfl;refine Zi ?_ rfl;clear A B;go_simp;all_goals go_arith
       ·refine Zb rfl fun a _ _ _ B A => ?_;have e34 : a (.tmp 34) = _ := Zc A 7 rfl;refine Zi ?_ rfl;clear A B;go_simp;all_goals go_arith
       ·refine Zb rfl fun a B _ _ _ A => ?_;have e32 : a (.tmp 32) = _ := Zc A 5 rfl;have e35 : a (.tmp 35) = _ := Zc A 8 rfl;exact Zi (by rw [HE.out]; exact Zqe B a _ _ _ rfl s (2 * k + 1) hl1 e32 e35) rfl
       ·refine Zb rfl fun a B _ _ C A => ?_;have e36 : a (.tmp 36) = _ := Zc A 9 rfl;refine Yj (f := 97) (args := #[.string ⟨#[48, 49, 50, 51, 52, 53, 54, 55, 56, 57, 97, 98, 99, 100, 101, 102]⟩, .int .u8 (e.toNat : Int)]) ?_ ((IX e B).mono ?_)
        ·clear A C;go_simp;all_goals go_arith
        ·rintro r w2 ⟨rfl, g2⟩;exact ⟨_, rfl, g2, rfl⟩
       ·exact Zb rfl fun a _ _ _ _ A => Yk rfl (Zc A 4 rfl)
       ·exact Zb rfl fun a _ _ _ _ A => Yk rfl (Zc A 10 rfl)
      ·intro vs w' hg ht;obtain ⟨(r27 : vs 0 = _), (r28 : vs 1 = _), (r29 : vs 2 = _), (r30 : vs 3 = _), (r31 : vs 4 = _), (r32 : vs 5 = _), (r33 : vs 6 = _), (r34 : vs 7 = _), (r35 : vs 8 = _), (r36 : vs 9 = _), (r37 : vs 10 = _), (r6 : vs 11 = _), (r7 : vs 12 = _), -⟩ := ht;simp only [Z8, Act.put, List.setIfInBounds_toArray, List.set_cons_zero, List.set_cons_succ, r27, r28, r29, r30, r31, r32, r33, r34, r35, r36, r37, r6, r7];clear r27 r28 r29 r30 r31 r32 r33 r34 r35 r36 r37 r6 r7;have g2 := hgr.trans hg;have hrow2 := Z5 hrow hg;clear hg hgr hrow;cases hx : Kv c with
       | none =>
        have hI : Zcv c = -1 := by unfold Zcv; rw [hx]
        obtain rfl : O = none := by rw [HO.out]; exact Zi1 HNS.out hl0 (by rw [← HC.out]; exact hx)
        rw [hI];clear hI hx;go_wp2_with fail;exact bodyPost_ret (v := .tuple #[.slice none 0 0, .bool false]) (by simp [results, Tryz.results57, go_sem]) rfl ⟨rfl, g2⟩
       | some x =>
        have hI : Zcv c = (x : Int) := by unfold Zcv; rw [hx]
        have hx16 := (Zit hx).1;have dx : ¬ ((x : Int) < 0) := by omega
        have HX : Hid _ := hx;rw [hI];clear hI hx;cases hy : Kv e with
        | none =>
         have hJ : Zcv e = -1 := by unfold Zcv; rw [hy]
         obtain rfl : O = none := by rw [HO.out]; exact Zi1 HNS.out hl1 (by rw [← HE.out]; exact hy)
         rw [hJ];clear hJ hy;go_wp2_with fail;exact bodyPost_ret (v := .tuple #[.slice none 0 0, .bool false]) (by simp [results, Tryz.results57, go_sem]) rfl ⟨rfl, g2⟩
        | some y =>
         have hJ : Zcv e = (y : Int) := by unfold Zcv; rw [hy]
         have hy16 := (Zit hy).1;have dy : ¬ ((y : Int) < 0) := by omega
         have HY : Hid _ := hy;rw [hJ];clear hJ hy;have ho := Z1f hx16 hy16;have HNX : Hid (Q9 (s.take (2 * (k + 1))) = some (pre ++ [UInt8.ofNat (16 * x + y)])) := Zfm k s pre x y hl1 HPRE.out (by rw [← HC.out]; exact HX.out) (by rw [← HE.out]; exact HY.out);have f0 := hrow2.frozenAt k;have c0 : w'.cell? ⟨w.heap.size, k, none⟩ = some (.int .u8 0) := by
          have := hrow2.cellAt k (by omega);rw [this, List.getElem?_append_right (by simp [HPL.out]), show n - k = (n - k - 1) + 1 by omega, List.replicate_succ];simp [HPL.out]
         have hst := (hrow2.stored k (.int .u8 (16 * (x : Int) + (y : Int)))).1;have hrow6 : (w'.setCell ⟨w.heap.size, k, none⟩ (.int .u8 (16 * (x : Int) + (y : Int)))).ownsRow w.heap.size 5 1 (.slice (some ⟨w.heap.size, 0, none⟩) n n) n ((pre ++ [UInt8.ofNat (16 * x + y)]).map bv ++ List.replicate (n - (k + 1)) (.int .u8 0)) := by
          have hb2 : (UInt8.ofNat (16 * x + y)).toNat = 16 * x + y := by simp; omega
          have h1 : (pre.map bv ++ List.replicate (n - k) (Value.int .u8 0)).set k (.int .u8 (16 * (x : Int) + (y : Int))) = (pre ++ [UInt8.ofNat (16 * x + y)]).map bv ++ List.replicate (n - (k + 1)) (.int .u8 0) := by
           rw [show n - k = (n - (k + 1)) + 1 by omega, List.replicate_succ, List.set_append_right _ _ (by simp [HPL.out])];simp [HPL.out, bv];omega
          rw [← h1]; exact hst
         have g6 := Ya g2 (a := ⟨w.heap.size, k, none⟩) (Nat.le_refl _) (.int .u8 (16 * (x : Int) + (y : Int)));have cs := Zu;have HR6 : Hid _ := hrow6;have HG6 : Hid _ := g6;clear hrow2 g2 hst hrow6 g6;go_wp2_with fail;go_roundw
         case rel => exact ⟨k + 1, _, by omega, by go_num, HNX, HR6.out, HG6.out⟩
         case measure => simp [intOf]; omega
     ·have HKN : Hid (k = n) := by show _ = _; omega
      have hON : O = some pre := by
       rw [HO.out];unfold Kp;rw [if_neg HNS.out, if_neg HNE.out];have h := HPRE.out;rw [HKN.out, ← HN.out, List.take_length] at h;exact h
      subst hON;have hB := hrow;rw [HKN.out, Nat.sub_self, List.replicate_zero, List.append_nil] at hB;have dlt : ¬ ((k : Int) < (s.length : Int) / 2) := by have := HN.out; omega
      clear hrow;go_wp2_with fail;exact bodyPost_ret (v := .tuple #[.slice (some ⟨w.heap.size, 0, none⟩) n n, .bool true]) (by simp [results, Tryz.results57, go_sem]) rfl ⟨⟨_, rfl, Qn hB⟩, hgr⟩
   ·have hr2 : (s.length : Int).tmod 2 = 1 := by rw [Int.tmod_eq_emod_of_nonneg (by omega)]; omega
    have hON : O = none := by
     rw [HO.out];unfold Kp;rw [if_neg HNS.out, if_neg h0];exact Zhv s (by omega)
    subst hON;clear h0 hev;go_enter Tryz.func57, Tryz.ntmps57;go_wp2_with fail;exact bodyPost_ret (v := .tuple #[.slice none 0 0, .bool false]) (by simp [results, Tryz.results57, go_sem]) rfl ⟨rfl, Zj.refl _⟩
variable {clock r : Nat} {es : Array MapEntry} {w : World}
theorem Zdz : ∀ s : List UInt8, (Lib.indexByte s 32 = -1 ∧ ∀ c ∈ s, c ≠ 32) ∨ ∃ i : Nat, Lib.indexByte s 32 = (i : Int) ∧ s = s.take i ++ 32 :: s.drop (i + 1) ∧ ∀ c ∈ s.take i, c ≠ 32
 | [] => .inl ⟨rfl, fun _ h => by cases h⟩
 | b :: l => by
  by_cases hb : b = 32
  ·subst hb;exact .inr ⟨0, by simp [Lib.indexByte], by simp, fun _ h => by simp at h⟩
  ·rcases Zdz l with ⟨h1, h2⟩ | ⟨i, h1, h2, h3⟩
   ·refine .inl ⟨by simp [Lib.indexByte, hb, h1], fun c hc => ?_⟩;rcases List.mem_cons.1 hc with rfl | hc
    ·exact hb
    ·exact h2 c hc
   ·refine .inr ⟨i + 1, ?_, ?_, fun c hc => ?_⟩
    ·simp only [Lib.indexByte, h1];rw [if_neg (by simpa using hb), if_neg (by simp)];simp
    ·rw [List.take_succ_cons, List.drop_succ_cons, List.cons_append, ← h2]
    ·rw [List.take_succ_cons] at hc;rcases List.mem_cons.1 hc with rfl | hc
     ·exact hb
     ·exact h3 c hc
theorem Jr (s : List UInt8) : Lib.index s [32] = Lib.indexByte s 32 := Lib.index_one s 32
theorem Znd : ∀ s : List UInt8, 1 ≤ (Yx s).length := fun s => by
 cases h : Yx s with
 | nil => exact absurd h (Zc0 s)
 | cons => simp
theorem Zi2 : ∀ (k : Nat) (s : List UInt8), ((Yx s).length ≤ k + 1 ∧ Lib.splitK [32] 0 k s = Yx s) ∨ (k + 1 < (Yx s).length ∧ (Lib.splitK [32] 0 k s).length = k + 1 ∧ (1 ≤ k → (Lib.splitK [32] 0 k s).head? = (Yx s).head?))
 | 0, s => by
  rcases Zdz s with ⟨h1, h2⟩ | ⟨i, h1, h2, h3⟩
  ·left; rw [Kx s h2]; exact ⟨by simp, rfl⟩
  ·right;have e : Yx s = s.take i :: Yx (s.drop (i + 1)) := (congrArg Yx h2).trans (Qx _ _ h3);rw [e];have := Znd (s.drop (i + 1));refine ⟨by simp; omega, rfl, fun h => by omega⟩
 | k + 1, s => by
  rcases Zdz s with ⟨h1, h2⟩ | ⟨i, h1, h2, h3⟩
  ·left;rw [Kx s h2];unfold Lib.splitK;rw [Jr, h1];exact ⟨by simp, rfl⟩
  ·have e : Yx s = s.take i :: Yx (s.drop (i + 1)) := (congrArg Yx h2).trans (Qx _ _ h3);have e2 : Lib.splitK [32] 0 (k + 1) s = s.take i :: Lib.splitK [32] 0 k (s.drop (i + 1)) := by
    conv => lhs; unfold Lib.splitK
    rw [Jr, h1, if_neg (by simp)];simp
   rw [e, e2];rcases Zi2 k (s.drop (i + 1)) with ⟨h4, h5⟩ | ⟨h4, h5, _⟩
   ·left; exact ⟨by simp; omega, by rw [h5]⟩
   ·right; exact ⟨by simp; omega, by simp [h5], fun _ => rfl⟩
theorem Zhu : ∀ s : List UInt8, (Yx s).length ≤ s.length + 1
 | [] => by simp [Yx]
 | c :: s => by
  have ih := Zhu s;unfold Yx;split
  ·simp; omega
  ·split
   ·rename_i w ws h; rw [h] at ih; simp at ih ⊢; omega
   ·simp
def Zm5 (s : List UInt8) (ws : List (List UInt8)) : Prop := ws.length ≤ 4 ∧ (ws = Yx s ∨ (ws.length = 4 ∧ 4 < (Yx s).length ∧ ws.head? = (Yx s).head?))
theorem Zlg (s : List UInt8) : Zm5 s (Lib.splitK [32] 0 (min 4 (s.length + 1) - 1) s) := by
 have hm := Zhu s;rcases Zi2 (min 4 (s.length + 1) - 1) s with ⟨h1, h2⟩ | ⟨h1, h2, h3⟩
 ·refine ⟨by rw [h2]; omega, .inl h2⟩
 ·have h4 : min 4 (s.length + 1) - 1 = 3 := by omega
  rw [h4] at h1 h2 h3 ⊢;exact ⟨by omega, .inr ⟨h2, by omega, h3 (by omega)⟩⟩
def Zkh (V : World → Prop) : Prop := ∀ (s : List UInt8) (w : World), V w → s.length ≤ 140737488355328 →
 Calls Tryz.prog 31 #[.string ⟨s.toArray⟩, .string ⟨#[32]⟩, .int .i64 4] w fun r w' => ∃ (ws : List (List UInt8)) (g c : Nat), Zm5 s ws ∧ r = .returned (.slice (some ⟨g, 0, none⟩) ws.length c) ∧ ws.length ≤ c ∧ (∀ (i : Nat) (h : i < ws.length), w'.cell? ⟨g, i, none⟩ = some (.string ⟨ws[i].toArray⟩)) ∧ Zj w w'
def Za9 : Obj := .map #[{ key := .string ⟨Zc2.toArray⟩, val := .agg #[.int .i64 1, .int .i64 3], born := 0 }, { key := .string ⟨V5.toArray⟩, val := .agg #[.int .i64 2, .int .i64 2], born := 1 }, { key := .string ⟨Za5.toArray⟩, val := .agg #[.int .i64 3, .int .i64 3], born := 2 }] 3
theorem Zba (s : ByteArray) (v : Value) (hb : w.heap[r]? = some (.map es clock)) (hf : Instr.findNow .string (.string s) es.toList 0 = some none) :
  ∃ w', (Instr.mapUpdate 87 (.map (some r)) (.string s) v).run Tryz.prog w = .ok () w' ∧ w'.heap[r]? = some (.map (es.push { key := .string s, val := v, born := clock }) (clock + 1)) ∧ Zo r w w' := by
 have hk := Tryz.underlying9;have hc : (Instr.checkKey false 10000 9 (.string s)).run Tryz.prog w = .ok () w := MapKept.run_checkKey (k := .string s) hk (by simp [MapKept.IsKey]) false 9999;refine ⟨{ w with heap := w.heap.setIfInBounds r (.map (es.push { key := .string s, val := v, born := clock }) (clock + 1)) }, ?_, ?_, ?_⟩
 ·simp [Instr.mapUpdate, run_underlying Tryz.underlying87, MapKept.run_getObj_map hb, hc, MapKept.run_findKey hk hf, MapKept.run_setObj_map _ hb, Result.andThen]
 ·exact (MapKept.heap_set hb).1
 ·exact ⟨rfl, rfl, rfl, by simp, fun k hk hn => (MapKept.heap_set hb).2 k hn⟩
def Ks (s : List UInt8) : Option (Int × Int) := if s = Zc2 then some (1, 3) else if s = V5 then some (2, 2) else if s = Za5 then some (3, 3) else none
def Zed (s : List UInt8) : Value := match Ks s with
 | some (k, n) => .tuple #[.agg #[.int .i64 k, .int .i64 n], .bool true]
 | none => .tuple #[.agg #[.int .i64 0, .int .i64 0], .bool false]
theorem Znu {a b : List UInt8} (h : a ≠ b) : ((ByteArray.mk a.toArray) == (ByteArray.mk b.toArray)) = false := by
 show (a.toArray == b.toArray) = false;simpa using h
theorem Jk (s : List UInt8) (hb : w.heap[r]? = some (.map es clock)) (he : es.isEmpty = false) (x : Option (Nat × Value)) (hf : Instr.findNow .string (.string ⟨s.toArray⟩) es.toList 0 = some x) (hv : (match x with | some (_, v) => Value.tuple #[v, .bool true] | none => .tuple #[.agg #[.int .i64 0, .int .i64 0], .bool false]) = Zed s) :
  (Instr.lookup 87 (.map (some r)) (.string ⟨s.toArray⟩) true).run Tryz.prog w = .ok (Zed s) w := by
 have hk := Tryz.underlying9;have hc : (Instr.checkKey false 10000 9 (.string ⟨s.toArray⟩)).run Tryz.prog w = .ok () w := MapKept.run_checkKey (k := .string ⟨s.toArray⟩) hk (by simp [MapKept.IsKey]) false 9999;have hg := MapKept.run_getObj_map (P := Tryz.prog) hb;have hq := MapKept.run_findKey (P := Tryz.prog) (w := w) hk hf;rw [← hv];cases x with
 | none => simp [Instr.lookup, run_underlying Tryz.underlying87, hg, he, hc, hq, Result.andThen]
 | some y => simp [Instr.lookup, run_underlying Tryz.underlying87, hg, he, hc, hq, Result.andThen]
theorem Zq0 (s : List UInt8) (hb : w.heap[r]? = some Za9) : (Instr.lookup 87 (.map (some r)) (.string ⟨s.toArray⟩) true).run Tryz.prog w = .ok (Zed s) w := by
 by_cases h1 : s = Zc2
 ·subst h1; exact Jk Zc2 hb rfl (some (0, .agg #[.int .i64 1, .int .i64 3])) rfl rfl
 ·by_cases h2 : s = V5
  ·subst h2; exact Jk V5 hb rfl (some (1, .agg #[.int .i64 2, .int .i64 2])) rfl rfl
  ·by_cases h3 : s = Za5
   ·subst h3; exact Jk Za5 hb rfl (some (2, .agg #[.int .i64 3, .int .i64 3])) rfl rfl
   ·refine Jk s hb rfl none ?_ ?_
    ·simp [Instr.findNow, Instr.sameNow, Znu h1, Znu h2, Znu h3]
    ·simp [Zed, Ks, h1, h2, h3]
theorem Zko (w : World) : Calls Tryz.prog 32 #[] w fun r w' => ∃ b, r = .returned (.map (some b)) ∧ w.heap.size ≤ b ∧ w'.heap[b]? = some Za9 ∧ Zj w w' := by
 have h0 : (w.alloc (.map #[] 0)).heap[w.heap.size]? = some (.map #[] 0) := by show (w.heap.push _)[w.heap.size]? = _; simp
 have g0 := Zd w (.map #[] 0);obtain ⟨w1, r1, h1, k1⟩ := Zba ⟨#[112, 117, 116]⟩ (.agg #[.int .i64 1, .int .i64 3]) h0 rfl;obtain ⟨w2, r2, h2, k2⟩ := Zba ⟨#[100, 101, 108, 101, 116, 101]⟩ (.agg #[.int .i64 2, .int .i64 2]) h1 rfl;obtain ⟨w3, r3, h3, k3⟩ := Zba ⟨#[112, 117, 114, 103, 101]⟩ (.agg #[.int .i64 3, .int .i64 3]) h2 rfl;have gE := k3.grow (k2.grow (k1.grow g0 (Nat.le_refl _)) (Nat.le_refl _)) (Nat.le_refl _);have HH : Hid (w3.heap[w.heap.size]? = some Za9) := h3;have hmm := @run_makeMap Tryz.prog;clear h0 h1 h2 h3 k1 k2 k3 g0;go_enter Tryz.func32, Tryz.ntmps32;go_wp2_with fail;go_ret;exact ⟨_, rfl, Nat.le_refl _, HH.out, gE⟩
end Go.Proofs.YtpdnapbchcdhladGreatDoor
