import Derived.Test.YtpdnapbchcdhladGreatDoorTAlive
import Derived.Lib.ItoaLen
set_option maxHeartbeats 8000000
namespace Go.Proofs.YtpdnapbchcdhladGreatDoor
set_option maxRecDepth 100000
open Go.RowKit
open Plain Reg
def Zd6 (V : World → Prop) : Prop := ∀ (n : Int) (w : World), V w → -9223372036854775808 ≤ n → n ≤ 9223372036854775807 →
 Calls Tryz.prog 96 #[.int .i64 n] w fun r w' => r = .returned (.string ⟨(Lib.itoa n).toArray⟩) ∧ Zj w w'
def Z01 : List UInt8 := [48, 49, 50, 51, 52, 53, 54, 55, 56, 57, 97, 98, 99, 100, 101, 102]
theorem Zhv : ∀ (s : List UInt8), s.length % 2 = 1 → Q9 s = none
 | [], h => by simp at h
 | [_], _ => rfl
 | a :: b :: s, h => by
  unfold Q9;rw [Zhv s (by simp at h; omega)];cases Kv a <;> cases Kv b <;> rfl
theorem Zhw : ∀ (s : List UInt8) (j : Nat) (h : j < s.length), Kv s[j] = none → Q9 s = none
 | [], j, h, _ => by simp at h
 | [_], _, _, _ => rfl
 | a :: b :: s, 0, _, h => by
  unfold Q9;rw [show Kv a = none from h]
 | a :: b :: s, 1, _, h => by
  unfold Q9;rw [show Kv b = none from h];cases Kv a <;> rfl
 | a :: b :: s, j + 2, hj, h => by
  unfold Q9;rw [Zhw s j (by simp at hj; omega) h];cases Kv a <;> cases Kv b <;> rfl
theorem Zi1 {s : List UInt8} (hs : s ≠ [45]) {j : Nat} (h : j < s.length) (hb : Kv s[j] = none) : Kp s = none := by
 unfold Kp;rw [if_neg hs];split
 ·rfl
 ·exact Zhw s j h hb
theorem Zqe (w : World) (ev : Operand → Value) (o : Oper) (x y : Operand) (ho : o.op = Op.index 9 x y) (s : List UInt8) (i : Nat) (hi : i < s.length) (hx : ev x = .string ⟨s.toArray⟩) (hy : ev y = .int .i64 (i : Int)) :
  (execOp ev o).run Tryz.prog w = .ok (.value (.int .u8 (s[i].toNat : Int))) w := by
 unfold execOp;rw [ho];go_simp;rfl
def Zd8 (V : World → Prop) : Prop := ∀ (s : List UInt8) (w : World), V w → s.length ≤ 140737488355328 →
 Calls Tryz.prog 95 #[.string ⟨s.toArray⟩] w fun r w' => (∃ n ev, r = .returned (.tuple #[.int .i64 n, ev]) ∧ ((Lib.atoiAll s = .ok n ∧ ev = .nilIface ∧ -9223372036854775808 ≤ n ∧ n ≤ 9223372036854775807) ∨ ((∀ v, Lib.atoiAll s ≠ .ok v) ∧ ∃ T p, ev = .iface T p))) ∧ Zj w w'
theorem Zi3 (s : List UInt8) (f k : Nat) : (ByteArray.mk s.toArray).extract f k = ByteArray.mk ((s.drop f).take (k - f)).toArray := by
 apply ByteArray.ext;simp [ByteArray.data_extract]
variable {n : Int} {w : List UInt8}
theorem Zt1 (h : Lib.atoiAll w = .ok n) (h2 : Lib.itoa n = w) : Vw w = some n := by unfold Vw; rw [h]; exact if_pos h2
theorem Zks (h : Lib.atoiAll w = .ok n) (h2 : Lib.itoa n ≠ w) : Vw w = none := by unfold Vw; rw [h]; exact if_neg h2
theorem Zxe (h : ∀ v, Lib.atoiAll w ≠ .ok v) : Vw w = none := by
 unfold Vw;split
 ·rename_i n hn; exact absurd hn (h n)
 ·rfl
def Z1g : Option Int → Value
 | some n => .tuple #[.int .i64 n, .bool true]
 | none => .tuple #[.int .i64 0, .bool false]
theorem Zkt (V : World → Prop) (hV : ∀ w w', V w → Zj w w' → V w') (IT : Zd6 V) (AT : Zd8 V) (s : List UInt8) (w : World) (hw : V w) (hs : s.length ≤ 140737488355328) :
  Calls Tryz.prog 56 #[.string ⟨s.toArray⟩] w fun r w' => r = .returned (Z1g (Vw s)) ∧ Zj w w' := by
 obtain ⟨O, hO⟩ : ∃ O, O = Vw s := ⟨_, rfl⟩;rw [← hO];have HO : Hid _ := hO;clear hO;go_enter Tryz.func56, Tryz.ntmps56;go_wp2_with fail;refine (AT s w hw hs).mono ?_;rintro r w1 ⟨⟨n, ev, rfl, hcase⟩, g1⟩;rcases hcase with ⟨hok, rfl, hn0, hn1⟩ | ⟨hno, T, p, rfl⟩
 ·have HOK : Hid _ := hok;clear hok;go_wp2_with fail;refine (IT n w1 (hV _ _ hw g1) hn0 hn1).mono ?_;rintro r w2 ⟨rfl, g2⟩;have gE := g1.trans g2;clear g1 g2;by_cases hit : Lib.itoa n = s
  ·obtain rfl : O = some n := by rw [HO.out]; exact Zt1 HOK.out hit
   have dA : (Lib.itoa n == s) = true := by simp [hit]
   clear hit HOK HO;go_wp2_with fail;exact bodyPost_ret (v := .tuple #[.int .i64 n, .bool true]) (by simp [results, Tryz.results56, go_sem]) rfl ⟨rfl, gE⟩
  ·obtain rfl : O = none := by rw [HO.out]; exact Zks HOK.out hit
   have dA : (Lib.itoa n == s) = false := by simp [hit]
   clear hit HOK HO;go_wp2_with fail;exact bodyPost_ret (v := .tuple #[.int .i64 0, .bool false]) (by simp [results, Tryz.results56, go_sem]) rfl ⟨rfl, gE⟩
 ·obtain rfl : O = none := by rw [HO.out]; exact Zxe hno
  clear hno HO;go_wp2_with fail;exact bodyPost_ret (v := .tuple #[.int .i64 0, .bool false]) (by simp [results, Tryz.results56, go_sem]) rfl ⟨rfl, g1⟩
def Ki (d : Dd) : Bool := if d.kind = 3 then decide (1 ≤ d.key ∧ d.key ≤ 255 ∧ 1 ≤ d.num ∧ d.num ≤ 60000) else decide (1 ≤ d.key ∧ d.key ≤ 255 ∧ d.num = 0)
def Za1 (k : Int) : Int := if k = 1 then 8 else 0
theorem Zcz (d : Dd) : Z1 d = if d.kind < 1 ∨ 3 < d.kind then 1 else if Ki d = false then 3 else if Za1 d.kind < (d.data.length : Int) then 4 else 0 := by
 unfold Z1 Ki Za1;by_cases hk : d.kind < 1 ∨ 3 < d.kind
 ·rw [if_pos hk, if_pos hk]
 ·rw [if_neg hk, if_neg hk];by_cases h3 : d.kind = 3
  ·rw [if_pos h3, if_pos h3, if_pos h3, if_neg (show ¬ d.kind = 1 by omega)];by_cases hr : 1 ≤ d.key ∧ d.key ≤ 255 ∧ 1 ≤ d.num ∧ d.num ≤ 60000
   ·rw [if_neg (show ¬ (d.key < 1 ∨ 255 < d.key ∨ d.num < 1 ∨ 60000 < d.num) by omega), decide_eq_true hr, if_neg (show ¬ true = false by simp)];by_cases h0 : d.data.length = 0
    ·rw [if_neg (by omega), if_neg (by omega)]
    ·rw [if_pos (by omega), if_pos (by omega)]
   ·rw [if_pos (show d.key < 1 ∨ 255 < d.key ∨ d.num < 1 ∨ 60000 < d.num by omega), decide_eq_false hr, if_pos rfl]
  ·rw [if_neg h3, if_neg h3, if_neg h3];by_cases hr : 1 ≤ d.key ∧ d.key ≤ 255 ∧ d.num = 0
   ·rw [if_neg (show ¬ (d.key < 1 ∨ 255 < d.key ∨ d.num < 0 ∨ 0 < d.num) by omega), decide_eq_true hr, if_neg (show ¬ true = false by simp)];by_cases h1 : d.kind = 1
    ·rw [if_pos h1];by_cases h8 : 8 < d.data.length
     ·rw [if_pos (by omega), if_pos (by omega)]
     ·rw [if_neg (by omega), if_neg (by omega)]
    ·rw [if_neg h1];by_cases h0 : d.data.length = 0
     ·rw [if_neg (by omega), if_neg (by omega)]
     ·rw [if_pos (by omega), if_pos (by omega)]
   ·rw [if_pos (show d.key < 1 ∨ 255 < d.key ∨ d.num < 0 ∨ 0 < d.num by omega), decide_eq_false hr, if_pos rfl]
theorem Ku (k y n : Int) (l : List UInt8) (v : Value) (w : World) :
  Calls Tryz.prog 58 #[.agg #[.int .i64 k, .int .i64 y, .int .i64 n, v]] w fun e w' => e = .returned (.bool (Ki ⟨k, y, n, l⟩)) ∧ Zj w w' := by
 go_enter Tryz.func58, Tryz.ntmps58;go_wp2;all_goals go_ret
 all_goals refine ⟨?_, Zd _ _⟩
 all_goals simp_all [Ki]
 all_goals first | omega | (split <;> omega) | (rw [Bool.eq_iff_iff]; simp; done) | (rw [Bool.eq_iff_iff]; simp; omega)
theorem Zan (k : Int) (w : World) :
  Calls Tryz.prog 59 #[.int .i64 k] w fun e w' => e = .returned (.int .i64 (Za1 k)) ∧ w = w' := by
 go_enter Tryz.func59, Tryz.ntmps59;go_wp2;all_goals go_ret
 all_goals simp_all [Za1]
theorem Zls (k y n : Int) (l : List UInt8) (v : Value) (w : World) (hk : k < 1 ∨ 3 < k) :
  Calls Tryz.prog 34 #[.agg #[.int .i64 k, .int .i64 y, .int .i64 n, v]] w fun e w' => e = .returned (.int .i64 (Z1 ⟨k, y, n, l⟩)) ∧ Zj w w' := by
 have HW : Hid (Z1 ⟨k, y, n, l⟩ = 1) := by show Z1 _ = 1; rw [Zcz, if_pos (by exact hk)]
 have d1 : (k != 1) = true := by simp; omega
 have d2 : (k != 2) = true := by simp; omega
 have d3 : (k != 3) = true := by simp; omega
 go_enter Tryz.func34, Tryz.ntmps34;go_wp2_with fail;go_ret;exact ⟨Xd HW.out.symm, Zd _ _⟩
theorem Zrw (k y n : Int) (l : List UInt8) (v : Value) (w : World) (hk : 1 ≤ k ∧ k ≤ 3) (hv : Bytes w v l) :
  Calls Tryz.prog 34 #[.agg #[.int .i64 k, .int .i64 y, .int .i64 n, v]] w fun e w' => e = .returned (.int .i64 (Z1 ⟨k, y, n, l⟩)) ∧ Zj w w' := by
 obtain ⟨ao, cap, rfl, -, -⟩ := Yt hv;clear hv;have HK : Hid (k = 1 ∨ k = 2 ∨ k = 3) := by show _ ∨ _; omega
 have hw : Z1 ⟨k, y, n, l⟩ = if Ki ⟨k, y, n, l⟩ = false then 3 else if Za1 k < (l.length : Int) then 4 else 0 := by
  rw [Zcz, if_neg (by simp; omega)]
 clear hk;cases hr : Ki ⟨k, y, n, l⟩ with
 | false =>
  have HF : Hid (Z1 ⟨k, y, n, l⟩ = 3) := by show Z1 _ = 3; rw [hw, hr]; rfl
  have HR : Hid (Ki ⟨k, y, n, l⟩ = false) := hr;clear hw hr;rcases HK.out with h | h | h
  all_goals
   first
    | (have d1 : (k != 1) = false := by simp [h])
    | (have d1 : (k != 1) = true := by simp [h]); (have d2 : (k != 2) = false := by simp [h])
    | (have d1 : (k != 1) = true := by simp [h]); (have d2 : (k != 2) = true := by simp [h]); (have d3 : (k != 3) = false := by simp [h])
   clear h;go_enter Tryz.func34, Tryz.ntmps34;go_wp2_with fail;refine (Ku k y n l _ _).mono ?_;rw [HR.out];rintro e w1 ⟨rfl, g1⟩;go_wp2_with fail;go_ret;exact ⟨Xd HF.out.symm, (Zd _ _).trans g1⟩
 | true =>
  have HW : Hid (Z1 ⟨k, y, n, l⟩ = if Za1 k < (l.length : Int) then 4 else 0) := by show Z1 _ = _; rw [hw, hr]; rfl
  have HR : Hid (Ki ⟨k, y, n, l⟩ = true) := hr;clear hw hr;rcases HK.out with h | h | h
  ·have d1 : (k != 1) = false := by simp [h]
   clear h;go_enter Tryz.func34, Tryz.ntmps34;go_wp2_with fail;refine (Ku k y n l _ _).mono ?_;rw [HR.out];rintro e w1 ⟨rfl, g1⟩;have g : Zj w w1 := (Zd _ _).trans g1;have hc0 : w1.cell? ⟨w.heap.size, 0, none⟩ = some (.int .i64 k) := (Below.cell g1 (p := ⟨w.heap.size, 0, none⟩) (by simp)).trans (by simp);have hc3 : w1.cell? ⟨w.heap.size, 3, none⟩ = some (.slice ao l.length cap) := (Below.cell g1 (p := ⟨w.heap.size, 3, none⟩) (by simp)).trans (by simp);clear g1;go_wp2_with fail;refine Zz [ex (.pointer (some ⟨w.heap.size, 3, none⟩)), ex (.slice ao l.length cap), ex (.int .i64 l.length), ex (.pointer (some ⟨w.heap.size, 0, none⟩)), ex (.int .i64 k), ex (.int .i64 (Za1 k)), ex (.bool (decide (Za1 k < (l.length : Int)))), ex (.bool (decide (Za1 k < (l.length : Int))))] (by kernel_rfl) (by kernel_rfl) ⟨Zg _, Zg _, Zg _, Zg _, Zg _, Zg _, Zg _, Zg _, trivial⟩ ?_ ?_
   ·refine ⟨?_, ?_, ?_, ?_, ?_, ?_, ?_, ?_, trivial⟩
    ·refine Zb rfl fun a _ _ _ B A => ?_;have e1 : a (.tmp 1) = .pointer (some ⟨w.heap.size, 0, none⟩) := Zp A 1 rfl;refine Zi ?_ rfl;clear A B;go_simp;all_goals go_arith
    ·refine Zb rfl fun a _ _ _ B A => ?_;have e22 : a (.tmp 22) = _ := Zc A 0 rfl;have h1 := (Below.cell B (Zr hc3)).trans hc3;refine Zi ?_ rfl;clear A B;go_simp;all_goals go_arith
    ·refine Zb rfl fun a _ _ _ B A => ?_;have e23 : a (.tmp 23) = _ := Zc A 1 rfl;refine Zi ?_ rfl;clear A B;go_simp;all_goals go_arith
    ·refine Zb rfl fun a _ _ _ B A => ?_;have e1 : a (.tmp 1) = .pointer (some ⟨w.heap.size, 0, none⟩) := Zp A 1 rfl;refine Zi ?_ rfl;clear A B;go_simp;all_goals go_arith
    ·refine Zb rfl fun a _ _ _ B A => ?_;have e25 : a (.tmp 25) = _ := Zc A 3 rfl;have h1 := (Below.cell B (Zr hc0)).trans hc0;refine Zi ?_ rfl;clear A B;go_simp;all_goals go_arith
    ·refine Zb rfl fun a B _ _ C A => ?_;have e26 : a (.tmp 26) = _ := Zc A 4 rfl;refine Yj (f := 59) (args := #[.int .i64 k]) ?_ ((Zan k B).mono ?_)
     ·clear A C;go_simp;all_goals go_arith
     ·rintro e w2 ⟨rfl, rfl⟩;exact ⟨_, rfl, Zj.refl _, rfl⟩
    ·refine Zb rfl fun a _ _ _ B A => ?_;have e24 : a (.tmp 24) = _ := Zc A 2 rfl;have e27 : a (.tmp 27) = _ := Zc A 5 rfl;refine Zi ?_ rfl;clear A B;go_simp;all_goals go_arith
    ·exact Zb rfl fun a _ _ _ _ A => Yk rfl (Zc A 6 rfl)
   ·intro vs w' hg ht;obtain ⟨(r22 : vs 0 = _), (r23 : vs 1 = _), (r24 : vs 2 = _), (r25 : vs 3 = _), (r26 : vs 4 = _), (r27 : vs 5 = _), (r28 : vs 6 = _), (r21 : vs 7 = _), -⟩ := ht;simp only [Z8, Act.put, List.setIfInBounds_toArray, List.set_cons_zero, List.set_cons_succ, r22, r23, r24, r25, r26, r27, r28, r21];clear r22 r23 r24 r25 r26 r27 r28 r21;have g2 : Zj w w' := g.trans hg;clear hg g hc0 hc3;by_cases hlt : Za1 k < (l.length : Int)
    ·have HF : Hid (Z1 ⟨k, y, n, l⟩ = 4) := by show Z1 _ = 4; rw [HW.out, if_pos hlt]
     rw [decide_eq_true hlt];clear hlt;go_wp2;go_ret;exact ⟨Xd HF.out.symm, g2⟩
    ·have HF : Hid (Z1 ⟨k, y, n, l⟩ = 0) := by show Z1 _ = 0; rw [HW.out, if_neg hlt]
     rw [decide_eq_false hlt];clear hlt;go_wp2;go_ret;exact ⟨Xd HF.out.symm, g2⟩
  ·have d1 : (k != 1) = true := by simp [h]
   have d2 : (k != 2) = false := by simp [h]
   clear h;go_enter Tryz.func34, Tryz.ntmps34;go_wp2_with fail;refine (Ku k y n l _ _).mono ?_;rw [HR.out];rintro e w1 ⟨rfl, g1⟩;have g : Zj w w1 := (Zd _ _).trans g1;have hc0 : w1.cell? ⟨w.heap.size, 0, none⟩ = some (.int .i64 k) := (Below.cell g1 (p := ⟨w.heap.size, 0, none⟩) (by simp)).trans (by simp);have hc3 : w1.cell? ⟨w.heap.size, 3, none⟩ = some (.slice ao l.length cap) := (Below.cell g1 (p := ⟨w.heap.size, 3, none⟩) (by simp)).trans (by simp);clear g1;go_wp2_with fail;refine Zz [ex (.pointer (some ⟨w.heap.size, 3, none⟩)), ex (.slice ao l.length cap), ex (.int .i64 l.length), ex (.pointer (some ⟨w.heap.size, 0, none⟩)), ex (.int .i64 k), ex (.int .i64 (Za1 k)), ex (.bool (decide (Za1 k < (l.length : Int)))), ex (.bool (decide (Za1 k < (l.length : Int))))] (by kernel_rfl) (by kernel_rfl) ⟨Zg _, Zg _, Zg _, Zg _, Zg _, Zg _, Zg _, Zg _, trivial⟩ ?_ ?_
   ·refine ⟨?_, ?_, ?_, ?_, ?_, ?_, ?_, ?_, trivial⟩
    ·refine Zb rfl fun a _ _ _ B A => ?_;have e1 : a (.tmp 1) = .pointer (some ⟨w.heap.size, 0, none⟩) := Zp A 1 rfl;refine Zi ?_ rfl;clear A B;go_simp;all_goals go_arith
    ·refine Zb rfl fun a _ _ _ B A => ?_;have e22 : a (.tmp 22) = _ := Zc A 0 rfl;have h1 := (Below.cell B (Zr hc3)).trans hc3;refine Zi ?_ rfl;clear A B;go_simp;all_goals go_arith
    ·refine Zb rfl fun a _ _ _ B A => ?_;have e23 : a (.tmp 23) = _ := Zc A 1 rfl;refine Zi ?_ rfl;clear A B;go_simp;all_goals go_arith
    ·refine Zb rfl fun a _ _ _ B A => ?_;have e1 : a (.tmp 1) = .pointer (some ⟨w.heap.size, 0, none⟩) := Zp A 1 rfl;refine Zi ?_ rfl;clear A B;go_simp;all_goals go_arith
    ·refine Zb rfl fun a _ _ _ B A => ?_;have e25 : a (.tmp 25) = _ := Zc A 3 rfl;have h1 := (Below.cell B (Zr hc0)).trans hc0;refine Zi ?_ rfl;clear A B;go_simp;all_goals go_arith
    ·refine Zb rfl fun a B _ _ C A => ?_;have e26 : a (.tmp 26) = _ := Zc A 4 rfl;refine Yj (f := 59) (args := #[.int .i64 k]) ?_ ((Zan k B).mono ?_)
     ·clear A C;go_simp;all_goals go_arith
     ·rintro e w2 ⟨rfl, rfl⟩;exact ⟨_, rfl, Zj.refl _, rfl⟩
    ·refine Zb rfl fun a _ _ _ B A => ?_;have e24 : a (.tmp 24) = _ := Zc A 2 rfl;have e27 : a (.tmp 27) = _ := Zc A 5 rfl;refine Zi ?_ rfl;clear A B;go_simp;all_goals go_arith
    ·exact Zb rfl fun a _ _ _ _ A => Yk rfl (Zc A 6 rfl)
   ·intro vs w' hg ht;obtain ⟨(r22 : vs 0 = _), (r23 : vs 1 = _), (r24 : vs 2 = _), (r25 : vs 3 = _), (r26 : vs 4 = _), (r27 : vs 5 = _), (r28 : vs 6 = _), (r21 : vs 7 = _), -⟩ := ht;simp only [Z8, Act.put, List.setIfInBounds_toArray, List.set_cons_zero, List.set_cons_succ, r22, r23, r24, r25, r26, r27, r28, r21];clear r22 r23 r24 r25 r26 r27 r28 r21;have g2 : Zj w w' := g.trans hg;clear hg g hc0 hc3;by_cases hlt : Za1 k < (l.length : Int)
    ·have HF : Hid (Z1 ⟨k, y, n, l⟩ = 4) := by show Z1 _ = 4; rw [HW.out, if_pos hlt]
     rw [decide_eq_true hlt];clear hlt;go_wp2;go_ret;exact ⟨Xd HF.out.symm, g2⟩
    ·have HF : Hid (Z1 ⟨k, y, n, l⟩ = 0) := by show Z1 _ = 0; rw [HW.out, if_neg hlt]
     rw [decide_eq_false hlt];clear hlt;go_wp2;go_ret;exact ⟨Xd HF.out.symm, g2⟩
  ·have d1 : (k != 1) = true := by simp [h]
   have d2 : (k != 2) = true := by simp [h]
   have d3 : (k != 3) = false := by simp [h]
   clear h;go_enter Tryz.func34, Tryz.ntmps34;go_wp2_with fail;refine (Ku k y n l _ _).mono ?_;rw [HR.out];rintro e w1 ⟨rfl, g1⟩;have g : Zj w w1 := (Zd _ _).trans g1;have hc0 : w1.cell? ⟨w.heap.size, 0, none⟩ = some (.int .i64 k) := (Below.cell g1 (p := ⟨w.heap.size, 0, none⟩) (by simp)).trans (by simp);have hc3 : w1.cell? ⟨w.heap.size, 3, none⟩ = some (.slice ao l.length cap) := (Below.cell g1 (p := ⟨w.heap.size, 3, none⟩) (by simp)).trans (by simp);clear g1;go_wp2_with fail;refine Zz [ex (.pointer (some ⟨w.heap.size, 3, none⟩)), ex (.slice ao l.length cap), ex (.int .i64 l.length), ex (.pointer (some ⟨w.heap.size, 0, none⟩)), ex (.int .i64 k), ex (.int .i64 (Za1 k)), ex (.bool (decide (Za1 k < (l.length : Int)))), ex (.bool (decide (Za1 k < (l.length : Int))))] (by kernel_rfl) (by kernel_rfl) ⟨Zg _, Zg _, Zg _, Zg _, Zg _, Zg _, Zg _, Zg _, trivial⟩ ?_ ?_
   ·refine ⟨?_, ?_, ?_, ?_, ?_, ?_, ?_, ?_, trivial⟩
    ·refine Zb rfl fun a _ _ _ B A => ?_;have e1 : a (.tmp 1) = .pointer (some ⟨w.heap.size, 0, none⟩) := Zp A 1 rfl;refine Zi ?_ rfl;clear A B;go_simp;all_goals go_arith
    ·refine Zb rfl fun a _ _ _ B A => ?_;have e22 : a (.tmp 22) = _ := Zc A 0 rfl;have h1 := (Below.cell B (Zr hc3)).trans hc3;refine Zi ?_ rfl;clear A B;go_simp;all_goals go_arith
    ·refine Zb rfl fun a _ _ _ B A => ?_;have e23 : a (.tmp 23) = _ := Zc A 1 rfl;refine Zi ?_ rfl;clear A B;go_simp;all_goals go_arith
    ·refine Zb rfl fun a _ _ _ B A => ?_;have e1 : a (.tmp 1) = .pointer (some ⟨w.heap.size, 0, none⟩) := Zp A 1 rfl;refine Zi ?_ rfl;clear A B;go_simp;all_goals go_arith
    ·refine Zb rfl fun a _ _ _ B A => ?_;have e25 : a (.tmp 25) = _ := Zc A 3 rfl;have h1 := (Below.cell B (Zr hc0)).trans hc0;refine Zi ?_ rfl;clear A B;go_simp;all_goals go_arith
    ·refine Zb rfl fun a B _ _ C A => ?_;have e26 : a (.tmp 26) = _ := Zc A 4 rfl;refine Yj (f := 59) (args := #[.int .i64 k]) ?_ ((Zan k B).mono ?_)
     ·clear A C;go_simp;all_goals go_arith
     ·rintro e w2 ⟨rfl, rfl⟩;exact ⟨_, rfl, Zj.refl _, rfl⟩
    ·refine Zb rfl fun a _ _ _ B A => ?_;have e24 : a (.tmp 24) = _ := Zc A 2 rfl;have e27 : a (.tmp 27) = _ := Zc A 5 rfl;refine Zi ?_ rfl;clear A B;go_simp;all_goals go_arith
    ·exact Zb rfl fun a _ _ _ _ A => Yk rfl (Zc A 6 rfl)
   ·intro vs w' hg ht;obtain ⟨(r22 : vs 0 = _), (r23 : vs 1 = _), (r24 : vs 2 = _), (r25 : vs 3 = _), (r26 : vs 4 = _), (r27 : vs 5 = _), (r28 : vs 6 = _), (r21 : vs 7 = _), -⟩ := ht;simp only [Z8, Act.put, List.setIfInBounds_toArray, List.set_cons_zero, List.set_cons_succ, r22, r23, r24, r25, r26, r27, r28, r21];clear r22 r23 r24 r25 r26 r27 r28 r21;have g2 : Zj w w' := g.trans hg;clear hg g hc0 hc3;by_cases hlt : Za1 k < (l.length : Int)
    ·have HF : Hid (Z1 ⟨k, y, n, l⟩ = 4) := by show Z1 _ = 4; rw [HW.out, if_pos hlt]
     rw [decide_eq_true hlt];clear hlt;go_wp2;go_ret;exact ⟨Xd HF.out.symm, g2⟩
    ·have HF : Hid (Z1 ⟨k, y, n, l⟩ = 0) := by show Z1 _ = 0; rw [HW.out, if_neg hlt]
     rw [decide_eq_false hlt];clear hlt;go_wp2;go_ret;exact ⟨Xd HF.out.symm, g2⟩
theorem Zjr : Zyy := by
 rintro ⟨k, y, n, l⟩ a c w _ hb;by_cases hk : 1 ≤ k ∧ k ≤ 3
 ·exact Zrw k y n l _ w hk hb
 ·exact Zls k y n l _ w (by omega)
end Go.Proofs.YtpdnapbchcdhladGreatDoor
