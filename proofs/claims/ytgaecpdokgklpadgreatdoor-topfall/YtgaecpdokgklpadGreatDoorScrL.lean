import Derived.Test.YtgaecpdokgklpadGreatDoorTAlive
import Derived.Test.YtgaecpdokgklpadGreatDoorIdxH
import Derived.Lib.ItoaLen
set_option maxHeartbeats 8000000
namespace Go.Proofs.YtgaecpdokgklpadGreatDoor
set_option maxRecDepth 100000
open Go.RowKit
open Plain Reg
theorem Zms (S : Nat → Prop) (s : St) (v : Value) (w : World) (hS : ∀ b, S b → b < w.heap.size) (hs : Zw S s v w) (hA : s.At) :
  Calls Tryz.prog 10 #[v] w fun r w' => ∃ v', r = .returned (.tuple #[v', .agg (Zcw (Zcl s 6))]) ∧ Zw (Z7 S w.heap.size) (Y2 6 s) v' w' ∧ Zj w w' := by
 obtain ⟨ab, cb, al, cl, ai, ci, rfl, -, -, -⟩ := hs.form;have g0 := (Zx w (.cells #[.slice ab s.dk.blocks.length cb, .slice al s.dk.late.length cl, .slice ai s.idx.length ci, .int .i64 s.next] 30) Y0).trans (Zx _ Zbx Zbx);have hs0 := Zk w #[.slice ab s.dk.blocks.length cb, .slice al s.dk.late.length cl, .slice ai s.idx.length ci, .int .i64 s.next] 30;have hz0 := Zk (w.alloc (.cells #[.slice ab s.dk.blocks.length cb, .slice al s.dk.late.length cl, .slice ai s.idx.length ci, .int .i64 s.next] 30)) #[.slice none 0 0, .slice none 0 0, .slice none 0 0, .int .i64 0] 30;have hq0 := Zk ((w.alloc (.cells #[.slice ab s.dk.blocks.length cb, .slice al s.dk.late.length cl, .slice ai s.idx.length ci, .int .i64 s.next] 30)).alloc Y0) #[.int .i64 0, .int .i64 0, .int .i64 0, .int .i64 0, .int .i64 0, .int .i64 0] 45;have hr0 := Zk (((w.alloc (.cells #[.slice ab s.dk.blocks.length cb, .slice al s.dk.late.length cl, .slice ai s.idx.length ci, .int .i64 s.next] 30)).alloc Y0).alloc Zbx) #[.int .i64 0, .int .i64 0, .int .i64 0, .int .i64 0, .int .i64 0, .int .i64 0] 45;have hs1 := (((Zd _ Y0).trans (Zx _ Zbx Zbx)).block _ (Zb hs0)).trans hs0;have hz1 := ((Zx _ Zbx Zbx).block _ (Zb hz0)).trans hz0;have hq1 := ((Zd _ Zbx).block _ (Zb hq0)).trans hq0;rw [World.size_alloc] at hz1;rw [World.size_alloc, World.size_alloc] at hq1;rw [World.size_alloc, World.size_alloc, World.size_alloc] at hr0;have hT0 : Zw (Z7 S (w.heap.size + 4)) s _ _ := (hs.grow g0).mono fun b h => .inl h
 have HAT : Hid (s.At) := hA;obtain ⟨U, hU⟩ : ∃ U, U = Y2 6 s := ⟨_, rfl⟩;obtain ⟨f, hf⟩ : ∃ f, f = Zcl s 6 := ⟨_, rfl⟩;rw [← hU, ← hf];have HU : Hid _ := hU;have Hf : Hid _ := hf;clear hs0 hz0 hq0 hs hA hU hf;go_enter Tryz.func10, Tryz.ntmps10;go_wp2_with fail;generalize World.alloc (World.alloc (World.alloc (World.alloc w _) _) _) _ = W at *;go_loopw [7] (fun i wr => ∃ k : Nat, k ≤ 6 ∧ i = .int .i64 (k : Int) ∧ Zj w wr ∧ (∃ b5 e5 l5 m5 i5 j5, wr.heap[w.heap.size]? = some (.cells #[.slice b5 (Y2 k s).dk.blocks.length e5, .slice l5 (Y2 k s).dk.late.length m5, .slice i5 (Y2 k s).idx.length j5, .int .i64 (Y2 k s).next] 30 (0, 0)) ∧ Zw (Z7 S (w.heap.size + 4)) (Y2 k s) (.agg #[.slice b5 (Y2 k s).dk.blocks.length e5, .slice l5 (Y2 k s).dk.late.length m5, .slice i5 (Y2 k s).idx.length j5, .int .i64 (Y2 k s).next]) wr) ∧ wr.heap[w.heap.size + 1]? = some Y0 ∧ wr.heap[w.heap.size + 2]? = some Zbx ∧ wr.heap[w.heap.size + 3]? = some (.cells (Zcw (Zcl s k)) 45 (0, 0))) (fun i _ => 6 - (intOf i).toNat)
 case atStart => exact ⟨0, by omega, rfl, g0, ⟨_, _, _, _, _, _, hs1, hT0⟩, hz1, hq1, hr0⟩
 case round =>
  clear g0 hs1 hT0 hz1 hq1 hr0;obtain ⟨k, hk, rfl, gw, ⟨b5, e5, l5, m5, i5, j5, hs1, hT1⟩, hz1, hq1, hr1⟩ := hrel;by_cases hlt : k < 6
  ·have HT : Hid (Y2 (k + 1) s = (Y2 k s).scrub) := rfl;have HAk : Hid ((Y2 k s).At) := Jv HAT.out k;have HC : Hid (Zcw (Zcl s (k + 1)) = Zcw (fun i => Zcl s k i + (if (Y2 k s).dk.how (Y2 k s).next = i then 1 else 0))) := rfl;have hHb := Zxi (Y2 k s).dk (Y2 k s).next;generalize Y2 k s = t at *;obtain ⟨z0, z1, z2, z3⟩ := Z8 hs1 rfl rfl rfl rfl;go_wp2_with fail;refine (Zmr _ t _ wr (fun b h => h.2) hT1.capd HAk.out).mono ?_;obtain ⟨T, hTT⟩ : ∃ T, T = t.scrub := ⟨_, rfl⟩;rw [← hTT] at HT ⊢;generalize t.dk.how t.next = H2 at *;rintro r w1 ⟨v1, rfl, h1, g1⟩;obtain ⟨b7, e7, l7, m7, i7, j7, hv1, -, -, -⟩ := h1.form;subst hv1;have g2 := Zd w1 (.cells #[.slice b7 T.dk.blocks.length e7, .slice l7 T.dk.late.length m7, .slice i7 T.idx.length j7, .int .i64 T.next] 30);have hxA := Zk w1 #[.slice b7 T.dk.blocks.length e7, .slice l7 T.dk.late.length m7, .slice i7 T.idx.length j7, .int .i64 T.next] 30;have g12 := g1.trans g2;have hsA := (g12.block _ (Zb hs1)).trans hs1;have hzA := (g12.block _ (Zb hz1)).trans hz1;have hqA := (g12.block _ (Zb hq1)).trans hq1;have hrA := (g12.block _ (Zb hr1)).trans hr1;have HWR : Hid (w.heap.size + 4 ≤ wr.heap.size) := Zb hr1;have HG9 : Hid (w.heap.size + 4 ≤ w1.heap.size) := Nat.le_trans HWR.out g1.size;have hTA : Zw (Z7 S (w.heap.size + 4)) T _ _ := (h1.grow g2).mono fun b h => h.elim (fun x => x.1) (fun x => .inr (Nat.le_trans HWR.out x))
   have gwA := gw.trans g12;clear z0 z1 z2 z3 hs1 hT1 hz1 hq1 hr1 h1 g1 g2 g12 gw hTT;go_upto_region 5 with fail
   obtain ⟨G9, hG9⟩ : ∃ G9, G9 = w1.heap.size := ⟨_, rfl⟩;rw [← hG9] at HG9 hxA ⊢;clear hG9;generalize World.alloc w1 _ = W2 at *;have hbd := Zny s k H2;obtain ⟨j, rfl⟩ : ∃ j : Nat, H2 = (j : Int) := ⟨H2.toNat, by omega⟩;have hj6 : j < 6 := by omega
   clear hHb;obtain ⟨y0, f0, hr3⟩ := Zw1 hrA hj6;have hb3 := (Zp.refl (w.heap.size + 3) W2).set j none (.int .i64 (Zcl s k (j : Int) + 1));generalize Zcl s k (j : Int) = cj at *;have hs3 := (hb3.block _ (Zb hsA) (by omega)).trans hsA;have hz3 := (hb3.block _ (Zb hzA) (by omega)).trans hzA;have hq3 := (hb3.block _ (Zb hqA) (by omega)).trans hqA;have hx3 := (hb3.block _ (Zb hxA) (by have := HG9.out; omega)).trans hxA;have hT3 := hTA.but hb3 (Xd (fun b h => by have := hS b h; omega) (by omega));have gw3 := hb3.grow gwA (by omega);clear hsA hzA hqA hrA hxA hTA gwA hb3;go_upto_region 6 with fail
   clear y0 f0;generalize World.setCell _ _ _ = W3 at *;obtain ⟨hs4, hb4⟩ := Yg hs3 (.slice b7 T.dk.blocks.length e7) (.slice l7 T.dk.late.length m7) (.slice i7 T.idx.length j7) (.int .i64 T.next);have hz4 := (hb4.block _ (Zb hz3) (by omega)).trans hz3;have hq4 := (hb4.block _ (Zb hq3) (by omega)).trans hq3;have hr4 := (hb4.block _ (Zb hr3) (by omega)).trans hr3;have hT4 := hT3.but hb4 (Xd hS (by omega));have gw4 := hb4.grow gw3 (by omega);obtain ⟨x0, x1, x2, x3⟩ := Z8 hx3 rfl rfl rfl rfl;obtain ⟨v0, v1, v2, v3⟩ := Z8 hs3 rfl rfl rfl rfl;obtain ⟨u0, u1, u2, u3⟩ := Yw hs3;have cs := Zv;clear hs3 hz3 hq3 hr3 hx3 hT3 gw3 hb4;go_wp2_with fail;go_roundw
   case rel => exact ⟨k + 1, by omega, by go_num, gw4, ⟨_, _, _, _, _, _, by rw [HT.out]; exact hs4, by rw [HT.out]; exact hT4⟩, hz4, hq4, by rw [HC.out]; exact hr4⟩
   case measure => simp [intOf]; omega
  ·obtain rfl : k = 6 := by omega
   clear hlt hk;rw [← HU.out] at hs1 hT1;rw [← Hf.out] at hr1;clear HU Hf;go_wp2_with fail
   refine Y5 [px (.agg #[.slice b5 U.dk.blocks.length e5, .slice l5 U.dk.late.length m5, .slice i5 U.idx.length j5, .int .i64 U.next]), px (.agg (Zcw f)), pl ((fun _ _ => True)), pl ((fun _ _ => True))] [none, none, some ((Zal (w.heap.size + 1))), some ((Zal (w.heap.size + 2)))] (fun dn w' => Zj w w' ∧ w'.heap[w.heap.size]? = some (.cells #[.slice b5 U.dk.blocks.length e5, .slice l5 U.dk.late.length m5, .slice i5 U.idx.length j5, .int .i64 U.next] 30 (0, 0)) ∧ w'.heap[w.heap.size + 3]? = some (.cells (Zcw f) 45 (0, 0)) ∧ Zw (Z7 S (w.heap.size + 4)) U (.agg #[.slice b5 U.dk.blocks.length e5, .slice l5 U.dk.late.length m5, .slice i5 U.idx.length j5, .int .i64 U.next]) w' ∧ (dn 2 = false → w'.heap[w.heap.size + 1]? = some Y0) ∧ (dn 2 = true → w'.heap[w.heap.size + 1]? = some (.cells #[.slice b5 U.dk.blocks.length e5, .slice l5 U.dk.late.length m5, .slice i5 U.idx.length j5, .int .i64 U.next] 30 (0, 0))) ∧ (dn 3 = false → w'.heap[w.heap.size + 2]? = some Zbx) ∧ (dn 3 = true → w'.heap[w.heap.size + 2]? = some (.cells (Zcw f) 45 (0, 0)))) (by kernel_rfl) (by kernel_rfl) ⟨se, se, Yn ((fun _ _ _ _ _ => trivial)), Yn ((fun _ _ _ _ _ => trivial)), trivial⟩ ⟨⟨(fun w => Zp.refl _ w), ⟨x5, x5, .inl (by kernel_rfl), .inl (by kernel_rfl), trivial⟩⟩, ⟨(fun w => Zp.refl _ w), ⟨x5, x5, .inr ((fun _ _ _ _ _ _ => trivial)), .inl (by kernel_rfl), trivial⟩⟩, trivial⟩ ⟨n5, n5, fun _ _ _ _ h => h, fun _ _ _ _ h => h, trivial⟩ ⟨gw.drew, hs1, hr1, hT1, fun _ => hz1, (fun h => by cases h), fun _ => hq1, (fun h => by cases h)⟩ ?_ ?_
   ·refine ⟨?_, ?_, ?_, ?_, trivial⟩
    ·refine Ze rfl fun a w' ek ef dn hr hg hin => ?_;have e1 : a (.tmp 1) = .pointer (some ⟨w.heap.size, 0, none⟩) := Zt hin 1 rfl;have z0 := Zh hg.2.1 0 _ rfl;have z1 := Zh hg.2.1 1 _ rfl;have z2 := Zh hg.2.1 2 _ rfl;have z3 := Zh hg.2.1 3 _ rfl;refine Zr ?_ hg rfl;clear hin hg hr;go_simp;all_goals go_arith
    ·refine Ze rfl fun a w' ek ef dn hr hg hin => ?_;have e4 : a (.tmp 4) = .pointer (some ⟨w.heap.size + 1 + 1 + 1, 0, none⟩) := Zt hin 4 rfl;have z0 := Zh hg.2.2.1 0 _ rfl;have z1 := Zh hg.2.2.1 1 _ rfl;have z2 := Zh hg.2.2.1 2 _ rfl;have z3 := Zh hg.2.2.1 3 _ rfl;have z4 := Zh hg.2.2.1 4 _ rfl;have z5 := Zh hg.2.2.1 5 _ rfl;refine Zr ?_ hg rfl;clear hin hg hr;go_simp;all_goals go_arith
    ·refine Ze rfl fun a w' ek ef dn hr hg hin => ?_;have e2 : a (.tmp 2) = .pointer (some ⟨w.heap.size + 1, 0, none⟩) := Zt hin 2 rfl;have e23 : a (.tmp 23) = _ := Zg hin 0 rfl;have hh := hg.2.2.2.2.1 hr.un;obtain ⟨hq1, hq2⟩ := Yg hh (.slice b5 U.dk.blocks.length e5) (.slice l5 U.dk.late.length m5) (.slice i5 U.idx.length j5) (.int .i64 U.next);obtain ⟨y0, y1, y2, y3⟩ := Z8 hh rfl rfl rfl rfl;obtain ⟨f0, f1, f2, f3⟩ := Yw hh;have cs := Zv;refine Y7 (w' := _) ?_ hq2 ⟨hq2.grow hg.1 (by omega), (hq2.block _ (Zb hg.2.1) (by omega)).trans hg.2.1, (hq2.block _ (Zb hg.2.2.1) (by omega)).trans hg.2.2.1, hg.2.2.2.1.but hq2 (Xd (fun b h => by have := hS b h; omega) (by omega)), (fun h => by simp [upd] at h), fun _ => hq1, fun h => (hq2.block _ (Zb (hg.2.2.2.2.2.2.1 h)) (by omega)).trans (hg.2.2.2.2.2.2.1 h), fun h => (hq2.block _ (Zb (hg.2.2.2.2.2.2.2 h)) (by omega)).trans (hg.2.2.2.2.2.2.2 h)⟩ trivial;clear hin hg hr hq1 hq2 hh;go_simp;all_goals go_arith
    ·refine Ze rfl fun a w' ek ef dn hr hg hin => ?_;have e3 : a (.tmp 3) = .pointer (some ⟨w.heap.size + 1 + 1, 0, none⟩) := Zt hin 3 rfl;have e24 : a (.tmp 24) = _ := Zg hin 1 rfl;have hh := hg.2.2.2.2.2.2.1 hr.un;obtain ⟨hq1, hq2⟩ := Ztz hh (.int .i64 (f 0)) (.int .i64 (f 1)) (.int .i64 (f 2)) (.int .i64 (f 3)) (.int .i64 (f 4)) (.int .i64 (f 5));obtain ⟨y0, y1, y2, y3, y4⟩ := Kl hh rfl rfl rfl rfl rfl;have y5 := Zh hh 5 _ rfl;obtain ⟨f0, f1, f2, f3⟩ := Yw hh;have f4 := Zu hh 4;have f5 := Zu hh 5;have cs := Zv;refine Y7 (w' := _) ?_ hq2 ⟨hq2.grow hg.1 (by omega), (hq2.block _ (Zb hg.2.1) (by omega)).trans hg.2.1, (hq2.block _ (Zb hg.2.2.1) (by omega)).trans hg.2.2.1, hg.2.2.2.1.but hq2 (Xd (fun b h => by have := hS b h; omega) (by omega)), fun h => (hq2.block _ (Zb (hg.2.2.2.2.1 h)) (by omega)).trans (hg.2.2.2.2.1 h), fun h => (hq2.block _ (Zb (hg.2.2.2.2.2.1 h)) (by omega)).trans (hg.2.2.2.2.2.1 h), (fun h => by simp [upd] at h), fun _ => hq1⟩ trivial;clear hin hg hr hq1 hq2 hh;go_simp;all_goals go_arith
   ·intro vs w' dn hdn hg ht;obtain ⟨q23, q24, qo2, qo3, -⟩ := ht;have r23 : vs 0 = .agg #[.slice b5 U.dk.blocks.length e5, .slice l5 U.dk.late.length m5, .slice i5 U.idx.length j5, .int .i64 U.next] := q23;have r24 : vs 1 = .agg (Zcw f) := q24;replace qo2 : ((fun _ _ => True)) (vs 2) w' := qo2;replace qo3 : ((fun _ _ => True)) (vs 3) w' := qo3;clear q23 q24;simp only [Z9, Act.put, List.setIfInBounds_toArray, List.set_cons_zero, List.set_cons_succ, r23, r24];clear r23 r24;have hz := hg.2.2.2.2.2.1 (hdn 2 (by decide));have hq := hg.2.2.2.2.2.2.2 (hdn 3 (by decide));obtain ⟨y0, y1, y2, y3⟩ := Z8 hz rfl rfl rfl rfl;obtain ⟨x0, x1, x2, x3, x4⟩ := Kl hq rfl rfl rfl rfl rfl;have x5 := Zh hq 5 _ rfl;have gE := hg.1;have hE := hg.2.2.2.1.mono (Yd (B := w.heap.size) (by omega));clear qo2 qo3 hdn hg hz hq hs1 hT1 hz1 hq1 hr1 gw;go_wp2_with fail;exact bodyPost_ret (v := .tuple #[.agg #[.slice b5 U.dk.blocks.length e5, .slice l5 U.dk.late.length m5, .slice i5 U.idx.length j5, .int .i64 U.next], .agg (Zcw f)]) (by simp [results, Tryz.results10, go_sem, x0, x1, x2, x3, x4, x5, y0, y1, y2, y3]) rfl ⟨_, rfl, hE, gE⟩
theorem Zxv : Zue := fun S s v w hS hs hA => Zms S s v w hS hs hA
def Zdn (V : World → Prop) : Prop := ∀ (n : Int) (w : World), V w → -9223372036854775808 ≤ n → n ≤ 9223372036854775807 →
 Calls Tryz.prog 86 #[.int .i64 n] w fun r w' => r = .returned (.string ⟨(Lib.itoa n).toArray⟩) ∧ Zj w w'
def Zx8 : List UInt8 := [48, 49, 50, 51, 52, 53, 54, 55, 56, 57, 97, 98, 99, 100, 101, 102]
theorem Zgu : ∀ (s : List UInt8), s.length % 2 = 1 → Q0 s = none
 | [], h => by simp at h
 | [_], _ => rfl
 | a :: b :: s, h => by
  unfold Q0;rw [Zgu s (by simp at h; omega)];cases Ki a <;> cases Ki b <;> rfl
theorem Zgv : ∀ (s : List UInt8) (j : Nat) (h : j < s.length), Ki s[j] = none → Q0 s = none
 | [], j, h, _ => by simp at h
 | [_], _, _, _ => rfl
 | a :: b :: s, 0, _, h => by
  unfold Q0;rw [show Ki a = none from h]
 | a :: b :: s, 1, _, h => by
  unfold Q0;rw [show Ki b = none from h];cases Ki a <;> rfl
 | a :: b :: s, j + 2, hj, h => by
  unfold Q0;rw [Zgv s j (by simp at hj; omega) h];cases Ki a <;> cases Ki b <;> rfl
theorem Zht {s : List UInt8} (hs : s ≠ [45]) {j : Nat} (h : j < s.length) (hb : Ki s[j] = none) : Kc s = none := by
 unfold Kc;rw [if_neg hs];split
 ·rfl
 ·exact Zgv s j h hb
theorem Zoo (w : World) (ev : Operand → Value) (o : Oper) (x y : Operand) (ho : o.op = Op.index 9 x y) (s : List UInt8) (i : Nat) (hi : i < s.length) (hx : ev x = .string ⟨s.toArray⟩) (hy : ev y = .int .i64 (i : Int)) :
  (execOp ev o).run Tryz.prog w = .ok (.value (.int .u8 (s[i].toNat : Int))) w := by
 unfold execOp;rw [ho];go_simp;rfl
def Zdp (V : World → Prop) : Prop := ∀ (s : List UInt8) (w : World), V w → s.length ≤ 140737488355328 →
 Calls Tryz.prog 85 #[.string ⟨s.toArray⟩] w fun r w' => (∃ n ev, r = .returned (.tuple #[.int .i64 n, ev]) ∧ ((Lib.atoiAll s = .ok n ∧ ev = .nilIface ∧ -9223372036854775808 ≤ n ∧ n ≤ 9223372036854775807) ∨ ((∀ v, Lib.atoiAll s ≠ .ok v) ∧ ∃ T p, ev = .iface T p))) ∧ Zj w w'
theorem Zhv (s : List UInt8) (f k : Nat) : (ByteArray.mk s.toArray).extract f k = ByteArray.mk ((s.drop f).take (k - f)).toArray := by
 apply ByteArray.ext;simp [ByteArray.data_extract]
theorem Zrv {w : List UInt8} {n : Int} (h : Lib.atoiAll w = .ok n) (h2 : Lib.itoa n = w) : Vn w = some n := by unfold Vn; rw [h]; exact if_pos h2
theorem Zjk {w : List UInt8} {n : Int} (h : Lib.atoiAll w = .ok n) (h2 : Lib.itoa n ≠ w) : Vn w = none := by unfold Vn; rw [h]; exact if_neg h2
theorem Zuz {w : List UInt8} (h : ∀ v, Lib.atoiAll w ≠ .ok v) : Vn w = none := by
 unfold Vn;split
 ·rename_i n hn; exact absurd hn (h n)
 ·rfl
def Zym : Option Int → Value
 | some n => .tuple #[.int .i64 n, .bool true]
 | none => .tuple #[.int .i64 0, .bool false]
theorem Zjl (V : World → Prop) (hV : ∀ w w', V w → Zj w w' → V w') (IT : Zdn V) (AT : Zdp V) (s : List UInt8) (w : World) (hw : V w) (hs : s.length ≤ 140737488355328) :
  Calls Tryz.prog 50 #[.string ⟨s.toArray⟩] w fun r w' => r = .returned (Zym (Vn s)) ∧ Zj w w' := by
 obtain ⟨O, hO⟩ : ∃ O, O = Vn s := ⟨_, rfl⟩;rw [← hO];have HO : Hid _ := hO;clear hO;go_enter Tryz.func50, Tryz.ntmps50;go_wp2_with fail;refine (AT s w hw hs).mono ?_;rintro r w1 ⟨⟨n, ev, rfl, hcase⟩, g1⟩;rcases hcase with ⟨hok, rfl, hn0, hn1⟩ | ⟨hno, T, p, rfl⟩
 ·have HOK : Hid _ := hok;clear hok;go_wp2_with fail;refine (IT n w1 (hV _ _ hw g1) hn0 hn1).mono ?_;rintro r w2 ⟨rfl, g2⟩;have gE := g1.trans g2;clear g1 g2;by_cases hit : Lib.itoa n = s
  ·obtain rfl : O = some n := by rw [HO.out]; exact Zrv HOK.out hit
   have dA : (Lib.itoa n == s) = true := by simp [hit]
   clear hit HOK HO;go_wp2_with fail;exact bodyPost_ret (v := .tuple #[.int .i64 n, .bool true]) (by simp [results, Tryz.results50, go_sem]) rfl ⟨rfl, gE⟩
  ·obtain rfl : O = none := by rw [HO.out]; exact Zjk HOK.out hit
   have dA : (Lib.itoa n == s) = false := by simp [hit]
   clear hit HOK HO;go_wp2_with fail;exact bodyPost_ret (v := .tuple #[.int .i64 0, .bool false]) (by simp [results, Tryz.results50, go_sem]) rfl ⟨rfl, gE⟩
 ·obtain rfl : O = none := by rw [HO.out]; exact Zuz hno
  clear hno HO;go_wp2_with fail;exact bodyPost_ret (v := .tuple #[.int .i64 0, .bool false]) (by simp [results, Tryz.results50, go_sem]) rfl ⟨rfl, g1⟩
end Go.Proofs.YtgaecpdokgklpadGreatDoor
