import Derived.Test.YtgaecpdokgklpadGreatDoorWrong
import Derived.Laws.CopyRow
set_option maxHeartbeats 8000000
namespace Go.Proofs.YtgaecpdokgklpadGreatDoor
set_option maxRecDepth 100000
open Go.RowKit
open Plain Reg
structure Zp (g : Nat) (w w' : World) : Prop where
 os : w'.os = w.os
 tape : w'.tape = w.tape
 output : w'.output = w.output
 size : w.heap.size ≤ w'.heap.size
 block : ∀ k, k < w.heap.size → k ≠ g → w'.heap[k]? = w.heap[k]?
theorem Zp.refl (g : Nat) (w : World) : Zp g w w := ⟨rfl, rfl, rfl, Nat.le_refl _, fun _ _ _ => rfl⟩
theorem Zp.trans {g : Nat} {a b c : World} (h : Zp g a b) (k : Zp g b c) : Zp g a c :=
 ⟨k.os.trans h.os, k.tape.trans h.tape, k.output.trans h.output, Nat.le_trans h.size k.size, fun i hi hg => (k.block i (Nat.lt_of_lt_of_le hi h.size) hg).trans (h.block i hi hg)⟩
theorem Zp.of {g : Nat} {a b : World} (h : Zj a b) : Zp g a b := ⟨h.os, h.tape, h.output, h.size, fun k hk _ => h.block k hk⟩
theorem Zp.row {g : Nat} {a b : World} (h : Zp g a b) (c : Array Value) : Zp g a (b.setRow g c) :=
 h.trans ⟨rfl, rfl, rfl, by simp [World.setRow], fun k _ hk => by simp only [World.setRow, Array.getElem?_modify]; rw [if_neg (fun e => hk e.symm)]⟩
theorem Zp.set {g : Nat} {a b : World} (h : Zp g a b) (o : Nat) (s) (x : Value) : Zp g a (b.setCell ⟨g, o, s⟩ x) :=
 h.trans ⟨rfl, rfl, rfl, by simp, fun k _ hk => Below.heap_setCell _ _ _ _ hk⟩
theorem Zp.cell {g : Nat} {a b : World} (h : Zp g a b) {p : Addr} (hp : p.block < a.heap.size) (hg : p.block ≠ g) : b.cell? p = a.cell? p := World.cell?_of_block (h.block _ hp hg)
theorem Zp.grow {g : Nat} {w a b : World} (h : Zp g a b) (hw : Zj w a) (hg : w.heap.size ≤ g) : Zj w b :=
 Below.trans (a := w) (b := a) hw ⟨h.os, h.tape, h.output, h.size, fun k hk => h.block k (Nat.lt_of_lt_of_le hk hw.size) (by omega)⟩
theorem Zxd (w : World) : (Instr.makeSlice 38 (.int .i64 14) (.int .i64 14)).run Tryz.prog w = .ok (.slice (some ⟨w.heap.size, 0, none⟩) 14 14)
  (w.alloc (.cells #[.int .u8 0, .int .u8 0, .int .u8 0, .int .u8 0, .int .u8 0, .int .u8 0, .int .u8 0, .int .u8 0, .int .u8 0, .int .u8 0, .int .u8 0, .int .u8 0, .int .u8 0, .int .u8 0] 5)) := by
 obtain ⟨i0, hif, hz0, hz1, hz2⟩ := info_parts J0;have h := run_make (P := Tryz.prog) w 38 5 i0 (.int .u8 0) Tryz.underlying38 hif hz0 .i64 .i64 14 14 (by omega) (by omega) (by rw [hz2]; omega) (by omega);rw [h, hz1, show madeCells (Value.int .u8 0).cells (Int.toNat 14 * 1) = #[.int .u8 0, .int .u8 0, .int .u8 0, .int .u8 0, .int .u8 0, .int .u8 0, .int .u8 0, .int .u8 0, .int .u8 0, .int .u8 0, .int .u8 0, .int .u8 0, .int .u8 0, .int .u8 0] from by kernel_rfl];rfl
theorem Zp.drew {g : Nat} {a b : World} (h : Zp g a b) : Zp g a b.drew := ⟨h.os, h.tape, h.output, h.size, h.block⟩
def X6 (w : World) (g : Nat) (xs : List UInt8) : Prop := w.heap[g]? = some (.cells (xs.map bv).toArray 5 (0, 0))
theorem X6.lt {w : World} {g : Nat} {xs : List UInt8} (h : X6 w g xs) : g < w.heap.size := by
 rcases Nat.lt_or_ge g w.heap.size with hl | hl
 ·exact hl
 ·unfold X6 at h; rw [Array.getElem?_eq_none hl] at h; cases h
theorem X6.grow {w w' : World} {g : Nat} {xs : List UInt8} (h : X6 w g xs) (hg : Zj w w') : X6 w' g xs := (hg.block g h.lt).trans h
theorem X6.cell {w : World} {g : Nat} {xs : List UInt8} (h : X6 w g xs) (i : Nat) (hi : i < xs.length) : w.cell? ⟨g, i, none⟩ = some (.int .u8 (xs[i].toNat : Int)) := by
 unfold X6 at h;simp [World.cell?, h, hi, bv]
theorem X6.frozen {w : World} {g : Nat} {xs : List UInt8} (h : X6 w g xs) (i : Nat) : w.frozen? ⟨g, i, none⟩ = false := by
 unfold X6 at h;simp [World.frozen?, h]
theorem X6.set {w : World} {g : Nat} {xs : List UInt8} (h : X6 w g xs) (i : Nat) (c : UInt8) : X6 (w.setCell ⟨g, i, none⟩ (.int .u8 (c.toNat : Int))) g (xs.set i c) := by
 unfold X6 at h ⊢;simp only [World.setCell, Array.getElem?_modify, if_true, h, Option.map_some];simp [List.map_set, bv]
theorem X6.row {w : World} {g : Nat} {xs ys : List UInt8} (h : X6 w g xs) : X6 (w.setRow g (ys.map bv).toArray) g ys := by
 unfold X6 at h ⊢;simp only [World.setRow, Array.getElem?_modify, if_true, h, Option.map_some]
theorem X6.bytes {w : World} {g : Nat} {xs : List UInt8} (h : X6 w g xs) (o n cap : Nat) (hn : o + n ≤ xs.length) (hc : n ≤ cap) : Bytes w (.slice (some ⟨g, o, none⟩) n cap) ((xs.drop o).take n) := by
 have e : ((xs.drop o).take n).length = n := by simp; omega
 refine .inr ⟨g, o, cap, by rw [e], by omega, fun i hi => ?_⟩;rw [h.cell (o + i) (by omega)];simp
theorem X6.alloc (w : World) (xs : List UInt8) : X6 (w.alloc (.cells (xs.map bv).toArray 5)) w.heap.size xs := by
 unfold X6 World.alloc;simp
theorem Zbs {g : Nat} {w w' : World} {v : Value} {l : List UInt8} (h : Bytes w v l) (hg : Zp g w w') (hn : ∀ b o n c, v = .slice (some ⟨b, o, none⟩) n c → b ≠ g) : Bytes w' v l := by
 rcases h with h | ⟨b, off, cap, rfl, h1, hc⟩
 ·exact .inl h
 ·refine .inr ⟨b, off, cap, rfl, h1, fun i hi => ?_⟩;have h2 := hc i hi;rw [← h2];exact hg.cell (Zs h2) (hn _ _ _ _ rfl)
theorem Zgy : (Tryz.prog.info? 5).map (·.size) = some 1 := by
 have := J0;cases h : Tryz.prog.info? 5 with
 | none => rw [h] at this; cases this
 | some i => rw [h] at this; simp at this; simp [this]
theorem Zgb (w : World) (g o dLen dCap : Nat) (xs ys : List UInt8) (v : Value) (ty : TypeId) (hrow : X6 w g xs) (hsrc : Bytes w v ys) (hfit : o + dLen ≤ xs.length) (hle : ys.length ≤ dLen) :
  ∃ w', (Builtin.copy_ #[38, 38] ty #[.slice (some ⟨g, o, none⟩) dLen dCap, v]).run Tryz.prog w = .ok (goInt ys.length) w' ∧ Zp g w w' ∧ X6 w' g (xs.take o ++ ys ++ xs.drop (o + ys.length)) := by
 obtain ⟨ao, cap, rfl, hnone, hcells⟩ := Yt hsrc;by_cases h0 : ys.length = 0
 ·obtain rfl := List.eq_nil_of_length_eq_zero h0;refine ⟨w, ?_, Zp.refl _ _, by simpa using hrow⟩;exact run_copy_none (P := Tryz.prog) w 38 38 ty 5 _ ao dLen dCap 0 cap Tryz.underlying38 Zgy (by simp)
 ·cases ao with
  | none => exact absurd (hnone rfl).1 h0
  | some ad =>
   have h := run_copy_row (P := Tryz.prog) w 38 38 ty 5 g o dLen dCap ad ys.length cap (xs.map bv).toArray 5 (ys.map bv) Tryz.underlying38 Zgy hrow (by rw [List.length_map]; exact (Nat.min_eq_left hle).symm) (hcells ad rfl) (by simp; omega) (Zch ys);rw [h];have e : ((xs.map bv).toArray.toList.take o ++ ys.map bv ++ (xs.map bv).toArray.toList.drop (o + (ys.map bv).length)) = (xs.take o ++ ys ++ xs.drop (o + ys.length)).map bv := by simp [List.map_take, List.map_drop]
   rw [e];exact ⟨_, by simp, (Zp.refl _ _).row _, hrow.row⟩
theorem Zty (k : Int) (h0 : 0 ≤ k) (h1 : k < 256) : bv (lo k) = .int .u8 k := by unfold bv; rw [Jo]; exact Znz (by omega)
def Znq (B : Nat) (n : Int) (v : Value) (w : World) : Prop := ∃ b cap, B ≤ b ∧ v = .slice (some ⟨b, 0, none⟩) 2 cap ∧ Bytes w v [hi n, lo n]
theorem Zu2 (B : Nat) (n : Int) : Xy (Znq B n) := by
 rintro v w w' hg ⟨b, cap, h1, h2, h3⟩;exact ⟨b, cap, h1, h2, Z0 h3 hg⟩
theorem Zq1 (w : World) (n : Int) : Bytes (w.alloc (.cells #[.int .u8 ((hi n).toNat : Int), .int .u8 ((lo n).toNat : Int)] 5)) (.slice (some ⟨w.heap.size, 0, none⟩) 2 2) [hi n, lo n] := by
 refine .inr ⟨w.heap.size, 0, 2, rfl, by simp, fun i hi => ?_⟩
 match i, hi with
 | 0, _ => simp
 | 1, _ => simp
theorem Zxt (n : Int) (w : World) :
  Calls Tryz.prog 69 #[.int .i64 n] w fun e w' => ∃ v, e = .returned v ∧ Zj w w' ∧ Znq w.heap.size n v w' :=
 (Zn0 n w).mono fun e w' ⟨he, hw⟩ => by
  subst hw;exact ⟨_, he, Zd _ _, w.heap.size, 2, Nat.le_refl _, rfl, Zq1 w n⟩
theorem Zu8 (B g : Nat) (n : Int) (h : g < B) (v : Value) (w w' : World) (hg : Zp g w w') (hq : Znq B n v w) : Znq B n v w' := by
 obtain ⟨b, cap, h1, rfl, h3⟩ := hq;exact ⟨b, cap, h1, rfl, Zbs h3 hg (fun b' o n c e => by cases e; omega)⟩
def Way (g : Nat) (W : World) (xs ys : List UInt8) (w : World) : Prop := Zp g W w ∧ (X6 w g xs ∨ X6 w g ys)
theorem Way.start {g : Nat} {W : World} {xs ys : List UInt8} (h : X6 W g xs) : Way g W xs ys W.drew := ⟨(Zp.refl _ _).drew, .inl h⟩
theorem Way.grow {g : Nat} {W w w' : World} {xs ys : List UInt8} (h : Way g W xs ys w) (hg : Zj w w') : Way g W xs ys w' := ⟨h.1.trans (Zp.of hg), Xh h.2 (·.grow hg) (·.grow hg)⟩
theorem Zrx (g : Nat) (xs : List UInt8) : Xy (fun _ w => X6 w g xs) := fun _ _ _ hg h => X6.grow h hg
theorem Zt1 (k y n at_ : Int) (l : List UInt8) :
  (([lo k, lo at_, lo y, hi n, lo n] ++ List.replicate 9 0).set 5 (lo (l.length : Int))).take 6 ++ l ++ (([lo k, lo at_, lo y, hi n, lo n] ++ List.replicate 9 0).set 5 (lo (l.length : Int))).drop (6 + l.length) = Zaq ⟨k, y, n, l⟩ at_ := by
 have e : ([lo k, lo at_, lo y, hi n, lo n] ++ List.replicate 9 0).set 5 (lo (l.length : Int)) = [lo k, lo at_, lo y, hi n, lo n, lo (l.length : Int)] ++ List.replicate 8 0 := by
  simp [List.replicate]
 have e2 : ([lo k, lo at_, lo y, hi n, lo n, lo (l.length : Int)] ++ List.replicate 8 (0 : UInt8)).drop (6 + l.length) = List.replicate (8 - l.length) 0 := by
  rw [List.drop_append, List.drop_eq_nil_of_le (by simp), List.nil_append, List.drop_replicate]
  congr 1
  simp
 rw [e, e2];simp [Zaq]
theorem Zt0 (k y n at_ : Int) (l : List UInt8) :
  (Zaq ⟨k, y, n, l⟩ at_).take 6 ++ l ++ (Zaq ⟨k, y, n, l⟩ at_).drop (6 + l.length) = Zaq ⟨k, y, n, l⟩ at_ := by
 unfold Zaq;rw [List.drop_append, List.drop_append];simp
theorem Zhy (k y n at_ : Int) (l : List UInt8) (v : Value) (w : World) (hv : Bytes w v l) (hr : Z6 ⟨k, y, n, l⟩ = 0) (h0 : 0 ≤ at_) (h1 : at_ ≤ 255) :
  Calls Tryz.prog 46 #[.agg #[.int .i64 k, .int .i64 y, .int .i64 n, v], .int .i64 at_] w fun e w' => ∃ v', e = .returned v' ∧ w'.ownsRow w.heap.size 5 1 v' 16 ((blk ⟨k, y, n, l⟩ at_).map bv) ∧ Zj w w' := by
 obtain ⟨hk0, hk1, hy0, hy1, hn0, hn1, hl⟩ := V2 hr;have HR : Hid (Z6 ⟨k, y, n, l⟩ = 0) := hr;clear hr;simp only at hk0 hk1 hy0 hy1 hn0 hn1 hl;obtain ⟨ao, cap, rfl, hnone, hcells⟩ := Yt hv;go_enter Tryz.func46, Tryz.ntmps46;go_wp2_with fail;refine (Zbb k y n l _ _ (by exact Z0 hv (Zd _ _))).mono ?_;rw [HR.out];rintro e w1 ⟨rfl, g1⟩;obtain ⟨hc, hf⟩ := Zoq g1;have cs := Zv;have hz : w.heap.size < w1.heap.size := by have := g1.size; simp at this; omega
 have mk := Zxd;clear hcells;go_wp2_with fail;clear mk;have hrow : X6 (w1.alloc (.cells #[.int .u8 k, .int .u8 at_, .int .u8 y, .int .u8 0, .int .u8 0, .int .u8 0, .int .u8 0, .int .u8 0, .int .u8 0, .int .u8 0, .int .u8 0, .int .u8 0, .int .u8 0, .int .u8 0] 5)) w1.heap.size ([lo k, lo at_, lo y] ++ List.replicate 11 0) := by
  have h := X6.alloc w1 ([lo k, lo at_, lo y] ++ List.replicate 11 0);have e : (([lo k, lo at_, lo y] ++ List.replicate 11 0).map bv).toArray = #[.int .u8 k, .int .u8 at_, .int .u8 y, .int .u8 0, .int .u8 0, .int .u8 0, .int .u8 0, .int .u8 0, .int .u8 0, .int .u8 0, .int .u8 0, .int .u8 0, .int .u8 0, .int .u8 0] := by
   simp [Zty k (by omega) (by omega), Zty at_ (by omega) (by omega), Zty y (by omega) (by omega), List.replicate]
   kernel_rfl
  rw [e] at h;exact h
 have gW : Zj w (w1.alloc (.cells #[.int .u8 k, .int .u8 at_, .int .u8 y, .int .u8 0, .int .u8 0, .int .u8 0, .int .u8 0, .int .u8 0, .int .u8 0, .int .u8 0, .int .u8 0, .int .u8 0, .int .u8 0, .int .u8 0] 5)) := ((Zd _ _).trans g1).trans (Zd _ _);have c2 : (w1.alloc (.cells #[.int .u8 k, .int .u8 at_, .int .u8 y, .int .u8 0, .int .u8 0, .int .u8 0, .int .u8 0, .int .u8 0, .int .u8 0, .int .u8 0, .int .u8 0, .int .u8 0, .int .u8 0, .int .u8 0] 5)).cell? ⟨w.heap.size, 2, none⟩ = some (.int .i64 n) := by
  rw [World.cell?_alloc_past _ _ _ hz, hc _ _ (by simp)]; simp
 have c3 : (w1.alloc (.cells #[.int .u8 k, .int .u8 at_, .int .u8 y, .int .u8 0, .int .u8 0, .int .u8 0, .int .u8 0, .int .u8 0, .int .u8 0, .int .u8 0, .int .u8 0, .int .u8 0, .int .u8 0, .int .u8 0] 5)).cell? ⟨w.heap.size, 3, none⟩ = some (.slice ao l.length cap) := by
  rw [World.cell?_alloc_past _ _ _ hz, hc _ _ (by simp)]; simp
 have hbW := Z0 hv gW;generalize World.alloc w1 _ = W at hrow gW c2 c3 hbW ⊢;generalize w1.heap.size = g at hrow hz ⊢;clear hc hf g1;have hgW := hrow.lt;have hvb : ∀ b o n c, Value.slice ao l.length cap = .slice (some ⟨b, o, none⟩) n c → l.length ≠ 0 → b < w.heap.size := by
  intro b o n c e hne;cases e;rcases hv with ⟨ao, cp, h2, h3, _⟩ | ⟨b', o', cp, h2, h3, h4⟩
  ·rw [h3] at hne; exact absurd rfl hne
  ·cases h2;exact Zs (h4 0 (by omega))
 clear hv;refine K4 [px (.slice (some ⟨g, 0, none⟩) 14 14), px (.slice (some ⟨g, 3, none⟩) 2 11), px (.pointer (some ⟨w.heap.size, 2, none⟩)), px (.int .i64 n), pl (Znq W.heap.size n), pl ((fun _ w => X6 w g ([lo k, lo at_, lo y, hi n, lo n] ++ List.replicate 9 0)))] [none, none, none, none, none, some ((fun w w' => Zp g w w'))] (Way g W ([lo k, lo at_, lo y] ++ List.replicate 11 0) ([lo k, lo at_, lo y, hi n, lo n] ++ List.replicate 9 0)) (by kernel_rfl) (by kernel_rfl) ⟨se, se, se, se, Yn (Zu2 _ _), Yn (Zrx _ _), trivial⟩ ⟨⟨(fun w => Zp.refl _ w), ⟨x5, x5, x5, x5, .inr ((fun v _ w w' hs hq => Zu8 W.heap.size g n hgW v w w' hs hq)), .inl (by kernel_rfl), trivial⟩⟩, trivial⟩ ⟨n5, n5, n5, n5, n5, n5, trivial⟩ (Way.start hrow) ?_ ?_
 ·refine ⟨?_, ?_, ?_, ?_, ?_, ?_, trivial⟩
  ·refine Zz rfl fun a w' ek ef hg hin => ?_;have e : a (.tmp 5) = .slice (some ⟨g, 0, none⟩) 14 14 := Zt hin 5 rfl;exact Yj rfl hg e
  ·refine Zz rfl fun a w' ek ef hg hin => ?_;have e32 : a (.tmp 32) = _ := Zg hin 0 rfl;refine Zr ?_ hg rfl;clear hin hg;go_simp;all_goals go_arith
  ·refine Zz rfl fun a w' ek ef hg hin => ?_;have e2 : a (.tmp 2) = .pointer (some ⟨w.heap.size, 0, none⟩) := Zt hin 2 rfl;refine Zr ?_ hg rfl;clear hin hg;go_simp;all_goals go_arith
  ·refine Zz rfl fun a w' ek ef hg hin => ?_;have e34 : a (.tmp 34) = _ := Zg hin 2 rfl;have h1 := (hg.1.cell (p := ⟨w.heap.size, 2, none⟩) (Zs c2) (by show w.heap.size ≠ g; omega)).trans c2;refine Zr ?_ hg rfl;clear hin hg;go_simp;all_goals go_arith
  ·refine Zz rfl fun a w' ek ef hg hin => ?_;have e35 : a (.tmp 35) = _ := Zg hin 3 rfl;refine Yf (f := 69) (args := #[.int .i64 n]) ?_ ((Zxt n w').mono ?_)
   ·clear hin hg;go_simp;all_goals go_arith
   ·rintro e w2 ⟨v', rfl, hgr, b, cap, h1, h2, h3⟩;exact ⟨_, rfl, hgr, hg.grow hgr, b, cap, Nat.le_trans hg.1.size h1, h2, h3⟩
  ·refine Zz rfl fun a w' ek ef hg hin => ?_;have e33 : a (.tmp 33) = _ := Zg hin 1 rfl;have e36 : (Znq W.heap.size n) (a (.tmp 36)) w' := Zg hin 4 rfl;obtain ⟨b, cp, hb1, hb2, hb3⟩ := e36;rw [hb2] at hb3;have hst : ∃ w2, (Builtin.copy_ #[38, 38] 3 #[.slice (some ⟨g, 3, none⟩) 2 11, .slice (some ⟨b, 0, none⟩) 2 cp]).run Tryz.prog w' = .ok (goInt 2) w2 ∧ Zp g w' w2 ∧ X6 w2 g ([lo k, lo at_, lo y, hi n, lo n] ++ List.replicate 9 0) := by
    rcases hg.2 with hr | hr
    all_goals
     obtain ⟨w2, k1, k2, k3⟩ := Zgb w' g 3 2 11 _ [hi n, lo n] _ 3 hr hb3 (by simp) (by simp);exact ⟨w2, k1, k2, k3⟩
   obtain ⟨w2, hrun, hgb, hr2⟩ := hst;refine Vs (v := goInt 2) (w' := w2) ?_ hgb ⟨hg.1.trans hgb, .inr hr2⟩ hr2;clear hin hg;go_simp;all_goals go_arith
 ·intro vs w' hg ht;obtain ⟨q32, q33, q34, q35, q36, q37, -⟩ := ht;have r32 : vs 0 = .slice (some ⟨g, 0, none⟩) 14 14 := q32;have r33 : vs 1 = .slice (some ⟨g, 3, none⟩) 2 11 := q33;have r34 : vs 2 = .pointer (some ⟨w.heap.size, 2, none⟩) := q34;have r35 : vs 3 = .int .i64 n := q35;replace q36 : (Znq W.heap.size n) (vs 4) w' := q36;replace q37 : ((fun _ w => X6 w g ([lo k, lo at_, lo y, hi n, lo n] ++ List.replicate 9 0))) (vs 5) w' := q37;clear q32 q33 q34 q35;simp only [Z9, Act.put, List.setIfInBounds_toArray, List.set_cons_zero, List.set_cons_succ, Nat.reduceAdd, r32, r33, r34, r35];clear r32 r33 r34 r35;have c3' := (hg.1.cell (p := ⟨w.heap.size, 3, none⟩) (Zs c3) (by show w.heap.size ≠ g; omega)).trans c3;have hb' : Bytes w' (.slice ao l.length cap) l := by
   by_cases h0 : l.length = 0
   ·have e := List.eq_nil_of_length_eq_zero h0;subst e;rcases hbW with h | ⟨b, o, cp, h2, h3, h4⟩
    ·exact .inl h
    ·exact .inr ⟨b, o, cp, h2, h3, fun i hi => absurd hi (by simp)⟩
   ·exact Zbs hbW hg.1 (fun b o n c e => by have := hvb b o n c e h0; omega)
  have gw' : Zj w w' := hg.1.grow gW (by omega);clear q36 hg c2 c3 hrow hbW gW hgW;have hc5 := q37.cell 5 (by simp);have hf5 := q37.frozen 5;have hlen : (l.length : Int) ≤ 8 := by omega
  simp only [List.cons_append, List.nil_append, List.getElem_cons_succ, List.getElem_replicate] at hc5;generalize vs _ = u4;generalize vs _ = u5;go_wp2_with fail;have e5 : (l.length : Int) = ((lo (l.length : Int)).toNat : Int) := by rw [Jo]; omega
  have hr2 := q37.set 5 (lo (l.length : Int));rw [← e5] at hr2;have c3 : (w'.setCell ⟨g, 5, none⟩ (.int .u8 (l.length : Int))).cell? ⟨w.heap.size, 3, none⟩ = some (.slice ao l.length cap) := by
   rw [World.cell?_setCell_other _ _ _ _ (by intro e; cases e)]; exact c3'
  have hbW : Bytes (w'.setCell ⟨g, 5, none⟩ (.int .u8 (l.length : Int))) (.slice ao l.length cap) l := by
   by_cases h0 : l.length = 0
   ·have e := List.eq_nil_of_length_eq_zero h0;subst e;rcases hb' with h | ⟨b, o, cp, h2, h3, h4⟩
    ·exact .inl h
    ·exact .inr ⟨b, o, cp, h2, h3, fun i hi => absurd hi (by simp)⟩
   ·exact Zbs hb' ((Zp.refl g _).set _ _ _) (fun b o n c e => by have := hvb b o n c e h0; omega)
  have gW : Zj w (w'.setCell ⟨g, 5, none⟩ (.int .u8 (l.length : Int))) := Ya gw' (by show w.heap.size ≤ g; omega) _;clear hb' c3' hc5 hf5 q37 gw' e5;generalize w'.setCell _ _ = W2 at *;clear w';refine K4 [px (.slice (some ⟨g, 0, none⟩) 14 14), px (.slice (some ⟨g, 6, none⟩) 8 8), px (.pointer (some ⟨w.heap.size, 3, none⟩)), px (.slice ao l.length cap), pl ((fun _ w => X6 w g (Zaq ⟨k, y, n, l⟩ at_)))] [none, none, none, none, some ((fun w w' => Zp g w w'))] (Way g W2 (([lo k, lo at_, lo y, hi n, lo n] ++ List.replicate 9 0).set 5 (lo (l.length : Int))) (Zaq ⟨k, y, n, l⟩ at_)) (by kernel_rfl) (by kernel_rfl) ⟨se, se, se, se, Yn (Zrx _ _), trivial⟩ ⟨⟨(fun w => Zp.refl _ w), ⟨x5, x5, x5, x5, .inl (by kernel_rfl), trivial⟩⟩, trivial⟩ ⟨n5, n5, n5, n5, n5, trivial⟩ (Way.start hr2) ?_ ?_
  ·refine ⟨?_, ?_, ?_, ?_, ?_, trivial⟩
   ·refine Zz rfl fun a w' ek ef hg hin => ?_;have e : a (.tmp 5) = .slice (some ⟨g, 0, none⟩) 14 14 := Zt hin 5 rfl;exact Yj rfl hg e
   ·refine Zz rfl fun a w' ek ef hg hin => ?_;have e44 : a (.tmp 44) = _ := Zg hin 0 rfl;refine Zr ?_ hg rfl;clear hin hg;go_simp;all_goals go_arith
   ·refine Zz rfl fun a w' ek ef hg hin => ?_;have e2 : a (.tmp 2) = .pointer (some ⟨w.heap.size, 0, none⟩) := Zt hin 2 rfl;refine Zr ?_ hg rfl;clear hin hg;go_simp;all_goals go_arith
   ·refine Zz rfl fun a w' ek ef hg hin => ?_;have e46 : a (.tmp 46) = _ := Zg hin 2 rfl;have h1 := (hg.1.cell (p := ⟨w.heap.size, 3, none⟩) (Zs c3) (by show w.heap.size ≠ g; omega)).trans c3;refine Zr ?_ hg rfl;clear hin hg;go_simp;all_goals go_arith
   ·refine Zz rfl fun a w' ek ef hg hin => ?_;have e45 : a (.tmp 45) = _ := Zg hin 1 rfl;have e47 : a (.tmp 47) = _ := Zg hin 3 rfl;have hbw : Bytes w' (.slice ao l.length cap) l := by
     by_cases h0 : l.length = 0
     ·have e := List.eq_nil_of_length_eq_zero h0;subst e;rcases hbW with h | ⟨b, o, cp, h2, h3, h4⟩
      ·exact .inl h
      ·exact .inr ⟨b, o, cp, h2, h3, fun i hi => absurd hi (by simp)⟩
     ·exact Zbs hbW hg.1 (fun b o n c e => by have := hvb b o n c e h0; omega)
    have hst : ∃ w2, (Builtin.copy_ #[38, 38] 3 #[.slice (some ⟨g, 6, none⟩) 8 8, .slice ao l.length cap]).run Tryz.prog w' = .ok (goInt l.length) w2 ∧ Zp g w' w2 ∧ X6 w2 g (Zaq ⟨k, y, n, l⟩ at_) := by
     rcases hg.2 with hr | hr
     ·obtain ⟨w2, k1, k2, k3⟩ := Zgb w' g 6 8 8 _ l _ 3 hr hbw (by simp) hl;exact ⟨w2, k1, k2, by rw [Zt1 k y n at_ l] at k3; exact k3⟩
     ·obtain ⟨w2, k1, k2, k3⟩ := Zgb w' g 6 8 8 _ l _ 3 hr hbw (by rw [Vf _ _ hl]; omega) hl;exact ⟨w2, k1, k2, by rw [Zt0 k y n at_ l] at k3; exact k3⟩
    obtain ⟨w2, hrun, hgb, hr2⟩ := hst;refine Vs (v := goInt l.length) (w' := w2) ?_ hgb ⟨hg.1.trans hgb, .inr hr2⟩ hr2;clear hin hg hbw;go_simp;all_goals go_arith
  ·intro vs w' hg ht;obtain ⟨q44, q45, q46, q47, q48, -⟩ := ht;have r44 : vs 0 = .slice (some ⟨g, 0, none⟩) 14 14 := q44;have r45 : vs 1 = .slice (some ⟨g, 6, none⟩) 8 8 := q45;have r46 : vs 2 = .pointer (some ⟨w.heap.size, 3, none⟩) := q46;have r47 : vs 3 = .slice ao l.length cap := q47;replace q48 : ((fun _ w => X6 w g (Zaq ⟨k, y, n, l⟩ at_))) (vs 4) w' := q48;clear q44 q45 q46 q47;simp only [Z9, Act.put, List.setIfInBounds_toArray, List.set_cons_zero, List.set_cons_succ, Nat.reduceAdd, r44, r45, r46, r47];clear r44 r45 r46 r47;have gw2 : Zj w w' := hg.1.grow gW (by omega);have hB := q48.bytes 0 14 14 (by rw [Vf _ _ hl]; omega) (by omega);rw [List.drop_zero, List.take_of_length_le (by rw [Vf _ _ hl]; omega)] at hB;generalize vs _ = u6;clear hg hbW c3 gW hr2 hvb;go_wp2_with fail;refine (Zr9 _ _ _ (by rw [Vf _ _ hl]; omega) hB).mono ?_;rintro e w3 ⟨v', rfl, ho, g3⟩;rw [Vf _ _ hl] at ho;go_wp2;go_ret;exact ⟨_, rfl, Yi ho gw2.size, gw2.trans g3⟩
def head (k y n at_ : Int) (l : List UInt8) : List UInt8 := [lo k, lo at_, lo y, hi n, lo n, lo (l.length : Int)] ++ List.replicate 8 0
end Go.Proofs.YtgaecpdokgklpadGreatDoor
