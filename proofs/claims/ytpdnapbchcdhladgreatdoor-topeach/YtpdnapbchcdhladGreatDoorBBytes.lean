import Derived.Test.YtpdnapbchcdhladGreatDoorWrong
import Derived.Laws.CopyRow
set_option maxHeartbeats 8000000
namespace Go.Proofs.YtpdnapbchcdhladGreatDoor
set_option maxRecDepth 100000
open Go.RowKit
open Plain Reg
variable {W a b w w' : World} {g : Nat} {xs ys : List UInt8}
structure Zo (g : Nat) (w w' : World) : Prop where
 os : w'.os = w.os
 tape : w'.tape = w.tape
 output : w'.output = w.output
 size : w.heap.size ≤ w'.heap.size
 block : ∀ k, k < w.heap.size → k ≠ g → w'.heap[k]? = w.heap[k]?
theorem Zo.refl (g : Nat) (w : World) : Zo g w w := ⟨rfl, rfl, rfl, Nat.le_refl _, fun _ _ _ => rfl⟩
theorem Zo.trans {c : World} (h : Zo g a b) (k : Zo g b c) : Zo g a c :=
 ⟨k.os.trans h.os, k.tape.trans h.tape, k.output.trans h.output, Nat.le_trans h.size k.size, fun i hi hg => (k.block i (Nat.lt_of_lt_of_le hi h.size) hg).trans (h.block i hi hg)⟩
theorem Zo.of (h : Zj a b) : Zo g a b := ⟨h.os, h.tape, h.output, h.size, fun k hk _ => h.block k hk⟩
theorem Zo.row (h : Zo g a b) (c : Array Value) : Zo g a (b.setRow g c) :=
 h.trans ⟨rfl, rfl, rfl, by simp [World.setRow], fun k _ hk => by simp only [World.setRow, Array.getElem?_modify]; rw [if_neg (fun e => hk e.symm)]⟩
theorem Zo.set (h : Zo g a b) (o : Nat) (s) (x : Value) : Zo g a (b.setCell ⟨g, o, s⟩ x) :=
 h.trans ⟨rfl, rfl, rfl, by simp, fun k _ hk => Below.heap_setCell _ _ _ _ hk⟩
theorem Zo.cell (h : Zo g a b) {p : Addr} (hp : p.block < a.heap.size) (hg : p.block ≠ g) : b.cell? p = a.cell? p := World.cell?_of_block (h.block _ hp hg)
theorem Zo.grow (h : Zo g a b) (hw : Zj w a) (hg : w.heap.size ≤ g) : Zj w b :=
 Below.trans (a := w) (b := a) hw ⟨h.os, h.tape, h.output, h.size, fun k hk => h.block k (Nat.lt_of_lt_of_le hk hw.size) (by omega)⟩
theorem Zz3 (w : World) : (Instr.makeSlice 38 (.int .i64 14) (.int .i64 14)).run Tryz.prog w = .ok (.slice (some ⟨w.heap.size, 0, none⟩) 14 14)
  (w.alloc (.cells #[.int .u8 0, .int .u8 0, .int .u8 0, .int .u8 0, .int .u8 0, .int .u8 0, .int .u8 0, .int .u8 0, .int .u8 0, .int .u8 0, .int .u8 0, .int .u8 0, .int .u8 0, .int .u8 0] 5)) := by
 obtain ⟨i0, hif, hz0, hz1, hz2⟩ := info_parts Zab;have h := run_make (P := Tryz.prog) w 38 5 i0 (.int .u8 0) Tryz.underlying38 hif hz0 .i64 .i64 14 14 (by omega) (by omega) (by rw [hz2]; omega) (by omega);rw [h, hz1, show madeCells (Value.int .u8 0).cells (Int.toNat 14 * 1) = #[.int .u8 0, .int .u8 0, .int .u8 0, .int .u8 0, .int .u8 0, .int .u8 0, .int .u8 0, .int .u8 0, .int .u8 0, .int .u8 0, .int .u8 0, .int .u8 0, .int .u8 0, .int .u8 0] from by kernel_rfl];rfl
theorem Zo.drew (h : Zo g a b) : Zo g a b.drew := ⟨h.os, h.tape, h.output, h.size, h.block⟩
def Qb (w : World) (g : Nat) (xs : List UInt8) : Prop := w.heap[g]? = some (.cells (xs.map bv).toArray 5 (0, 0))
theorem Qb.lt (h : Qb w g xs) : g < w.heap.size := by
 rcases Nat.lt_or_ge g w.heap.size with hl | hl
 ·exact hl
 ·unfold Qb at h; rw [Array.getElem?_eq_none hl] at h; cases h
theorem Qb.grow (h : Qb w g xs) (hg : Zj w w') : Qb w' g xs := (hg.block g h.lt).trans h
theorem Qb.cell (h : Qb w g xs) (i : Nat) (hi : i < xs.length) : w.cell? ⟨g, i, none⟩ = some (.int .u8 (xs[i].toNat : Int)) := by
 unfold Qb at h;simp [World.cell?, h, hi, bv]
theorem Qb.frozen (h : Qb w g xs) (i : Nat) : w.frozen? ⟨g, i, none⟩ = false := by
 unfold Qb at h;simp [World.frozen?, h]
theorem Qb.set (h : Qb w g xs) (i : Nat) (c : UInt8) : Qb (w.setCell ⟨g, i, none⟩ (.int .u8 (c.toNat : Int))) g (xs.set i c) := by
 unfold Qb at h ⊢;simp only [World.setCell, Array.getElem?_modify, if_true, h, Option.map_some];simp [List.map_set, bv]
theorem Qb.row (h : Qb w g xs) : Qb (w.setRow g (ys.map bv).toArray) g ys := by
 unfold Qb at h ⊢;simp only [World.setRow, Array.getElem?_modify, if_true, h, Option.map_some]
theorem Qb.bytes (h : Qb w g xs) (o n cap : Nat) (hn : o + n ≤ xs.length) (hc : n ≤ cap) : Bytes w (.slice (some ⟨g, o, none⟩) n cap) ((xs.drop o).take n) := by
 have e : ((xs.drop o).take n).length = n := by simp; omega
 refine .inr ⟨g, o, cap, by rw [e], by omega, fun i hi => ?_⟩;rw [h.cell (o + i) (by omega)];simp
theorem Qb.alloc (w : World) (xs : List UInt8) : Qb (w.alloc (.cells (xs.map bv).toArray 5)) w.heap.size xs := by
 unfold Qb World.alloc;simp
theorem Zb4 {v : Value} {l : List UInt8} (h : Bytes w v l) (hg : Zo g w w') (hn : ∀ b o n c, v = .slice (some ⟨b, o, none⟩) n c → b ≠ g) : Bytes w' v l := by
 rcases h with h | ⟨b, off, cap, rfl, h1, hc⟩
 ·exact .inl h
 ·refine .inr ⟨b, off, cap, rfl, h1, fun i hi => ?_⟩;have h2 := hc i hi;rw [← h2];exact hg.cell (Zr h2) (hn _ _ _ _ rfl)
theorem Zh0 : (Tryz.prog.info? 5).map (·.size) = some 1 := by
 have := Zab;cases h : Tryz.prog.info? 5 with
 | none => rw [h] at this; cases this
 | some i => rw [h] at this; simp at this; simp [this]
theorem Zg5 (w : World) (g o dLen dCap : Nat) (xs ys : List UInt8) (v : Value) (ty : TypeId) (hrow : Qb w g xs) (hsrc : Bytes w v ys) (hfit : o + dLen ≤ xs.length) (hle : ys.length ≤ dLen) :
  ∃ w', (Builtin.copy_ #[38, 38] ty #[.slice (some ⟨g, o, none⟩) dLen dCap, v]).run Tryz.prog w = .ok (goInt ys.length) w' ∧ Zo g w w' ∧ Qb w' g (xs.take o ++ ys ++ xs.drop (o + ys.length)) := by
 obtain ⟨ao, cap, rfl, hnone, hcells⟩ := Yt hsrc;by_cases h0 : ys.length = 0
 ·obtain rfl := List.eq_nil_of_length_eq_zero h0;refine ⟨w, ?_, Zo.refl _ _, by simpa using hrow⟩;exact run_copy_none (P := Tryz.prog) w 38 38 ty 5 _ ao dLen dCap 0 cap Tryz.underlying38 Zh0 (by simp)
 ·cases ao with
  | none => exact absurd (hnone rfl).1 h0
  | some ad =>
   have h := run_copy_row (P := Tryz.prog) w 38 38 ty 5 g o dLen dCap ad ys.length cap (xs.map bv).toArray 5 (ys.map bv) Tryz.underlying38 Zh0 hrow (by rw [List.length_map]; exact (Nat.min_eq_left hle).symm) (hcells ad rfl) (by simp; omega) (Zcy ys);rw [h];have e : ((xs.map bv).toArray.toList.take o ++ ys.map bv ++ (xs.map bv).toArray.toList.drop (o + (ys.map bv).length)) = (xs.take o ++ ys ++ xs.drop (o + ys.length)).map bv := by simp [List.map_take, List.map_drop]
   rw [e];exact ⟨_, by simp, (Zo.refl _ _).row _, hrow.row⟩
theorem Zwc (k : Int) (h0 : 0 ≤ k) (h1 : k < 256) : bv (lo k) = .int .u8 k := by unfold bv; rw [J0]; exact Zpo (by omega)
def Zpf (B : Nat) (n : Int) (v : Value) (w : World) : Prop := ∃ b cap, B ≤ b ∧ v = .slice (some ⟨b, 0, none⟩) 2 cap ∧ Bytes w v [hi n, lo n]
theorem Zxh (B : Nat) (n : Int) : X3 (Zpf B n) := by
 rintro v w w' hg ⟨b, cap, h1, h2, h3⟩;exact ⟨b, cap, h1, h2, Z2 h3 hg⟩
theorem Zs3 (w : World) (n : Int) : Bytes (w.alloc (.cells #[.int .u8 ((hi n).toNat : Int), .int .u8 ((lo n).toNat : Int)] 5)) (.slice (some ⟨w.heap.size, 0, none⟩) 2 2) [hi n, lo n] := by
 refine .inr ⟨w.heap.size, 0, 2, rfl, by simp, fun i hi => ?_⟩
 match i, hi with
 | 0, _ => simp
 | 1, _ => simp
theorem Z0k (n : Int) (w : World) :
  Calls Tryz.prog 75 #[.int .i64 n] w fun e w' => ∃ v, e = .returned v ∧ Zj w w' ∧ Zpf w.heap.size n v w' :=
 (Zpp n w).mono fun e w' ⟨he, hw⟩ => by
  subst hw;exact ⟨_, he, Zd _ _, w.heap.size, 2, Nat.le_refl _, rfl, Zs3 w n⟩
theorem Zxn (B g : Nat) (n : Int) (h : g < B) (v : Value) (w w' : World) (hg : Zo g w w') (hq : Zpf B n v w) : Zpf B n v w' := by
 obtain ⟨b, cap, h1, rfl, h3⟩ := hq;exact ⟨b, cap, h1, rfl, Zb4 h3 hg (fun b' o n c e => by cases e; omega)⟩
def Way (g : Nat) (W : World) (xs ys : List UInt8) (w : World) : Prop := Zo g W w ∧ (Qb w g xs ∨ Qb w g ys)
theorem Way.start (h : Qb W g xs) : Way g W xs ys W.drew := ⟨(Zo.refl _ _).drew, .inl h⟩
theorem Way.grow (h : Way g W xs ys w) (hg : Zj w w') : Way g W xs ys w' := ⟨h.1.trans (Zo.of hg), Xh h.2 (·.grow hg) (·.grow hg)⟩
theorem Zt5 (g : Nat) (xs : List UInt8) : X3 (fun _ w => Qb w g xs) := fun _ _ _ hg h => Qb.grow h hg
theorem Zwf (k y n at_ : Int) (l : List UInt8) :
  (([lo k, lo at_, lo y, hi n, lo n] ++ List.replicate 9 0).set 5 (lo (l.length : Int))).take 6 ++ l ++ (([lo k, lo at_, lo y, hi n, lo n] ++ List.replicate 9 0).set 5 (lo (l.length : Int))).drop (6 + l.length) = Za2 ⟨k, y, n, l⟩ at_ := by
 have e : ([lo k, lo at_, lo y, hi n, lo n] ++ List.replicate 9 0).set 5 (lo (l.length : Int)) = [lo k, lo at_, lo y, hi n, lo n, lo (l.length : Int)] ++ List.replicate 8 0 := by
  simp [List.replicate]
 have e2 : ([lo k, lo at_, lo y, hi n, lo n, lo (l.length : Int)] ++ List.replicate 8 (0 : UInt8)).drop (6 + l.length) = List.replicate (8 - l.length) 0 := by
  rw [List.drop_append, List.drop_eq_nil_of_le (by simp), List.nil_append, List.drop_replicate]
  congr 1
  simp
 rw [e, e2];simp [Za2]
theorem Zwe (k y n at_ : Int) (l : List UInt8) :
  (Za2 ⟨k, y, n, l⟩ at_).take 6 ++ l ++ (Za2 ⟨k, y, n, l⟩ at_).drop (6 + l.length) = Za2 ⟨k, y, n, l⟩ at_ := by
 unfold Za2;rw [List.drop_append, List.drop_append];simp
theorem Zi8 (k y n at_ : Int) (l : List UInt8) (v : Value) (w : World) (hv : Bytes w v l) (hr : Z6 ⟨k, y, n, l⟩ = 0) (h0 : 0 ≤ at_) (h1 : at_ ≤ 255) :
  Calls Tryz.prog 50 #[.agg #[.int .i64 k, .int .i64 y, .int .i64 n, v], .int .i64 at_] w fun e w' => ∃ v', e = .returned v' ∧ w'.ownsRow w.heap.size 5 1 v' 16 ((blk ⟨k, y, n, l⟩ at_).map bv) ∧ Zj w w' := by
 obtain ⟨hk0, hk1, hy0, hy1, hn0, hn1, hl⟩ := Kc hr;have HR : Hid (Z6 ⟨k, y, n, l⟩ = 0) := hr;clear hr;simp only at hk0 hk1 hy0 hy1 hn0 hn1 hl;obtain ⟨ao, cap, rfl, hnone, hcells⟩ := Yt hv;go_enter Tryz.func50, Tryz.ntmps50;go_wp2_with fail;refine (Zbn k y n l _ _ (by exact Z2 hv (Zd _ _))).mono ?_;rw [HR.out];rintro e w1 ⟨rfl, g1⟩;obtain ⟨hc, hf⟩ := Zqg g1;have cs := Zu;have hz : w.heap.size < w1.heap.size := by have := g1.size; simp at this; omega
 have mk := Zz3;clear hcells;go_wp2_with fail;clear mk;have hrow : Qb (w1.alloc (.cells #[.int .u8 k, .int .u8 at_, .int .u8 y, .int .u8 0, .int .u8 0, .int .u8 0, .int .u8 0, .int .u8 0, .int .u8 0, .int .u8 0, .int .u8 0, .int .u8 0, .int .u8 0, .int .u8 0] 5)) w1.heap.size ([lo k, lo at_, lo y] ++ List.replicate 11 0) := by
  have h := Qb.alloc w1 ([lo k, lo at_, lo y] ++ List.replicate 11 0);have e : (([lo k, lo at_, lo y] ++ List.replicate 11 0).map bv).toArray = #[.int .u8 k, .int .u8 at_, .int .u8 y, .int .u8 0, .int .u8 0, .int .u8 0, .int .u8 0, .int .u8 0, .int .u8 0, .int .u8 0, .int .u8 0, .int .u8 0, .int .u8 0, .int .u8 0] := by
   simp [Zwc k (by omega) (by omega), Zwc at_ (by omega) (by omega), Zwc y (by omega) (by omega), List.replicate]
   kernel_rfl
  rw [e] at h;exact h
 have gW : Zj w (w1.alloc (.cells #[.int .u8 k, .int .u8 at_, .int .u8 y, .int .u8 0, .int .u8 0, .int .u8 0, .int .u8 0, .int .u8 0, .int .u8 0, .int .u8 0, .int .u8 0, .int .u8 0, .int .u8 0, .int .u8 0] 5)) := ((Zd _ _).trans g1).trans (Zd _ _);have c2 : (w1.alloc (.cells #[.int .u8 k, .int .u8 at_, .int .u8 y, .int .u8 0, .int .u8 0, .int .u8 0, .int .u8 0, .int .u8 0, .int .u8 0, .int .u8 0, .int .u8 0, .int .u8 0, .int .u8 0, .int .u8 0] 5)).cell? ⟨w.heap.size, 2, none⟩ = some (.int .i64 n) := by
  rw [World.cell?_alloc_past _ _ _ hz, hc _ _ (by simp)]; simp
 have c3 : (w1.alloc (.cells #[.int .u8 k, .int .u8 at_, .int .u8 y, .int .u8 0, .int .u8 0, .int .u8 0, .int .u8 0, .int .u8 0, .int .u8 0, .int .u8 0, .int .u8 0, .int .u8 0, .int .u8 0, .int .u8 0] 5)).cell? ⟨w.heap.size, 3, none⟩ = some (.slice ao l.length cap) := by
  rw [World.cell?_alloc_past _ _ _ hz, hc _ _ (by simp)]; simp
 have hbW := Z2 hv gW;generalize World.alloc w1 _ = W at hrow gW c2 c3 hbW ⊢;generalize w1.heap.size = g at hrow hz ⊢;clear hc hf g1;have hgW := hrow.lt;have hvb : ∀ b o n c, Value.slice ao l.length cap = .slice (some ⟨b, o, none⟩) n c → l.length ≠ 0 → b < w.heap.size := by
  intro b o n c e hne;cases e;rcases hv with ⟨ao, cp, h2, h3, _⟩ | ⟨b', o', cp, h2, h3, h4⟩
  ·rw [h3] at hne; exact absurd rfl hne
  ·cases h2;exact Zr (h4 0 (by omega))
 clear hv;refine Jf [px (.slice (some ⟨g, 0, none⟩) 14 14), px (.slice (some ⟨g, 3, none⟩) 2 11), px (.pointer (some ⟨w.heap.size, 2, none⟩)), px (.int .i64 n), pl (Zpf W.heap.size n), pl ((fun _ w => Qb w g ([lo k, lo at_, lo y, hi n, lo n] ++ List.replicate 9 0)))] [none, none, none, none, none, some ((fun w w' => Zo g w w'))] (Way g W ([lo k, lo at_, lo y] ++ List.replicate 11 0) ([lo k, lo at_, lo y, hi n, lo n] ++ List.replicate 9 0)) (by kernel_rfl) (by kernel_rfl) ⟨se, se, se, se, Ym (Zxh _ _), Ym (Zt5 _ _), trivial⟩ ⟨⟨(fun w => Zo.refl _ w), ⟨x5, x5, x5, x5, .inr ((fun v _ w w' hs hq => Zxn W.heap.size g n hgW v w w' hs hq)), .inl (by kernel_rfl), trivial⟩⟩, trivial⟩ ⟨n5, n5, n5, n5, n5, n5, trivial⟩ (Way.start hrow) ?_ ?_
 ·refine ⟨?_, ?_, ?_, ?_, ?_, ?_, trivial⟩
  ·exact Z3 rfl fun a _ _ _ B A => Yi rfl B (Zs A 5 rfl)
  ·refine Z3 rfl fun a _ _ _ B A => ?_;have e32 : a (.tmp 32) = _ := Zh A 0 rfl;refine Zq ?_ B rfl;clear A B;go_simp;all_goals go_arith
  ·refine Z3 rfl fun a _ _ _ B A => ?_;have e2 : a (.tmp 2) = .pointer (some ⟨w.heap.size, 0, none⟩) := Zs A 2 rfl;refine Zq ?_ B rfl;clear A B;go_simp;all_goals go_arith
  ·refine Z3 rfl fun a _ _ _ B A => ?_;have e34 : a (.tmp 34) = _ := Zh A 2 rfl;have h1 := (B.1.cell (p := ⟨w.heap.size, 2, none⟩) (Zr c2) (by show w.heap.size ≠ g; omega)).trans c2;refine Zq ?_ B rfl;clear A B;go_simp;all_goals go_arith
  ·refine Z3 rfl fun a B _ _ C A => ?_;have e35 : a (.tmp 35) = _ := Zh A 3 rfl;refine Yf (f := 75) (args := #[.int .i64 n]) ?_ ((Z0k n B).mono ?_)
   ·clear A C;go_simp;all_goals go_arith
   ·rintro e w2 ⟨v', rfl, hgr, b, cap, h1, h2, h3⟩;exact ⟨_, rfl, hgr, C.grow hgr, b, cap, Nat.le_trans C.1.size h1, h2, h3⟩
  ·refine Z3 rfl fun a w' _ _ B A => ?_;have e33 : a (.tmp 33) = _ := Zh A 1 rfl;have e36 : (Zpf W.heap.size n) (a (.tmp 36)) w' := Zh A 4 rfl;obtain ⟨b, cp, hb1, hb2, hb3⟩ := e36;rw [hb2] at hb3;have hst : ∃ w2, (Builtin.copy_ #[38, 38] 3 #[.slice (some ⟨g, 3, none⟩) 2 11, .slice (some ⟨b, 0, none⟩) 2 cp]).run Tryz.prog w' = .ok (goInt 2) w2 ∧ Zo g w' w2 ∧ Qb w2 g ([lo k, lo at_, lo y, hi n, lo n] ++ List.replicate 9 0) := by
    rcases B.2 with hr | hr
    all_goals
     obtain ⟨w2, k1, k2, k3⟩ := Zg5 w' g 3 2 11 _ [hi n, lo n] _ 3 hr hb3 (by simp) (by simp);exact ⟨w2, k1, k2, k3⟩
   obtain ⟨w2, hrun, hgb, hr2⟩ := hst;refine V2 (v := goInt 2) (w' := w2) ?_ hgb ⟨B.1.trans hgb, .inr hr2⟩ hr2;clear A B;go_simp;all_goals go_arith
 ·intro vs w' hg ht;obtain ⟨(r32 : vs 0 = _), (r33 : vs 1 = _), (r34 : vs 2 = _), (r35 : vs 3 = _), q36, q37, -⟩ := ht;replace q36 : (Zpf W.heap.size n) (vs 4) w' := q36;replace q37 : ((fun _ w => Qb w g ([lo k, lo at_, lo y, hi n, lo n] ++ List.replicate 9 0))) (vs 5) w' := q37;simp only [Z8, Act.put, List.setIfInBounds_toArray, List.set_cons_zero, List.set_cons_succ, Nat.reduceAdd, r32, r33, r34, r35];clear r32 r33 r34 r35;have c3' := (hg.1.cell (p := ⟨w.heap.size, 3, none⟩) (Zr c3) (by show w.heap.size ≠ g; omega)).trans c3;have hb' : Bytes w' (.slice ao l.length cap) l := by
   by_cases h0 : l.length = 0
   ·have e := List.eq_nil_of_length_eq_zero h0;subst e;rcases hbW with h | ⟨b, o, cp, h2, h3, h4⟩
    ·exact .inl h
    ·exact .inr ⟨b, o, cp, h2, h3, fun i hi => absurd hi (by simp)⟩
   ·exact Zb4 hbW hg.1 (fun b o n c e => by have := hvb b o n c e h0; omega)
  have gw' : Zj w w' := hg.1.grow gW (by omega);clear q36 hg c2 c3 hrow hbW gW hgW;have hc5 := q37.cell 5 (by simp);have hf5 := q37.frozen 5;have hlen : (l.length : Int) ≤ 8 := by omega
  simp only [List.cons_append, List.nil_append, List.getElem_cons_succ, List.getElem_replicate] at hc5;generalize vs _ = u4;generalize vs _ = u5;go_wp2_with fail;have e5 : (l.length : Int) = ((lo (l.length : Int)).toNat : Int) := by rw [J0]; omega
  have hr2 := q37.set 5 (lo (l.length : Int));rw [← e5] at hr2;have c3 : (w'.setCell ⟨g, 5, none⟩ (.int .u8 (l.length : Int))).cell? ⟨w.heap.size, 3, none⟩ = some (.slice ao l.length cap) := by
   rw [World.cell?_setCell_other _ _ _ _ (by intro e; cases e)]; exact c3'
  have hbW : Bytes (w'.setCell ⟨g, 5, none⟩ (.int .u8 (l.length : Int))) (.slice ao l.length cap) l := by
   by_cases h0 : l.length = 0
   ·have e := List.eq_nil_of_length_eq_zero h0;subst e;rcases hb' with h | ⟨b, o, cp, h2, h3, h4⟩
    ·exact .inl h
    ·exact .inr ⟨b, o, cp, h2, h3, fun i hi => absurd hi (by simp)⟩
   ·exact Zb4 hb' ((Zo.refl g _).set _ _ _) (fun b o n c e => by have := hvb b o n c e h0; omega)
  have gW : Zj w (w'.setCell ⟨g, 5, none⟩ (.int .u8 (l.length : Int))) := Ya gw' (by show w.heap.size ≤ g; omega) _;clear hb' c3' hc5 hf5 q37 gw' e5;generalize w'.setCell _ _ = W2 at *;clear w';refine Jf [px (.slice (some ⟨g, 0, none⟩) 14 14), px (.slice (some ⟨g, 6, none⟩) 8 8), px (.pointer (some ⟨w.heap.size, 3, none⟩)), px (.slice ao l.length cap), pl ((fun _ w => Qb w g (Za2 ⟨k, y, n, l⟩ at_)))] [none, none, none, none, some ((fun w w' => Zo g w w'))] (Way g W2 (([lo k, lo at_, lo y, hi n, lo n] ++ List.replicate 9 0).set 5 (lo (l.length : Int))) (Za2 ⟨k, y, n, l⟩ at_)) (by kernel_rfl) (by kernel_rfl) ⟨se, se, se, se, Ym (Zt5 _ _), trivial⟩ ⟨⟨(fun w => Zo.refl _ w), ⟨x5, x5, x5, x5, .inl (by kernel_rfl), trivial⟩⟩, trivial⟩ ⟨n5, n5, n5, n5, n5, trivial⟩ (Way.start hr2) ?_ ?_
  ·refine ⟨?_, ?_, ?_, ?_, ?_, trivial⟩
   ·exact Z3 rfl fun a _ _ _ B A => Yi rfl B (Zs A 5 rfl)
   ·refine Z3 rfl fun a _ _ _ B A => ?_;have e44 : a (.tmp 44) = _ := Zh A 0 rfl;refine Zq ?_ B rfl;clear A B;go_simp;all_goals go_arith
   ·refine Z3 rfl fun a _ _ _ B A => ?_;have e2 : a (.tmp 2) = .pointer (some ⟨w.heap.size, 0, none⟩) := Zs A 2 rfl;refine Zq ?_ B rfl;clear A B;go_simp;all_goals go_arith
   ·refine Z3 rfl fun a _ _ _ B A => ?_;have e46 : a (.tmp 46) = _ := Zh A 2 rfl;have h1 := (B.1.cell (p := ⟨w.heap.size, 3, none⟩) (Zr c3) (by show w.heap.size ≠ g; omega)).trans c3;refine Zq ?_ B rfl;clear A B;go_simp;all_goals go_arith
   ·refine Z3 rfl fun a w' _ _ B A => ?_;have e45 : a (.tmp 45) = _ := Zh A 1 rfl;have e47 : a (.tmp 47) = _ := Zh A 3 rfl;have hbw : Bytes w' (.slice ao l.length cap) l := by
     by_cases h0 : l.length = 0
     ·have e := List.eq_nil_of_length_eq_zero h0;subst e;rcases hbW with h | ⟨b, o, cp, h2, h3, h4⟩
      ·exact .inl h
      ·exact .inr ⟨b, o, cp, h2, h3, fun i hi => absurd hi (by simp)⟩
     ·exact Zb4 hbW B.1 (fun b o n c e => by have := hvb b o n c e h0; omega)
    have hst : ∃ w2, (Builtin.copy_ #[38, 38] 3 #[.slice (some ⟨g, 6, none⟩) 8 8, .slice ao l.length cap]).run Tryz.prog w' = .ok (goInt l.length) w2 ∧ Zo g w' w2 ∧ Qb w2 g (Za2 ⟨k, y, n, l⟩ at_) := by
     rcases B.2 with hr | hr
     ·obtain ⟨w2, k1, k2, k3⟩ := Zg5 w' g 6 8 8 _ l _ 3 hr hbw (by simp) hl;exact ⟨w2, k1, k2, by rw [Zwf k y n at_ l] at k3; exact k3⟩
     ·obtain ⟨w2, k1, k2, k3⟩ := Zg5 w' g 6 8 8 _ l _ 3 hr hbw (by rw [Vm _ _ hl]; omega) hl;exact ⟨w2, k1, k2, by rw [Zwe k y n at_ l] at k3; exact k3⟩
    obtain ⟨w2, hrun, hgb, hr2⟩ := hst;refine V2 (v := goInt l.length) (w' := w2) ?_ hgb ⟨B.1.trans hgb, .inr hr2⟩ hr2;clear A B hbw;go_simp;all_goals go_arith
  ·intro vs w' hg ht;obtain ⟨(r44 : vs 0 = _), (r45 : vs 1 = _), (r46 : vs 2 = _), (r47 : vs 3 = _), q48, -⟩ := ht;replace q48 : ((fun _ w => Qb w g (Za2 ⟨k, y, n, l⟩ at_))) (vs 4) w' := q48;simp only [Z8, Act.put, List.setIfInBounds_toArray, List.set_cons_zero, List.set_cons_succ, Nat.reduceAdd, r44, r45, r46, r47];clear r44 r45 r46 r47;have gw2 : Zj w w' := hg.1.grow gW (by omega);have hB := q48.bytes 0 14 14 (by rw [Vm _ _ hl]; omega) (by omega);rw [List.drop_zero, List.take_of_length_le (by rw [Vm _ _ hl]; omega)] at hB;generalize vs _ = u6;clear hg hbW c3 gW hr2 hvb;go_wp2_with fail;refine (Zuh _ _ _ (by rw [Vm _ _ hl]; omega) hB).mono ?_;rintro e w3 ⟨v', rfl, ho, g3⟩;rw [Vm _ _ hl] at ho;go_wp2;go_ret;exact ⟨_, rfl, Yh ho gw2.size, gw2.trans g3⟩
def head (k y n at_ : Int) (l : List UInt8) : List UInt8 := [lo k, lo at_, lo y, hi n, lo n, lo (l.length : Int)] ++ List.replicate 8 0
end Go.Proofs.YtpdnapbchcdhladGreatDoor
