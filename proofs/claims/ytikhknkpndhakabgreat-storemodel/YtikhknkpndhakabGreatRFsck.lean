import Derived.Test.YtikhknkpndhakabGreatRStore3
set_option maxHeartbeats 8000000
namespace Go.Proofs.YtikhknkpndhakabGreat
set_option maxRecDepth 100000
open Go.RowKit
open Plain Reg
theorem Zxh (d : Dk) (p : Int) : 0 ≤ d.how p ∧ d.how p < 6 := by
 unfold Dk.how;split
 ·omega
 ·split
  ·split <;> omega
  ·split
   ·omega
   ·split
    ·omega
    ·split <;> omega
def cnt (d : Dk) : Nat → Int → Int
 | 0, _ => 0
 | k + 1, i => cnt d k i + (if d.how (k : Int) = i then 1 else 0)
theorem Zc4 (d : Dk) : ∀ (k : Nat) (i : Int), 0 ≤ cnt d k i ∧ cnt d k i ≤ (k : Int)
 | 0, _ => by simp [cnt]
 | k + 1, i => by
  have := Zc4 d k i;unfold cnt;split <;> omega
abbrev Zdd (f : Int → Int) : Array Value := #[.int .i64 (f 0), .int .i64 (f 1), .int .i64 (f 2), .int .i64 (f 3), .int .i64 (f 4), .int .i64 (f 5)]
abbrev V8 : Obj := .cells #[.int .i64 0, .int .i64 0, .int .i64 0, .int .i64 0, .int .i64 0, .int .i64 0] 98 (0, 0)
theorem Zg5 {w : World} {g : Nat} {T : TypeId} {f} {c0 c1 c2 c3 c4 c5 : Value} (h : w.heap[g]? = some (.cells #[c0, c1, c2, c3, c4, c5] T f)) (x0 x1 x2 x3 x4 x5 : Value) :
  ((((((w.setCell ⟨g, 0, none⟩ x0).setCell ⟨g, 1, none⟩ x1).setCell ⟨g, 2, none⟩ x2).setCell ⟨g, 3, none⟩ x3).setCell ⟨g, 4, none⟩ x4).setCell ⟨g, 5, none⟩ x5).heap[g]? = some (.cells #[x0, x1, x2, x3, x4, x5] T f) ∧ Zp g w ((((((w.setCell ⟨g, 0, none⟩ x0).setCell ⟨g, 1, none⟩ x1).setCell ⟨g, 2, none⟩ x2).setCell ⟨g, 3, none⟩ x3).setCell ⟨g, 4, none⟩ x4).setCell ⟨g, 5, none⟩ x5) :=
 ⟨Yb (Yb (Yb (Yb (Yb (Yb h 0 x0) 1 x1) 2 x2) 3 x3) 4 x4) 5 x5, ((((((Zp.refl g w).set _ _ _).set _ _ _).set _ _ _).set _ _ _).set _ _ _).set _ _ _⟩
theorem Zkh (n : Nat) (d : Dk) (v : Value) (w : World) (hd : Vp d v w) (hF : d.Fine n) (hn : n ≤ 900) :
  Calls Tryz.prog 98 #[v] w fun r w' => r = .returned (.agg (Zdd (cnt d 6))) ∧ Zo w w' := by
 obtain ⟨vb, vl, rfl, hb, hl⟩ := hd;obtain ⟨ab, cb, rfl⟩ := hb.form;obtain ⟨al, cl, rfl⟩ := hl.form;have g0 := (Zr w (.cells #[.slice ab d.blocks.length cb, .slice al d.late.length cl] 30) V8).trans (Zb _ V8);have hd0 := Zk w #[.slice ab d.blocks.length cb, .slice al d.late.length cl] 30;have hz0 := Zk (w.alloc (.cells #[.slice ab d.blocks.length cb, .slice al d.late.length cl] 30)) #[.int .i64 0, .int .i64 0, .int .i64 0, .int .i64 0, .int .i64 0, .int .i64 0] 98;have hr0 := Zk ((w.alloc (.cells #[.slice ab d.blocks.length cb, .slice al d.late.length cl] 30)).alloc V8) #[.int .i64 0, .int .i64 0, .int .i64 0, .int .i64 0, .int .i64 0, .int .i64 0] 98;have hd1 := ((Zr (w.alloc (.cells #[.slice ab d.blocks.length cb, .slice al d.late.length cl] 30)) V8 V8).block _ (Za hd0)).trans hd0;have hz1 := ((Zb ((w.alloc (.cells #[.slice ab d.blocks.length cb, .slice al d.late.length cl] 30)).alloc V8) V8).block _ (Za hz0)).trans hz0;rw [World.size_alloc] at hz1;rw [World.size_alloc, World.size_alloc] at hr0;clear hd0 hz0;have hsm := hF.small (by omega);go_enter Tryz.func98, Tryz.ntmps98;go_wp2_with fail;obtain ⟨W, hW⟩ : ∃ W, W = ((w.alloc (.cells #[.slice ab d.blocks.length cb, .slice al d.late.length cl] 30)).alloc V8).alloc V8 := ⟨_, rfl⟩;rw [← hW] at g0 hd1 hz1 hr0 ⊢;clear hW
 go_loopw [8] (fun i wr => ∃ k : Nat, k ≤ 6 ∧ i = .int .i64 (k : Int) ∧ Zo w wr ∧ wr.heap[w.heap.size]? = some (.cells #[.slice ab d.blocks.length cb, .slice al d.late.length cl] 30 (0, 0)) ∧ wr.heap[w.heap.size + 1]? = some V8 ∧ wr.heap[w.heap.size + 2]? = some (.cells #[.int .i64 (cnt d k 0), .int .i64 (cnt d k 1), .int .i64 (cnt d k 2), .int .i64 (cnt d k 3), .int .i64 (cnt d k 4), .int .i64 (cnt d k 5)] 98 (0, 0))) (fun i _ => 6 - (intOf i).toNat)
 case atStart => exact ⟨0, by omega, rfl, g0, hd1, hz1, hr0⟩
 case round =>
  clear g0 hd1 hz1 hr0;obtain ⟨k, hk, rfl, gw, hd1, hz1, hr1⟩ := hrel;by_cases hlt : k < 6
  ·obtain ⟨y0, y1⟩ := X3 hd1 rfl rfl;go_wp2_with fail;refine (Zdc d (k : Int) _ wr ⟨_, _, rfl, hb.grow gw, hl.grow gw⟩ hsm.1 hsm.2).mono ?_;rintro r w1 ⟨dv, rfl, ho, g1⟩;obtain ⟨a9, c9, rfl⟩ := Yg ho;have g2 := Zb w1 (.cells #[.int .i64 (d.tell (k : Int)).kind, .int .i64 (d.tell (k : Int)).key, .int .i64 (d.tell (k : Int)).ver, .slice a9 (d.tell (k : Int)).data.length c9] 51);have gw2 := (gw.trans g1).trans g2;have hd2 := (g2.block _ (Za ((g1.block _ (Za hd1)).trans hd1))).trans ((g1.block _ (Za hd1)).trans hd1);have hz2 := (g2.block _ (Za ((g1.block _ (Za hz1)).trans hz1))).trans ((g1.block _ (Za hz1)).trans hz1);have hr2 := (g2.block _ (Za ((g1.block _ (Za hr1)).trans hr1))).trans ((g1.block _ (Za hr1)).trans hr1);have HC : Hid (cnt d (k + 1) 0 = cnt d k 0 + (if d.how (k : Int) = 0 then 1 else 0) ∧ cnt d (k + 1) 1 = cnt d k 1 + (if d.how (k : Int) = 1 then 1 else 0) ∧ cnt d (k + 1) 2 = cnt d k 2 + (if d.how (k : Int) = 2 then 1 else 0) ∧ cnt d (k + 1) 3 = cnt d k 3 + (if d.how (k : Int) = 3 then 1 else 0) ∧ cnt d (k + 1) 4 = cnt d k 4 + (if d.how (k : Int) = 4 then 1 else 0) ∧ cnt d (k + 1) 5 = cnt d k 5 + (if d.how (k : Int) = 5 then 1 else 0)) := ⟨rfl, rfl, rfl, rfl, rfl, rfl⟩;have hb0 := Zc4 d k 0;have hb1 := Zc4 d k 1;have hb2 := Zc4 d k 2;have hb3' := Zc4 d k 3;have hb4 := Zc4 d k 4;have hb5 := Zc4 d k 5;have hHb := Zxh d (k : Int);generalize d.tell (k : Int) = tl at *;generalize d.how (k : Int) = H at *;generalize cnt d k 0 = c0 at *;generalize cnt d k 1 = c1 at *
   generalize cnt d k 2 = c2 at *;generalize cnt d k 3 = c3 at *;generalize cnt d k 4 = c4 at *;generalize cnt d k 5 = c5 at *;clear y0 y1 gw hd1 hz1 hr1 g1 ho;have hH6 : H = 0 ∨ H = 1 ∨ H = 2 ∨ H = 3 ∨ H = 4 ∨ H = 5 := by omega
   clear hHb g2;rcases hH6 with rfl | rfl | rfl | rfl | rfl | rfl
   ·have y0 := Zd hr2 0 _ rfl;have f0 := Zn hr2 0;have hr3 : ((w1.alloc (.cells #[.int .i64 tl.kind, .int .i64 tl.key, .int .i64 tl.ver, .slice a9 tl.data.length c9] 51)).setCell ⟨w.heap.size + 2, 0, none⟩ (.int .i64 (c0 + 1))).heap[w.heap.size + 2]? = some (.cells #[.int .i64 (c0 + 1), .int .i64 (c1), .int .i64 (c2), .int .i64 (c3), .int .i64 (c4), .int .i64 (c5)] 98 (0, 0)) := Yb hr2 0 _;have hb3 := (Zp.refl (w.heap.size + 2) (w1.alloc (.cells #[.int .i64 tl.kind, .int .i64 tl.key, .int .i64 tl.ver, .slice a9 tl.data.length c9] 51))).set 0 none (.int .i64 (c0 + 1));have hd3 := (hb3.block _ (Za hd2) (by omega)).trans hd2;have hz3 := (hb3.block _ (Za hz2) (by omega)).trans hz2;have gw3 := hb3.grow gw2 (by omega);obtain ⟨n0, n1, n2, n3, n4, n5⟩ := HC.out;simp only [Int.reduceEq, if_true, if_false, Int.add_zero] at n0 n1 n2 n3 n4 n5;have HN : Hid _ := And.intro n0 (And.intro n1 (And.intro n2 (And.intro n3 (And.intro n4 n5))));clear n0 n1 n2 n3 n4 n5 HC hr2 hd2 hz2 gw2 hb3;go_wp2_with fail;go_roundw
    case rel => exact ⟨k + 1, by omega, by go_num, gw3, hd3, hz3, by obtain ⟨n0, n1, n2, n3, n4, n5⟩ := HN.out; rw [n0, n1, n2, n3, n4, n5]; exact hr3⟩
    case measure => simp [intOf]; omega
   ·have y0 := Zd hr2 1 _ rfl;have f0 := Zn hr2 1;have hr3 : ((w1.alloc (.cells #[.int .i64 tl.kind, .int .i64 tl.key, .int .i64 tl.ver, .slice a9 tl.data.length c9] 51)).setCell ⟨w.heap.size + 2, 1, none⟩ (.int .i64 (c1 + 1))).heap[w.heap.size + 2]? = some (.cells #[.int .i64 (c0), .int .i64 (c1 + 1), .int .i64 (c2), .int .i64 (c3), .int .i64 (c4), .int .i64 (c5)] 98 (0, 0)) := Yb hr2 1 _;have hb3 := (Zp.refl (w.heap.size + 2) (w1.alloc (.cells #[.int .i64 tl.kind, .int .i64 tl.key, .int .i64 tl.ver, .slice a9 tl.data.length c9] 51))).set 1 none (.int .i64 (c1 + 1));have hd3 := (hb3.block _ (Za hd2) (by omega)).trans hd2;have hz3 := (hb3.block _ (Za hz2) (by omega)).trans hz2;have gw3 := hb3.grow gw2 (by omega);obtain ⟨n0, n1, n2, n3, n4, n5⟩ := HC.out;simp only [Int.reduceEq, if_true, if_false, Int.add_zero] at n0 n1 n2 n3 n4 n5;have HN : Hid _ := And.intro n0 (And.intro n1 (And.intro n2 (And.intro n3 (And.intro n4 n5))));clear n0 n1 n2 n3 n4 n5 HC hr2 hd2 hz2 gw2 hb3;go_wp2_with fail;go_roundw
    case rel => exact ⟨k + 1, by omega, by go_num, gw3, hd3, hz3, by obtain ⟨n0, n1, n2, n3, n4, n5⟩ := HN.out; rw [n0, n1, n2, n3, n4, n5]; exact hr3⟩
    case measure => simp [intOf]; omega
   ·have y0 := Zd hr2 2 _ rfl;have f0 := Zn hr2 2;have hr3 : ((w1.alloc (.cells #[.int .i64 tl.kind, .int .i64 tl.key, .int .i64 tl.ver, .slice a9 tl.data.length c9] 51)).setCell ⟨w.heap.size + 2, 2, none⟩ (.int .i64 (c2 + 1))).heap[w.heap.size + 2]? = some (.cells #[.int .i64 (c0), .int .i64 (c1), .int .i64 (c2 + 1), .int .i64 (c3), .int .i64 (c4), .int .i64 (c5)] 98 (0, 0)) := Yb hr2 2 _;have hb3 := (Zp.refl (w.heap.size + 2) (w1.alloc (.cells #[.int .i64 tl.kind, .int .i64 tl.key, .int .i64 tl.ver, .slice a9 tl.data.length c9] 51))).set 2 none (.int .i64 (c2 + 1));have hd3 := (hb3.block _ (Za hd2) (by omega)).trans hd2;have hz3 := (hb3.block _ (Za hz2) (by omega)).trans hz2;have gw3 := hb3.grow gw2 (by omega);obtain ⟨n0, n1, n2, n3, n4, n5⟩ := HC.out;simp only [Int.reduceEq, if_true, if_false, Int.add_zero] at n0 n1 n2 n3 n4 n5;have HN : Hid _ := And.intro n0 (And.intro n1 (And.intro n2 (And.intro n3 (And.intro n4 n5))));clear n0 n1 n2 n3 n4 n5 HC hr2 hd2 hz2 gw2 hb3;go_wp2_with fail;go_roundw
    case rel => exact ⟨k + 1, by omega, by go_num, gw3, hd3, hz3, by obtain ⟨n0, n1, n2, n3, n4, n5⟩ := HN.out; rw [n0, n1, n2, n3, n4, n5]; exact hr3⟩
    case measure => simp [intOf]; omega
   ·have y0 := Zd hr2 3 _ rfl;have f0 := Zn hr2 3;have hr3 : ((w1.alloc (.cells #[.int .i64 tl.kind, .int .i64 tl.key, .int .i64 tl.ver, .slice a9 tl.data.length c9] 51)).setCell ⟨w.heap.size + 2, 3, none⟩ (.int .i64 (c3 + 1))).heap[w.heap.size + 2]? = some (.cells #[.int .i64 (c0), .int .i64 (c1), .int .i64 (c2), .int .i64 (c3 + 1), .int .i64 (c4), .int .i64 (c5)] 98 (0, 0)) := Yb hr2 3 _;have hb3 := (Zp.refl (w.heap.size + 2) (w1.alloc (.cells #[.int .i64 tl.kind, .int .i64 tl.key, .int .i64 tl.ver, .slice a9 tl.data.length c9] 51))).set 3 none (.int .i64 (c3 + 1));have hd3 := (hb3.block _ (Za hd2) (by omega)).trans hd2;have hz3 := (hb3.block _ (Za hz2) (by omega)).trans hz2;have gw3 := hb3.grow gw2 (by omega);obtain ⟨n0, n1, n2, n3, n4, n5⟩ := HC.out;simp only [Int.reduceEq, if_true, if_false, Int.add_zero] at n0 n1 n2 n3 n4 n5;have HN : Hid _ := And.intro n0 (And.intro n1 (And.intro n2 (And.intro n3 (And.intro n4 n5))));clear n0 n1 n2 n3 n4 n5 HC hr2 hd2 hz2 gw2 hb3;go_wp2_with fail;go_roundw
    case rel => exact ⟨k + 1, by omega, by go_num, gw3, hd3, hz3, by obtain ⟨n0, n1, n2, n3, n4, n5⟩ := HN.out; rw [n0, n1, n2, n3, n4, n5]; exact hr3⟩
    case measure => simp [intOf]; omega
   ·have y0 := Zd hr2 4 _ rfl;have f0 := Zn hr2 4;have hr3 : ((w1.alloc (.cells #[.int .i64 tl.kind, .int .i64 tl.key, .int .i64 tl.ver, .slice a9 tl.data.length c9] 51)).setCell ⟨w.heap.size + 2, 4, none⟩ (.int .i64 (c4 + 1))).heap[w.heap.size + 2]? = some (.cells #[.int .i64 (c0), .int .i64 (c1), .int .i64 (c2), .int .i64 (c3), .int .i64 (c4 + 1), .int .i64 (c5)] 98 (0, 0)) := Yb hr2 4 _;have hb3 := (Zp.refl (w.heap.size + 2) (w1.alloc (.cells #[.int .i64 tl.kind, .int .i64 tl.key, .int .i64 tl.ver, .slice a9 tl.data.length c9] 51))).set 4 none (.int .i64 (c4 + 1));have hd3 := (hb3.block _ (Za hd2) (by omega)).trans hd2;have hz3 := (hb3.block _ (Za hz2) (by omega)).trans hz2;have gw3 := hb3.grow gw2 (by omega);obtain ⟨n0, n1, n2, n3, n4, n5⟩ := HC.out;simp only [Int.reduceEq, if_true, if_false, Int.add_zero] at n0 n1 n2 n3 n4 n5;have HN : Hid _ := And.intro n0 (And.intro n1 (And.intro n2 (And.intro n3 (And.intro n4 n5))));clear n0 n1 n2 n3 n4 n5 HC hr2 hd2 hz2 gw2 hb3;go_wp2_with fail;go_roundw
    case rel => exact ⟨k + 1, by omega, by go_num, gw3, hd3, hz3, by obtain ⟨n0, n1, n2, n3, n4, n5⟩ := HN.out; rw [n0, n1, n2, n3, n4, n5]; exact hr3⟩
    case measure => simp [intOf]; omega
   ·have y0 := Zd hr2 5 _ rfl;have f0 := Zn hr2 5;have hr3 : ((w1.alloc (.cells #[.int .i64 tl.kind, .int .i64 tl.key, .int .i64 tl.ver, .slice a9 tl.data.length c9] 51)).setCell ⟨w.heap.size + 2, 5, none⟩ (.int .i64 (c5 + 1))).heap[w.heap.size + 2]? = some (.cells #[.int .i64 (c0), .int .i64 (c1), .int .i64 (c2), .int .i64 (c3), .int .i64 (c4), .int .i64 (c5 + 1)] 98 (0, 0)) := Yb hr2 5 _;have hb3 := (Zp.refl (w.heap.size + 2) (w1.alloc (.cells #[.int .i64 tl.kind, .int .i64 tl.key, .int .i64 tl.ver, .slice a9 tl.data.length c9] 51))).set 5 none (.int .i64 (c5 + 1));have hd3 := (hb3.block _ (Za hd2) (by omega)).trans hd2;have hz3 := (hb3.block _ (Za hz2) (by omega)).trans hz2;have gw3 := hb3.grow gw2 (by omega);obtain ⟨n0, n1, n2, n3, n4, n5⟩ := HC.out;simp only [Int.reduceEq, if_true, if_false, Int.add_zero] at n0 n1 n2 n3 n4 n5;have HN : Hid _ := And.intro n0 (And.intro n1 (And.intro n2 (And.intro n3 (And.intro n4 n5))));clear n0 n1 n2 n3 n4 n5 HC hr2 hd2 hz2 gw2 hb3;go_wp2_with fail;go_roundw
    case rel => exact ⟨k + 1, by omega, by go_num, gw3, hd3, hz3, by obtain ⟨n0, n1, n2, n3, n4, n5⟩ := HN.out; rw [n0, n1, n2, n3, n4, n5]; exact hr3⟩
    case measure => simp [intOf]; omega
  ·have hk6 : k = 6 := by omega
   subst hk6;clear hlt;obtain ⟨y0, y1, y2, y3, y4⟩ := Q4 hr1 rfl rfl rfl rfl rfl;have y5 := Zd hr1 5 _ rfl;obtain ⟨z0, z1, z2, z3, z4⟩ := Q4 hz1 rfl rfl rfl rfl rfl;have z5 := Zd hz1 5 _ rfl;obtain ⟨f0, f1, f2, f3⟩ := Yu hz1;have f4 := Zn hz1 4;have f5 := Zn hz1 5;have cs := Zx;obtain ⟨hq1, hq2⟩ := Zg5 hz1 (.int .i64 (cnt d 6 0)) (.int .i64 (cnt d 6 1)) (.int .i64 (cnt d 6 2)) (.int .i64 (cnt d 6 3)) (.int .i64 (cnt d 6 4)) (.int .i64 (cnt d 6 5));obtain ⟨x0, x1, x2, x3, x4⟩ := Q4 hq1 rfl rfl rfl rfl rfl;have x5 := Zd hq1 5 _ rfl;have gE := hq2.grow gw (by omega);clear hq1 hq2 hz1 hr1 gw;go_wp2_with fail;exact bodyPost_ret (v := .agg (Zdd (cnt d 6))) (by simp [results, Tryz.results98, go_sem, x0, x1, x2, x3, x4, x5]) rfl ⟨rfl, gE⟩
def Qw (d : Dk) (p : Nat) : Nat → Bool
 | 0 => false
 | q + 1 => Qw d p q || decide ((d.tell (q : Int)).kind ≠ 1 ∧ (d.tell (q : Int)).ver = (d.tell (p : Int)).ver)
def Qa (d : Dk) : Nat → List Int
 | 0 => []
 | p + 1 => if (d.tell (p : Int)).kind ≠ 1 ∧ Qw d p p = true then Qa d p ++ [(p : Int)] else Qa d p
theorem Zbp (d : Dk) : ∀ p, (Qa d p).length ≤ p
 | 0 => Nat.le_refl _
 | p + 1 => by
  have := Zbp d p;unfold Qa;split
  ·simp; omega
  ·omega
theorem Zmx (n : Nat) (d : Dk) (v : Value) (w : World) (hd : Vp d v w) (hF : d.Fine n) (hn : n ≤ 900) :
  Calls Tryz.prog 99 #[v] w fun r w' => ∃ v' css, r = .returned v' ∧ Yr Qy (fun _ => False) w.heap.size v' (Qa d 6) css w' ∧ Zo w w' := by
 obtain ⟨i0, hif, hz0, hz1, hz2⟩ := info_parts Zqx;obtain ⟨vb, vl, rfl, hb, hl⟩ := hd;obtain ⟨ab, cb, rfl⟩ := hb.form;obtain ⟨al, cl, rfl⟩ := hl.form;have g0 := Zb w (.cells #[.slice ab d.blocks.length cb, .slice al d.late.length cl] 30);have hd0 := Zk w #[.slice ab d.blocks.length cb, .slice al d.late.length cl] 30;have hsm := hF.small (by omega);go_enter Tryz.func99, Tryz.ntmps99;go_wp2_with fail;generalize World.alloc w _ = W at *;go_loopw [3, 11] (fun o i wr => ∃ (k : Nat) (css : List (List Value)), k ≤ 6 ∧ i = .int .i64 (k : Int) ∧ Yr Qy (fun _ => False) (w.heap.size + 1) o (Qa d k) css wr ∧ Zo w wr ∧ wr.heap[w.heap.size]? = some (.cells #[.slice ab d.blocks.length cb, .slice al d.late.length cl] 30 (0, 0))) (fun _ i _ => 6 - (intOf i).toNat)
 case atStart => exact ⟨0, [], by omega, rfl, Yr.nil _ _ _ _, g0, hd0⟩
 case round =>
  clear g0 hd0;obtain ⟨k, css, hk, rfl, hR, gw, hd1⟩ := hrel;by_cases hlt : k < 6
  ·have HT : Hid (Qa d (k + 1) = if (d.tell (k : Int)).kind ≠ 1 ∧ Qw d k k = true then Qa d k ++ [(k : Int)] else Qa d k) := rfl;have HAG : Hid (∀ q : Nat, Qw d k (q + 1) = (Qw d k q || decide ((d.tell (q : Int)).kind ≠ 1 ∧ (d.tell (q : Int)).ver = (d.tell (k : Int)).ver))) := fun _ => rfl
   have hll := Zbp d k;generalize Qa d k = xs at *;obtain ⟨a0, c0, rfl⟩ := hR.form;obtain ⟨y0, y1⟩ := X3 hd1 rfl rfl;go_wp2_with fail;refine (Zdc d (k : Int) _ wr ⟨_, _, rfl, hb.grow gw, hl.grow gw⟩ hsm.1 hsm.2).mono ?_;rintro r w1 ⟨dv, rfl, ho, g1⟩;obtain ⟨a9, c9, rfl⟩ := Yg ho;generalize hTL : d.tell (k : Int) = tl at *;clear hTL;have g2 := Zb w1 (.cells #[.int .i64 tl.kind, .int .i64 tl.key, .int .i64 tl.ver, .slice a9 tl.data.length c9] 51);have hX2 := Zk w1 #[.int .i64 tl.kind, .int .i64 tl.key, .int .i64 tl.ver, .slice a9 tl.data.length c9] 51;have hR2 := (hR.grow g1).grow g2;have gw2 := (gw.trans g1).trans g2;have hd2 := (g2.block _ (Za ((g1.block _ (Za hd1)).trans hd1))).trans ((g1.block _ (Za hd1)).trans hd1);clear y0 y1 hR gw hd1 g1 g2 ho;go_wp2_with fail;obtain ⟨gr, hgr⟩ : ∃ gr, gr = w1.heap.size := ⟨_, rfl⟩;rw [← hgr] at hX2 ⊢;clear hgr;obtain ⟨W2, hW2⟩ : ∃ W2, W2 = w1.alloc (.cells #[.int .i64 tl.kind, .int .i64 tl.key, .int .i64 tl.ver, .slice a9 tl.data.length c9] 51) := ⟨_, rfl⟩;rw [← hW2] at hX2 hR2 gw2 hd2 ⊢;clear hW2;go_loopw [7, 21] (fun ag i wq => ∃ q : Nat, q ≤ k ∧ i = .int .i64 (q : Int) ∧ ag = .bool (Qw d k q) ∧ Zo W2 wq ∧ wq.heap[gr]? = some (.cells #[.int .i64 tl.kind, .int .i64 tl.key, .int .i64 tl.ver, .slice a9 tl.data.length c9] 51 (0, 0))) (fun _ i _ => k - (intOf i).toNat)
   case atStart => exact ⟨0, Nat.zero_le _, rfl, rfl, Zo.refl _, hX2⟩
   case round =>
    clear hX2;obtain ⟨q, hq, rfl, rfl, gq, hX2⟩ := hrel;have hdq := (gq.block _ (Za hd2)).trans hd2;by_cases hql : q < k
    ·obtain ⟨y0, y1⟩ := X3 hdq rfl rfl;have HAQ : Hid _ := HAG.out q;generalize Qw d k q = AG at *;go_wp2_with fail;refine (Zdc d (q : Int) _ wr ⟨_, _, rfl, hb.grow (gw2.trans gq), hl.grow (gw2.trans gq)⟩ hsm.1 hsm.2).mono ?_;rintro r w3 ⟨dv, rfl, ho, g3⟩;obtain ⟨a8, c8, rfl⟩ := Yg ho;generalize d.tell (q : Int) = tq at *;have g4 := Zb w3 (.cells #[.int .i64 tq.kind, .int .i64 tq.key, .int .i64 tq.ver, .slice a8 tq.data.length c8] 51);have hY := Zk w3 #[.int .i64 tq.kind, .int .i64 tq.key, .int .i64 tq.ver, .slice a8 tq.data.length c8] 51;have hX3 := (g4.block _ (Za ((g3.block _ (Za hX2)).trans hX2))).trans ((g3.block _ (Za hX2)).trans hX2);have gq3 := (gq.trans g3).trans g4;clear y0 y1 hdq gq g3 g4 ho hX2;have z0 := Zd hY 0 _ rfl;have z2 := Zd hY 2 _ rfl;have x2 := Zd hX3 2 _ rfl;clear hY;cases AG with
     | true =>
      have HA2 : Hid (Qw d k (q + 1) = true) := by show _ = _; rw [HAQ.out]; rfl
      clear HAQ;go_wp2_with fail;go_roundw
      case rel => exact ⟨q + 1, by omega, by go_num, by rw [HA2.out], gq3, hX3⟩
      case measure => simp [intOf]; omega
     | false =>
      by_cases h1 : tq.kind = 1
      ·have d1 : (tq.kind != 1) = false := by simp [h1]
       have HA2 : Hid (Qw d k (q + 1) = false) := by show _ = _; rw [HAQ.out]; simp [h1]
       clear HAQ h1;go_wp2_with fail;go_roundw
       case rel => exact ⟨q + 1, by omega, by go_num, by rw [HA2.out], gq3, hX3⟩
       case measure => simp [intOf]; omega
      ·have d1 : (tq.kind != 1) = true := by simp [h1]
       by_cases hv : tq.ver = tl.ver
       ·have dv : (tq.ver == tl.ver) = true := by simp [hv]
        have HA2 : Hid (Qw d k (q + 1) = true) := by show _ = _; rw [HAQ.out]; simp [h1, hv]
        clear HAQ h1 hv;go_wp2_with fail;go_roundw
        case rel => exact ⟨q + 1, by omega, by go_num, by rw [HA2.out], gq3, hX3⟩
        case measure => simp [intOf]; omega
       ·have dv : (tq.ver == tl.ver) = false := by simp [hv]
        have HA2 : Hid (Qw d k (q + 1) = false) := by show _ = _; rw [HAQ.out]; simp [hv]
        clear HAQ h1 hv;go_wp2_with fail;go_roundw
        case rel => exact ⟨q + 1, by omega, by go_num, by rw [HA2.out], gq3, hX3⟩
        case measure => simp [intOf]; omega
    ·have HQK : Hid (Qw d k q = Qw d k k) := by show _ = _; rw [show q = k by omega]
     rw [HQK.out];have hR4 := hR2.grow gq;have gw4 := gw2.trans gq;have hd4 := hdq;have x0 := Zd hX2 0 _ rfl;obtain ⟨AG, hAG⟩ : ∃ AG, AG = Qw d k k := ⟨_, rfl⟩;rw [← hAG] at HT ⊢;clear hX2 gq hdq HQK HAG hAG hR2 gw2 hd2;by_cases h1 : tl.kind = 1
     ·have d1 : (tl.kind != 1) = false := by simp [h1]
      have HT2 : Hid (Qa d (k + 1) = xs) := by show _ = _; rw [HT.out, if_neg (fun h => h.1 h1)]
      clear HT h1;go_wp2_with fail;go_roundw
      case rel => exact ⟨k + 1, css, by omega, by go_num, by rw [HT2.out]; exact hR4, gw4, hd4⟩
      case measure => simp [intOf]; omega
     ·have d1 : (tl.kind != 1) = true := by simp [h1]
      cases AG with
      | false =>
       have HT2 : Hid (Qa d (k + 1) = xs) := by show _ = _; rw [HT.out, if_neg (fun h => by cases h.2)]
       clear HT h1;go_wp2_with fail;go_roundw
       case rel => exact ⟨k + 1, css, by omega, by go_num, by rw [HT2.out]; exact hR4, gw4, hd4⟩
       case measure => simp [intOf]; omega
      | true =>
       have HT2 : Hid (Qa d (k + 1) = xs ++ [(k : Int)]) := by show _ = _; rw [HT.out, if_pos ⟨h1, rfl⟩]
       have HSZ : Hid (w.heap.size + 1 ≤ wr.heap.size) := Za hd4;have hnew : ∀ (t : Nat) u, ([.int .i64 (k : Int)] : List Value)[t]? = some u → (wr.alloc (.cells #[.int .i64 (k : Int)] 3)).cell? ((⟨wr.heap.size, 0, none⟩ : Addr).add t) = some u := by
        intro t u ht
        match t, ht with
        | 0, ht => simp at ht; subst ht; simp [Addr.add]
        | t + 1, ht => simp at ht
       clear HT h1;go_wp2_with (at_builtin; refine wpList_append_own _ rfl (.tmp 50) (.tmp 52) 36 rfl (w.heap.size + 1) 3 i0 (.int .i64 0) 1 8 Tryz.underlying36 hif hz0 hz1 hz2 rfl (by decide) (.slice a0 xs.length c0) _ _ rfl (hR4.row.alloc _) ⟨wr.heap.size, 0, none⟩ 1 1 [.int .i64 (k : Int)] rfl rfl hnew (by intro u hu; simp at hu; subst hu; rfl) (by unfold maxLen; omega) (by omega) (by have := HSZ.out; simp; omega) ?_; intro v5 w5 hown5 hgrow5 _; have hR6 := hR4.step (x := (k : Int)) (by decide) (fun b h => h.elim) rfl hgrow5 hown5; have g6 : Zo w w5 := Z7 (gw4.trans (Zb _ _)) hgrow5 (fun k hk => by have := (hR4.row.lt k hk).1; omega); have hd6 := (Qp hR4.row hgrow5 (Jh hR4.row (by omega)) (Za hd4)).trans hd4; have hsl := Yg hown5; obtain ⟨a4, c4, hv4⟩ := hsl; subst hv4; clear hgrow5 hown5 hR4 hnew gw4 hd4);go_roundw
       case rel => exact ⟨k + 1, _, by omega, by go_num, by rw [HT2.out]; exact hR6, g6, hd6⟩
       case measure => simp [intOf]; omega
  ·have hRE : ∃ css, Yr Qy (fun _ => False) w.heap.size _ (Qa d 6) css wr := ⟨css, by
    have e : k = 6 := by omega
    subst e;exact ⟨hR.len, fun i hi => (hR.each i hi).imp fun _ x => ⟨x.1, x.2⟩, Yi hR.row (by omega)⟩⟩
   obtain ⟨css2, hE⟩ := hRE;clear hR;obtain ⟨a4, c4, rfl⟩ := hE.form;go_wp2_with fail;go_ret;exact ⟨_, _, rfl, hE, gw⟩
end Go.Proofs.YtikhknkpndhakabGreat
