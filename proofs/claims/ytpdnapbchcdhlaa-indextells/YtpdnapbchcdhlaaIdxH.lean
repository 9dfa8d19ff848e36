import Derived.Test.YtpdnapbchcdhlaaIdxG
import Derived.Test.YtpdnapbchcdhlaaPairP
set_option maxHeartbeats 8000000
namespace Go.Proofs.Ytpdnapbchcdhlaa
set_option maxRecDepth 100000
open Go.RowKit
open Plain Reg
theorem Zgl (n : Nat) (w : World) (hn : n ≤ 6) : Calls Try.prog 116 #[.int .u64 (n : Int)] w fun e w' => ∃ r, e = .returned (.int .i64 r) ∧ w' = w := by
 have h : n = 0 ∨ n = 1 ∨ n = 2 ∨ n = 3 ∨ n = 4 ∨ n = 5 ∨ n = 6 := by omega
 rcases h with rfl | rfl | rfl | rfl | rfl | rfl | rfl
 all_goals
  go_enter Try.func116, Try.ntmps116;go_wp2_with fail;go_ret;exact ⟨_, rfl, rfl⟩
theorem Zjv (n : Nat) (w : World) (hn : n ≤ 6) : Calls Try.prog 102 #[.int .u64 (n : Int)] w fun e w' => ∃ r, e = .returned (.int .i64 r) ∧ w' = w := by
 go_enter Try.func102, Try.ntmps102;go_wp2_with fail;refine (Zgl n w hn).mono ?_;rintro e w1 ⟨r, rfl, rfl⟩;go_wp2_with fail;go_ret;exact ⟨_, rfl, rfl⟩
theorem Zjm (S0 : Nat → Prop) (B : Nat) (w0 : World) (v : Value) (xs : List Ent) (r : Int) (w : World) (hS0 : ∀ b, S0 b → b < B) (hB : w0.heap.size ≤ B) (hn : xs.length ≤ 12) (hU : Ve xs) (hR : Srt S0 B w0 v xs xs w) :
  Calls Try.prog 101 #[v, .int .i64 0, .int .i64 (xs.length : Int), .int .i64 r, .func (.func 88) #[] #[]] w fun e w' => e = .returned (.tuple #[]) ∧ ∃ ys, Srt S0 B w0 v xs ys w' ∧ ys.Pairwise Ups := by
 have HH : Hid (Srt S0 B w0 v xs xs w) := hR;clear hR;go_enter Try.func101, Try.ntmps101;go_wp2_with fail;go_loopw [1, 2] (fun i j wr => i = .int .i64 0 ∧ j = .int .i64 (xs.length : Int) ∧ w = wr) (fun _ _ _ => 0)
 case atStart => exact ⟨rfl, rfl, rfl⟩
 case round =>
  obtain ⟨rfl, rfl, hww⟩ := hrel;subst hww;have d0 : (xs.length : Int) ≤ 12 := by omega
  go_wp2_with fail;refine (Zgq S0 B w0 v xs w hS0 hB hn hU HH.out).mono ?_;rintro e w1 ⟨rfl, hE⟩;clear HH d0;go_wp2_with fail;exact bodyPost_ret (v := .tuple #[]) (by simp [results, Try.results101, go_sem]) rfl ⟨rfl, hE⟩
theorem Zhl (S0 : Nat → Prop) (B : Nat) (w0 : World) (v : Value) (xs : List Ent) (w : World) (hS0 : ∀ b, S0 b → b < B) (hB : w0.heap.size ≤ B) (hn : xs.length ≤ 6) (hU : Ve xs) (hR : Srt S0 B w0 v xs xs w) :
  Calls Try.prog 87 #[v, .func (.func 88) #[] #[]] w fun e w' => e = .returned (.tuple #[]) ∧ ∃ ys, Srt S0 B w0 v xs ys w' ∧ ys.Pairwise Ups := by
 obtain ⟨css0, hR0⟩ := hR.row;obtain ⟨ao, cap, rfl⟩ := hR0.form;have HH : Hid (Srt S0 B w0 (.slice ao xs.length cap) xs xs w) := hR;clear hR0 css0 hR;have hn64 : (xs.length : Int) % 18446744073709551616 = (xs.length : Int) := by omega
 go_enter Try.func87, Try.ntmps87;go_wp2_with fail;refine (Zjv xs.length w hn).mono ?_;rintro e w1 ⟨r, rfl, rfl⟩;go_wp2_with fail;refine (Zjm S0 B w0 _ xs r w1 hS0 hB (by omega) hU HH.out).mono ?_;rintro e w2 ⟨rfl, hE⟩;clear HH;go_wp2_with fail;go_end0;exact ⟨rfl, hE⟩
theorem Zf2 (d : Dk) (v : Value) (w : World) (hF : d.Fine 1000) (hd : Qf d v w) :
  Calls Try.prog 59 #[v] w fun r w' => ∃ v', r = .returned v' ∧ Yl (fun b => w.heap.size ≤ b) w' v' (Y3 d 6) ∧ Zm w w' := by
 obtain ⟨i0, hif, hz0, hz1, hz2⟩ := info_parts Vh;obtain ⟨ab, cb, al, cl, rfl, -, -⟩ := hd.form;have g0 := Zh w (.cells #[.slice ab d.blocks.length cb, .slice al d.late.length cl] 46);have hD0 := Zu w #[.slice ab d.blocks.length cb, .slice al d.late.length cl] 46;go_enter Try.func59, Try.ntmps59;go_wp2_with fail;generalize World.alloc w _ = W at *;go_loopw [3, 7] (fun o i wr => ∃ (k : Nat) (css : List (List Value)), k ≤ 6 ∧ i = .int .i64 (k : Int) ∧ Yo Yc NoS (w.heap.size + 1) o (Y8 d k) css wr ∧ Zm w wr ∧ wr.heap[w.heap.size]? = some (.cells #[.slice ab d.blocks.length cb, .slice al d.late.length cl] 46 (0, 0))) (fun _ i _ => 6 - (intOf i).toNat)
 case atStart => exact ⟨0, [], Nat.zero_le _, rfl, Yo.nil _ _ _ _, g0, hD0⟩
 case round =>
  clear g0 hD0;obtain ⟨k, css, hk, rfl, hR, hg, hD⟩ := hrel;by_cases hlt : k < 6
  ·have hxl : (Y8 d k).length ≤ 6 := Nat.le_trans (Jc d k) hk;have HN : Hid (Y8 d (k + 1) = if (d.tell (k : Int)).kind = 1 then Y8 d k else Y8 d k ++ [⟨d.tell (k : Int), (k : Int)⟩]) := rfl;obtain ⟨a0, c0, rfl⟩ := hR.form;obtain ⟨x0, x1⟩ := Zb6 hD rfl rfl;go_wp2_with fail;refine (Zf3 d (k : Int) _ _ hF (hd.s.grow hg).p).mono ?_;rintro e w1 ⟨dv, rfl, ho, g1⟩;obtain ⟨a1, c1, rfl⟩ := Yg ho;generalize d.tell (k : Int) = r at *;generalize d.how (k : Int) = how at *;generalize Y8 d k = xs at *;have g2 := Zh w1 (.cells #[.int .i64 r.kind, .int .i64 r.key, .int .i64 r.ver, .slice a1 r.data.length c1] 32);have hR2 := Zu w1 #[.int .i64 r.kind, .int .i64 r.key, .int .i64 r.ver, .slice a1 r.data.length c1] 32;have hD2 := ((g1.trans g2).block _ (Zg hD)).trans hD;have hO2 := hR.grow (g1.trans g2);have gw2 := hg.trans (g1.trans g2);have hwr : w.heap.size + 1 ≤ wr.heap.size := Zg hD;have HO : Hid ((w1.alloc (.cells #[.int .i64 r.kind, .int .i64 r.key, .int .i64 r.ver, .slice a1 r.data.length c1] 32)).ownsRow (w.heap.size + 1) 5 1 (.slice a1 r.data.length c1) r.data.length (r.data.map bv)) := Z8 (Z9 ho g2) hwr;have HSZ : Hid (w.heap.size + 1 ≤ w1.heap.size) := Nat.le_trans hwr g1.size;obtain ⟨r0, r1, r2, r3⟩ := Xm hR2 rfl rfl rfl rfl;clear x0 x1 hR hg hD g1 g2 ho hR2 hwr;by_cases hk1 : r.kind = 1
   ·have HN2 : Hid (Y8 d (k + 1) = xs) := by show _ = _; rw [HN.out, if_pos hk1]
    have d1 : (r.kind != 1) = false := by simp [hk1]
    clear hk1 HN HO;go_wp2_with fail;go_roundw
    case rel => exact ⟨k + 1, _, by omega, by go_num, by rw [HN2.out]; exact hO2, gw2, hD2⟩
    case measure => simp [intOf]; omega
   ·have HN2 : Hid (Y8 d (k + 1) = xs ++ [⟨r, (k : Int)⟩]) := by show _ = _; rw [HN.out, if_neg hk1]
    have d1 : (r.kind != 1) = true := by simp [hk1]
    have hnew : ∀ (j : Nat) u, ([.int .i64 r.kind, .int .i64 r.key, .int .i64 r.ver, .slice a1 r.data.length c1, .int .i64 (k : Int)] : List Value)[j]? = some u → ((w1.alloc (.cells #[.int .i64 r.kind, .int .i64 r.key, .int .i64 r.ver, .slice a1 r.data.length c1] 32)).alloc (.cells #[.int .i64 r.kind, .int .i64 r.key, .int .i64 r.ver, .slice a1 r.data.length c1, .int .i64 (k : Int)] 71)).cell? ((⟨w1.heap.size + 1, 0, none⟩ : Addr).add j) = some u := by
     intro j u hj;have h := Xk (w1.alloc (.cells #[.int .i64 r.kind, .int .i64 r.key, .int .i64 r.ver, .slice a1 r.data.length c1] 32)) _ _ _ _ _ 71 j u hj;rw [World.size_alloc] at h;exact h
    have HXE : Hid (Yc.enc (InS NoS (w.heap.size + 1) (w1.alloc (.cells #[.int .i64 r.kind, .int .i64 r.key, .int .i64 r.ver, .slice a1 r.data.length c1] 32))) (w1.alloc (.cells #[.int .i64 r.kind, .int .i64 r.key, .int .i64 r.ver, .slice a1 r.data.length c1] 32)) ⟨r, (k : Int)⟩ [.int .i64 r.kind, .int .i64 r.key, .int .i64 r.ver, .slice a1 r.data.length c1, .int .i64 (k : Int)]) := ⟨_, rfl, Zh3 _ (Nat.le_refl _) HO.out⟩;clear hk1 HN HO;go_wp2_with (first | (at_builtin; refine wpList_append_own _ rfl (.tmp 19) (.tmp 23) 69 rfl (w.heap.size + 1) 71 i0 (.agg #[.int .i64 0, .int .i64 0, .int .i64 0, .slice none 0 0, .int .i64 0]) 5 56 Try.underlying69 hif hz0 hz1 hz2 rfl (by decide) (.slice a0 xs.length c0) _ _ rfl (hO2.row.alloc _) ⟨w1.heap.size + 1, 0, none⟩ 1 1 [.int .i64 r.kind, .int .i64 r.key, .int .i64 r.ver, .slice a1 r.data.length c1, .int .i64 (k : Int)] rfl rfl hnew (by intro u hu; simp at hu; rcases hu with rfl | rfl | rfl | rfl | rfl <;> rfl) (by unfold maxLen; omega) (by omega) (by have := HSZ.out; simp; omega) ?_; intro v4 w4 hown4 hgrow4 _; have hR6 := hO2.step (x := ⟨r, (k : Int)⟩) (by decide) (fun b h => h.elim) HXE.out hgrow4 hown4; have g6 : Zm w w4 := Z1 (gw2.trans (Zh _ _)) hgrow4 (fun k hk => by have := (hO2.row.lt k hk).1; omega); have hD6 := (Y9 hO2.row hgrow4 (Xp hO2.row (by omega)) (Zg hD2)).trans hD2; have hsl := Yv hown4; obtain ⟨a4, c4, hv4⟩ := hsl; subst hv4; clear hgrow4 hown4 hO2 hnew hD2 gw2));go_roundw
    case rel => exact ⟨k + 1, _, by omega, by go_num, by rw [HN2.out]; exact hR6, g6, hD6⟩
    case measure => simp [intOf]; omega
  ·have HS : Hid (Srt NoS (w.heap.size + 1) w _ (Y8 d 6) (Y8 d 6) wr) := ⟨⟨css, by rw [show 6 = k from by omega]; exact hR⟩, List.Perm.refl _, hg⟩;clear hR hg hD;go_wp2_with fail;refine (Zhl NoS (w.heap.size + 1) w _ (Y8 d 6) wr (fun b h => h.elim) (by omega) (Jc d 6) (Kv d 6) HS.out).mono ?_;rintro e w2 ⟨rfl, ys, hS2, hU2⟩;have HE := Zdv d 6 (by omega) hS2.perm hU2;subst HE;obtain ⟨css2, hR2⟩ := hS2.row;have hL := hR2.slice.mono (S' := fun b => w.heap.size ≤ b) (fun b h => h.elim (fun x => x.elim) (fun x => by omega));have gE := hS2.grow;clear HS hS2 hU2 hR2;go_wp2_with fail;go_ret;exact ⟨_, rfl, hL, gE⟩
end Go.Proofs.Ytpdnapbchcdhlaa
