import Derived.Test.YtpdnapbchcdhlacGreatIdxG
import Derived.Test.YtpdnapbchcdhlacGreatIdxF
set_option maxHeartbeats 8000000
namespace Go.Proofs.YtpdnapbchcdhlacGreat
set_option maxRecDepth 100000
open Go.RowKit
open Plain Reg
theorem Zp0 (n : Nat) (w : World) (hn : n ≤ 6) : Calls Tryz.prog 149 #[.int .u64 (n : Int)] w fun e w' => ∃ r, e = .returned (.int .i64 r) ∧ w' = w := by
 have h : n = 0 ∨ n = 1 ∨ n = 2 ∨ n = 3 ∨ n = 4 ∨ n = 5 ∨ n = 6 := by omega
 rcases h with rfl | rfl | rfl | rfl | rfl | rfl | rfl
 all_goals
  go_enter Tryz.func149, Tryz.ntmps149;go_wp2_with fail;go_ret;exact ⟨_, rfl, rfl⟩
theorem Zvb (n : Nat) (w : World) (hn : n ≤ 6) : Calls Tryz.prog 111 #[.int .u64 (n : Int)] w fun e w' => ∃ r, e = .returned (.int .i64 r) ∧ w' = w := by
 go_enter Tryz.func111, Tryz.ntmps111;go_wp2_with fail;refine (Zp0 n w hn).mono ?_;rintro e w1 ⟨r, rfl, rfl⟩;go_wp2_with fail;go_ret;exact ⟨_, rfl, rfl⟩
theorem Zuw (S0 : Nat → Prop) (B : Nat) (w0 : World) (v : Value) (xs : List Ent) (r : Int) (w : World) (hS0 : ∀ b, S0 b → b < B) (hB : w0.heap.size ≤ B) (hn : xs.length ≤ 12) (hU : Ju xs) (hR : Srt S0 B w0 v xs xs w) :
  Calls Tryz.prog 110 #[v, .int .i64 0, .int .i64 (xs.length : Int), .int .i64 r, .func (.func 74) #[] #[]] w fun e w' => e = .returned (.tuple #[]) ∧ ∃ ys, Srt S0 B w0 v xs ys w' ∧ ys.Pairwise Ups := by
 have HH : Hid (Srt S0 B w0 v xs xs w) := hR;clear hR;go_enter Tryz.func110, Tryz.ntmps110;go_wp2_with fail;go_loopw [1, 2] (fun i j wr => i = .int .i64 0 ∧ j = .int .i64 (xs.length : Int) ∧ w = wr) (fun _ _ _ => 0)
 case atStart => exact ⟨rfl, rfl, rfl⟩
 case round =>
  obtain ⟨rfl, rfl, hww⟩ := hrel;subst hww;have d0 : (xs.length : Int) ≤ 12 := by omega
  go_wp2_with fail;refine (Zp3 S0 B w0 v xs w hS0 hB hn hU HH.out).mono ?_;rintro e w1 ⟨rfl, hE⟩;clear HH d0;go_wp2_with fail;exact bodyPost_ret (v := .tuple #[]) (by simp [results, Tryz.results110, go_sem]) rfl ⟨rfl, hE⟩
theorem Zrt (S0 : Nat → Prop) (B : Nat) (w0 : World) (v : Value) (xs : List Ent) (w : World) (hS0 : ∀ b, S0 b → b < B) (hB : w0.heap.size ≤ B) (hn : xs.length ≤ 6) (hU : Ju xs) (hR : Srt S0 B w0 v xs xs w) :
  Calls Tryz.prog 73 #[v, .func (.func 74) #[] #[]] w fun e w' => e = .returned (.tuple #[]) ∧ ∃ ys, Srt S0 B w0 v xs ys w' ∧ ys.Pairwise Ups := by
 obtain ⟨css0, hR0⟩ := hR.row;obtain ⟨ao, cap, rfl⟩ := hR0.form;have HH : Hid (Srt S0 B w0 (.slice ao xs.length cap) xs xs w) := hR;clear hR0 css0 hR;have hn64 : (xs.length : Int) % 18446744073709551616 = (xs.length : Int) := by omega
 go_enter Tryz.func73, Tryz.ntmps73;go_wp2_with fail;refine (Zvb xs.length w hn).mono ?_;rintro e w1 ⟨r, rfl, rfl⟩;go_wp2_with fail;refine (Zuw S0 B w0 _ xs r w1 hS0 hB (by omega) hU HH.out).mono ?_;rintro e w2 ⟨rfl, hE⟩;clear HH;go_wp2_with fail;go_end0;exact ⟨rfl, hE⟩
theorem Zg5 (d : Dk) (v : Value) (w : World) (hF : d.Fine 1000) (hd : Q8 d v w) :
  Calls Tryz.prog 39 #[v] w fun r w' => ∃ v', r = .returned v' ∧ Yq (fun b => w.heap.size ≤ b) w' v' (Z4 d 6) ∧ Zl w w' := by
 obtain ⟨i0, hif, hz0, hz1, hz2⟩ := info_parts Za7;obtain ⟨ab, cb, al, cl, rfl, -, -⟩ := hd.form;have g0 := Zb w (.cells #[.slice ab d.blocks.length cb, .slice al d.late.length cl] 26);have hD0 := Zk w #[.slice ab d.blocks.length cb, .slice al d.late.length cl] 26;go_enter Tryz.func39, Tryz.ntmps39;go_wp2_with fail;generalize World.alloc w _ = W at *;go_loopw [3, 7] (fun o i wr => ∃ (k : Nat) (css : List (List Value)), k ≤ 6 ∧ i = .int .i64 (k : Int) ∧ Yv Y3 NoS (w.heap.size + 1) o (Qe d k) css wr ∧ Zl w wr ∧ wr.heap[w.heap.size]? = some (.cells #[.slice ab d.blocks.length cb, .slice al d.late.length cl] 26 (0, 0))) (fun _ i _ => 6 - (intOf i).toNat)
 case atStart => exact ⟨0, [], Nat.zero_le _, rfl, Yv.nil _ _ _ _, g0, hD0⟩
 case round =>
  clear g0 hD0;obtain ⟨k, css, hk, rfl, hR, hg, hD⟩ := hrel;by_cases hlt : k < 6
  ·have hxl : (Qe d k).length ≤ 6 := Nat.le_trans (Zdh d k) hk;have HN : Hid (Qe d (k + 1) = if (d.tell (k : Int)).kind = 1 then Qe d k else Qe d k ++ [⟨d.tell (k : Int), (k : Int)⟩]) := rfl;obtain ⟨a0, c0, rfl⟩ := hR.form;obtain ⟨x0, x1⟩ := X1 hD rfl rfl;go_wp2_with fail;refine (J3 d (k : Int) _ _ hF (hd.s.grow hg).p).mono ?_;rintro e w1 ⟨dv, rfl, ho, g1⟩;obtain ⟨a1, c1, rfl⟩ := Z8 ho;generalize d.tell (k : Int) = r at *;generalize d.how (k : Int) = how at *;generalize Qe d k = xs at *;have g2 := Zb w1 (.cells #[.int .i64 r.kind, .int .i64 r.key, .int .i64 r.ver, .slice a1 r.data.length c1] 61);have hR2 := Zk w1 #[.int .i64 r.kind, .int .i64 r.key, .int .i64 r.ver, .slice a1 r.data.length c1] 61;have hD2 := ((g1.trans g2).block _ (Za hD)).trans hD;have hO2 := hR.grow (g1.trans g2);have gw2 := hg.trans (g1.trans g2);have hwr : w.heap.size + 1 ≤ wr.heap.size := Za hD;have HO : Hid ((w1.alloc (.cells #[.int .i64 r.kind, .int .i64 r.key, .int .i64 r.ver, .slice a1 r.data.length c1] 61)).ownsRow (w.heap.size + 1) 5 1 (.slice a1 r.data.length c1) r.data.length (r.data.map bv)) := Yd (Z7 ho g2) hwr;have HSZ : Hid (w.heap.size + 1 ≤ w1.heap.size) := Nat.le_trans hwr g1.size;obtain ⟨r0, r1, r2, r3⟩ := Yk hR2 rfl rfl rfl rfl;clear x0 x1 hR hg hD g1 g2 ho hR2 hwr;by_cases hk1 : r.kind = 1
   ·have HN2 : Hid (Qe d (k + 1) = xs) := by show _ = _; rw [HN.out, if_pos hk1]
    have d1 : (r.kind != 1) = false := by simp [hk1]
    clear hk1 HN HO;go_wp2_with fail;go_roundw
    case rel => exact ⟨k + 1, _, by omega, by go_num, by rw [HN2.out]; exact hO2, gw2, hD2⟩
    case measure => simp [intOf]; omega
   ·have HN2 : Hid (Qe d (k + 1) = xs ++ [⟨r, (k : Int)⟩]) := by show _ = _; rw [HN.out, if_neg hk1]
    have d1 : (r.kind != 1) = true := by simp [hk1]
    have hnew : ∀ (j : Nat) u, ([.int .i64 r.kind, .int .i64 r.key, .int .i64 r.ver, .slice a1 r.data.length c1, .int .i64 (k : Int)] : List Value)[j]? = some u → ((w1.alloc (.cells #[.int .i64 r.kind, .int .i64 r.key, .int .i64 r.ver, .slice a1 r.data.length c1] 61)).alloc (.cells #[.int .i64 r.kind, .int .i64 r.key, .int .i64 r.ver, .slice a1 r.data.length c1, .int .i64 (k : Int)] 92)).cell? ((⟨w1.heap.size + 1, 0, none⟩ : Addr).add j) = some u := by
     intro j u hj;have h := V6 (w1.alloc (.cells #[.int .i64 r.kind, .int .i64 r.key, .int .i64 r.ver, .slice a1 r.data.length c1] 61)) _ _ _ _ _ 92 j u hj;rw [World.size_alloc] at h;exact h
    have HXE : Hid (Y3.enc (InS NoS (w.heap.size + 1) (w1.alloc (.cells #[.int .i64 r.kind, .int .i64 r.key, .int .i64 r.ver, .slice a1 r.data.length c1] 61))) (w1.alloc (.cells #[.int .i64 r.kind, .int .i64 r.key, .int .i64 r.ver, .slice a1 r.data.length c1] 61)) ⟨r, (k : Int)⟩ [.int .i64 r.kind, .int .i64 r.key, .int .i64 r.ver, .slice a1 r.data.length c1, .int .i64 (k : Int)]) := ⟨_, rfl, Zfh _ (Nat.le_refl _) HO.out⟩;clear hk1 HN HO;go_wp2_with (first | (at_builtin; refine wpList_append_own _ rfl (.tmp 19) (.tmp 23) 27 rfl (w.heap.size + 1) 92 i0 (.agg #[.int .i64 0, .int .i64 0, .int .i64 0, .slice none 0 0, .int .i64 0]) 5 56 Tryz.underlying27 hif hz0 hz1 hz2 rfl (by decide) (.slice a0 xs.length c0) _ _ rfl (hO2.row.alloc _) ⟨w1.heap.size + 1, 0, none⟩ 1 1 [.int .i64 r.kind, .int .i64 r.key, .int .i64 r.ver, .slice a1 r.data.length c1, .int .i64 (k : Int)] rfl rfl hnew (by intro u hu; simp at hu; rcases hu with rfl | rfl | rfl | rfl | rfl <;> rfl) (by unfold maxLen; omega) (by omega) (by have := HSZ.out; simp; omega) ?_; intro v4 w4 hown4 hgrow4 _; have hR6 := hO2.step (x := ⟨r, (k : Int)⟩) (by decide) (fun b h => h.elim) HXE.out hgrow4 hown4; have g6 : Zl w w4 := Yj (gw2.trans (Zb _ _)) hgrow4 (fun k hk => by have := (hO2.row.lt k hk).1; omega); have hD6 := (Qr hO2.row hgrow4 (Jq hO2.row (by omega)) (Za hD2)).trans hD2; have hsl := X8 hown4; obtain ⟨a4, c4, hv4⟩ := hsl; subst hv4; clear hgrow4 hown4 hO2 hnew hD2 gw2));go_roundw
    case rel => exact ⟨k + 1, _, by omega, by go_num, by rw [HN2.out]; exact hR6, g6, hD6⟩
    case measure => simp [intOf]; omega
  ·have HS : Hid (Srt NoS (w.heap.size + 1) w _ (Qe d 6) (Qe d 6) wr) := ⟨⟨css, by rw [show 6 = k from by omega]; exact hR⟩, List.Perm.refl _, hg⟩;clear hR hg hD;go_wp2_with fail;refine (Zrt NoS (w.heap.size + 1) w _ (Qe d 6) wr (fun b h => h.elim) (by omega) (Zdh d 6) (Zcp d 6) HS.out).mono ?_;rintro e w2 ⟨rfl, ys, hS2, hU2⟩;have HE := Zlh d 6 (by omega) hS2.perm hU2;subst HE;obtain ⟨css2, hR2⟩ := hS2.row;have hL := hR2.slice.mono (S' := fun b => w.heap.size ≤ b) (fun b h => h.elim (fun x => x.elim) (fun x => by omega));have gE := hS2.grow;clear HS hS2 hU2 hR2;go_wp2_with fail;go_ret;exact ⟨_, rfl, hL, gE⟩
variable {l : List Ent}
theorem Znr {r : Rec} (h : Z3 r = 0) : r.data.length ≤ 8 := (Vw h).2.2.2.2.2.2
theorem Zel (h : Ql l = true) : ∀ x ∈ l, x.rc.data.length ≤ 8 := fun x hx => Znr (((Xi l).1 h).2 x hx).1
theorem Zus (h : Ql l = true) : ∀ x ∈ l, 0 ≤ x.pair := fun x hx => (((Xi l).1 h).2 x hx).2.2.1
theorem K0 (h : Ql l = true) : l.length ≤ 1000000 := by have := Zo3 h; omega
theorem Zw0 : Zxg := fun S l p v w _ hr hl => (Zpd S l p v w hl (K0 hr) (Zel hr)).mono fun _ w' ⟨v', _, h1, h2, h3⟩ => ⟨v', h1, by
 have h4 := h2.from.mono (S' := Z2 S w.heap.size) fun _ h => .inr h
 have e : (l.filter fun x => x.pair != p) = Jl l p := by
  unfold Jl
  congr 1
  funext x
  by_cases h : x.pair = p <;> simp [h]
 rw [← e]; exact h4, h3⟩
theorem Zxt : Zx5 := fun S l e a c v w _ hr hne hw hl hb => (Zsf S l e a c v w hl (K0 hr) (Zel hr) (Znr hw) hne hb).mono fun _ w' ⟨v', h1, h2, h3⟩ => ⟨v', h1, by
 rw [Jh, ← Zcz e l ((Xi l).1 hr).1 hne];exact h2.mono fun _ h => .inr h, h3⟩
theorem Zwz : Zxf := fun S l key ver v w _ hr hl => Zpb S l key ver v w hl (K0 hr) (Zel hr)
theorem Zwy : Zxe := fun S l pairs v w hr _ hl => Zpa S l pairs v w hl (K0 hr) (Zus hr)
theorem Zxx (y : Int) : bits .and .i64 y 1 = y % 2 := by
 have e1 : (BitVec.ofInt 64 y).toNat = (y % 18446744073709551616).toNat := by simp [BitVec.toNat_ofInt]
 have e2 : (BitVec.ofInt 64 1).toNat = 1 := by decide
 show IntKind.i64.wrap ((BitVec.ofInt 64 y &&& BitVec.ofInt 64 1).toNat : Int) = _;rw [BitVec.toNat_and, e1, e2, Nat.and_two_pow_sub_one_eq_mod _ 1, IntKind.wrap_i64];omega
theorem Zuo (b : Int) (k : Nat) (hk : k < 60) : Xv b k = (b / 2 ^ k % 2 == 1) := by
 have hr0 : 0 ≤ b % 18446744073709551616 := by omega
 obtain ⟨r, hr⟩ := Int.eq_ofNat_of_zero_le hr0;obtain ⟨t, ht⟩ : ∃ t, t = b / 18446744073709551616 := ⟨_, rfl⟩;have hb : b = (r : Int) + 2 ^ k * (2 ^ (63 - k) * 2 * t) := by
  have h64 : (2 : Int) ^ k * (2 ^ (63 - k) * 2) = 18446744073709551616 := by
   rw [← Int.mul_assoc, ← Int.pow_add, show k + (63 - k) = 63 from by omega]; decide
  rw [← Int.mul_assoc, h64]; omega
 have hpos : (2 : Int) ^ k ≠ 0 := by
  have : (0 : Int) < 2 ^ k := Int.pow_pos (by decide);omega
 have hq : b / 2 ^ k = (r : Int) / 2 ^ k + 2 ^ (63 - k) * 2 * t := by
  rw [hb, Int.add_mul_ediv_left _ _ hpos]
 have hd : (r : Int) / 2 ^ k = ((r / 2 ^ k : Nat) : Int) := by
  rw [Int.natCast_ediv, Int.natCast_pow]; rfl
 unfold Xv;rw [hr, Int.toNat_natCast, decide_eq_true hk, Bool.true_and, hq, hd];generalize r / 2 ^ k = s;have e : (2 : Int) ^ (63 - k) * 2 * t = 2 * (2 ^ (63 - k) * t) := by
  rw [Int.mul_comm (2 ^ (63 - k)) 2, Int.mul_assoc]
 rw [e];generalize (2 : Int) ^ (63 - k) * t = z;have e2 : ((s : Int) + 2 * z) % 2 = (s : Int) % 2 := by omega
 rw [e2];rcases Nat.mod_two_eq_zero_or_one s with h | h
 ·have h' : (s : Int) % 2 = 0 := by omega
  rw [h, h']; rfl
 ·have h' : (s : Int) % 2 = 1 := by omega
  rw [h, h']; rfl
theorem Zdx (d : Dk) (bt : Int) (vb vl : Value) (w : World) (hb : X3 w vb d.blocks) (hl : Vk w vl d.late) (h0 : 0 < d.blocks.length) (hlen : d.blocks.length ≤ 256) (hm : d.late.length ≤ 60) (hb16 : ∀ x ∈ d.blocks, x.length ≤ 1000) (hl16 : ∀ x ∈ d.late, x.2.length ≤ 1000) (hp : ∀ x ∈ d.late, 0 ≤ x.1 ∧ x.1 < (d.blocks.length : Int)) :
  Calls Tryz.prog 87 #[.agg #[vb, vl], .int .i64 bt] w fun e w' => ∃ v, e = .returned v ∧ Qw w.heap.size (d.keep bt) v w' ∧ Zl w w' := by
 obtain ⟨ab, cb, rfl⟩ := hb.form;have hcap : ∃ al cl, vl = .slice al d.late.length cl ∧ d.late.length ≤ cl := by
  rcases hl with ⟨ao, cap, rfl, e, _⟩ | ⟨b, off, cap, rfl, h1, _⟩
  ·exact ⟨ao, cap, by rw [e]; rfl, by rw [e]; exact Nat.zero_le _⟩
  ·exact ⟨_, cap, rfl, h1⟩
 obtain ⟨al, cl, rfl, hcl⟩ := hcap;have gW := Zq w (.cells #[.slice ab d.blocks.length cb, .slice al d.late.length cl] 26) (.cells #[.slice none 0 0, .slice none 0 0] 26);have hx := hx1 w #[.slice ab d.blocks.length cb, .slice al d.late.length cl] #[.slice none 0 0, .slice none 0 0];have hy := hy1 w #[.slice ab d.blocks.length cb, .slice al d.late.length cl] #[.slice none 0 0, .slice none 0 0];go_enter Tryz.func87, Tryz.ntmps87;go_wp2_with fail;refine (V9 d.blocks _ _ (hb.grow gW) hlen hb16).mono ?_;rintro e w1 ⟨v1, us, rfl, hU, -, g1⟩;obtain ⟨q, cap, rfl⟩ := Zdj hU h0;have g2 := Zb w1 (.cells #[.slice (some ⟨q, 0, none⟩) d.blocks.length cap, .slice none 0 0] 26);have hxw := ((g1.trans g2).block _ (Za hx)).trans hx;have hyw := ((g1.trans g2).block _ (Za hy)).trans hy;have hstart : K8 d w #[.slice ab d.blocks.length cb, .slice al d.late.length cl] (.slice (some ⟨q, 0, none⟩) d.blocks.length cap) w1.heap.size (Xv bt) 0 (w1.alloc (.cells #[.slice (some ⟨q, 0, none⟩) d.blocks.length cap, .slice none 0 0] 26)) :=
  ⟨gW.trans (g1.trans g2), hxw, hyw, Zk _ _ _, us, (hU.grow g2).mono (by simp)⟩
 have x1 := Zc hxw 1 _ rfl;clear hU hxw hyw hx hy gW g1 g2 hb;have hmi : (d.late.length : Int) ≤ 60 := by omega
 go_wp2_with fail;clear x1 hmi;generalize w1.heap.size = g at *;generalize World.alloc w1 _ = W at *;have a1 := Zxx;go_loopw [20] (fun i wr => ∃ k : Nat, k ≤ d.late.length ∧ i = .int .i64 k ∧ K8 d w #[.slice ab d.blocks.length cb, .slice al d.late.length cl] (.slice (some ⟨q, 0, none⟩) d.blocks.length cap) g (Xv bt) k wr) (fun i _ => d.late.length - (intOf i).toNat)
 case atStart => exact ⟨0, Nat.zero_le _, rfl, hstart⟩
 case round =>
  clear hstart;obtain ⟨k, hk, rfl, hL⟩ := hrel;by_cases hlt : k < d.late.length
  ·obtain ⟨b, off, hvl, hc0, u, hc1, hu⟩ := (hl.grow hL.1).at k hlt;cases hvl;have hpk := hp d.late[k] (List.getElem_mem _);have hx16 := hl16 d.late[k] (List.getElem_mem _);obtain ⟨m, hm0⟩ := Int.eq_ofNat_of_zero_le hpk.1;have hmn : m < d.blocks.length := by have := hpk.2; omega
   rw [hm0] at hc0;obtain ⟨au, cu, rfl, -, -⟩ := Yo hu;have hll := hL.grow (Zb wr (.cells #[.int .i64 (m : Int), .slice au (d.late[k].2).length cu] 107));have hSB := Zuo bt k (by omega);have hk64 : (k : Int) ≤ 64 := by omega
   by_cases hon : Xv bt k = true
   ·obtain ⟨us1, hU1⟩ := hll.2.2.2.2;have hkl : (d.keepTo (Xv bt) k).length = d.blocks.length := d.keepTo_length _ _;have hrow1 := hU1.row;rw [hkl] at hrow1;have hu1 := Zz hu (Zb wr (.cells #[.int .i64 (m : Int), .slice au (d.late[k].2).length cu] 107));have hfin := fun (l : List UInt8) (e : d.late[k].2 = l) v' w' => K8.land (v' := v') (w' := w') hll hon hlt hm0 e hU1
    have y0 := Zc hll.2.2.2.1 0 _ rfl;have y1 := Zc hll.2.2.2.1 1 _ rfl;replace hfin := hfin _ rfl;rw [hon] at hSB;have hbit : (bt / 2 ^ k % 2 == 1) = true := hSB.symm;clear hm0 hU1 hL hu hkl hpk hll hSB hon;generalize d.late[k].2 = data at *;go_wp2_with fail;refine (Zkc q (w.heap.size + 1 + 1) d.blocks.length cap m us1 _ _ _ _ data _ _ rfl hmn hrow1 hu1 hx16).mono ?_;rintro e w2 ⟨rfl, v', hbut, hQ⟩;have hend := hfin v' w2 hbut hQ;clear hfin hbut hQ hrow1 hu1 y0 y1;go_wp2_with fail;go_roundw
    case rel => exact ⟨k + 1, by omega, by simp, hend⟩
    case measure => simp [intOf]; omega
   ·have hoff : Xv bt k = false := by simpa using hon
    have hend := hll.skip hoff;rw [hoff] at hSB;have hbit : (bt / 2 ^ k % 2 == 1) = false := hSB.symm;clear hm0 hL hu hpk hll hSB hon hoff;generalize d.late[k].2 = data at *;go_wp2_with fail;go_roundw
    case rel => exact ⟨k + 1, by omega, by simp, hend⟩
    case measure => simp [intOf]; omega
  ·have hk' : k = d.late.length := by omega
   subst hk';obtain ⟨gL, -, hLr, hLg, us1, hU1⟩ := hL;obtain ⟨y0, y1⟩ := X1 hLg rfl rfl;obtain ⟨z0, z1⟩ := X1 hLr rfl rfl;have f0 := Zo hLr 0;have f1 := Zo hLr 1;have cs := Zu;obtain ⟨hp1, hp2⟩ := Qa hLr (.slice (some ⟨q, 0, none⟩) d.blocks.length cap) (.slice none 0 0);have hstep : Ys 26 wr _ := .inr ⟨_, _, _, hp2, hLr, hp1, rfl⟩;have gE := hp2.grow gL (by omega);have hE := (hU1.box hstep).mono (B' := w.heap.size) (by omega);clear hp1 hp2 hstep hU1 hLg hLr gL hl;go_wp2_with fail;exact bodyPost_ret (v := .agg #[.slice (some ⟨q, 0, none⟩) d.blocks.length cap, .slice none 0 0]) (by simp [results, Tryz.results87, go_sem, z0, z1, cs]) rfl ⟨_, rfl, ⟨_, _, rfl, ⟨us1, hE⟩, Qs.nil _ _⟩, gE⟩
end Go.Proofs.YtpdnapbchcdhlacGreat
