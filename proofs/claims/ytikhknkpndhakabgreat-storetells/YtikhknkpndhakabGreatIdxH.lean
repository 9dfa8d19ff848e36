import Derived.Test.YtikhknkpndhakabGreatIdxG
import Derived.Test.YtikhknkpndhakabGreatPairP
import Derived.Test.YtikhknkpndhakabGreatIdxF
set_option maxHeartbeats 8000000
namespace Go.Proofs.YtikhknkpndhakabGreat
set_option maxRecDepth 100000
open Go.RowKit
open Plain Reg
theorem Zpd (n : Nat) (w : World) (hn : n ≤ 6) : Calls Tryz.prog 135 #[.int .u64 (n : Int)] w fun e w' => ∃ r, e = .returned (.int .i64 r) ∧ w' = w := by
 have h : n = 0 ∨ n = 1 ∨ n = 2 ∨ n = 3 ∨ n = 4 ∨ n = 5 ∨ n = 6 := by omega
 rcases h with rfl | rfl | rfl | rfl | rfl | rfl | rfl
 all_goals
  go_enter Tryz.func135, Tryz.ntmps135;go_wp2_with fail;go_ret;exact ⟨_, rfl, rfl⟩
theorem Znq (n : Nat) (w : World) (hn : n ≤ 6) : Calls Tryz.prog 92 #[.int .u64 (n : Int)] w fun e w' => ∃ r, e = .returned (.int .i64 r) ∧ w' = w := by
 go_enter Tryz.func92, Tryz.ntmps92;go_wp2_with fail;refine (Zpd n w hn).mono ?_;rintro e w1 ⟨r, rfl, rfl⟩;go_wp2_with fail;go_ret;exact ⟨_, rfl, rfl⟩
theorem Zt0 (S0 : Nat → Prop) (B : Nat) (w0 : World) (v : Value) (xs : List Ent) (r : Int) (w : World) (hS0 : ∀ b, S0 b → b < B) (hB : w0.heap.size ≤ B) (hn : xs.length ≤ 12) (hU : J0 xs) (hR : Srt S0 B w0 v xs xs w) :
  Calls Tryz.prog 121 #[v, .int .i64 0, .int .i64 (xs.length : Int), .int .i64 r, .func (.func 83) #[] #[]] w fun e w' => e = .returned (.tuple #[]) ∧ ∃ ys, Srt S0 B w0 v xs ys w' ∧ ys.Pairwise Ups := by
 have HH : Hid (Srt S0 B w0 v xs xs w) := hR;clear hR;go_enter Tryz.func121, Tryz.ntmps121;go_wp2_with fail;go_loopw [1, 2] (fun i j wr => i = .int .i64 0 ∧ j = .int .i64 (xs.length : Int) ∧ w = wr) (fun _ _ _ => 0)
 case atStart => exact ⟨rfl, rfl, rfl⟩
 case round =>
  obtain ⟨rfl, rfl, hww⟩ := hrel;subst hww;have d0 : (xs.length : Int) ≤ 12 := by omega
  go_wp2_with fail;refine (Zpk S0 B w0 v xs w hS0 hB hn hU HH.out).mono ?_;rintro e w1 ⟨rfl, hE⟩;clear HH d0;go_wp2_with fail;exact bodyPost_ret (v := .tuple #[]) (by simp [results, Tryz.results121, go_sem]) rfl ⟨rfl, hE⟩
theorem Zqx (S0 : Nat → Prop) (B : Nat) (w0 : World) (v : Value) (xs : List Ent) (w : World) (hS0 : ∀ b, S0 b → b < B) (hB : w0.heap.size ≤ B) (hn : xs.length ≤ 6) (hU : J0 xs) (hR : Srt S0 B w0 v xs xs w) :
  Calls Tryz.prog 82 #[v, .func (.func 83) #[] #[]] w fun e w' => e = .returned (.tuple #[]) ∧ ∃ ys, Srt S0 B w0 v xs ys w' ∧ ys.Pairwise Ups := by
 obtain ⟨css0, hR0⟩ := hR.row;obtain ⟨ao, cap, rfl⟩ := hR0.form;have HH : Hid (Srt S0 B w0 (.slice ao xs.length cap) xs xs w) := hR;clear hR0 css0 hR;have hn64 : (xs.length : Int) % 18446744073709551616 = (xs.length : Int) := by omega
 go_enter Tryz.func82, Tryz.ntmps82;go_wp2_with fail;refine (Znq xs.length w hn).mono ?_;rintro e w1 ⟨r, rfl, rfl⟩;go_wp2_with fail;refine (Zt0 S0 B w0 _ xs r w1 hS0 hB (by omega) hU HH.out).mono ?_;rintro e w2 ⟨rfl, hE⟩;clear HH;go_wp2_with fail;go_end0;exact ⟨rfl, hE⟩
theorem Zor (d : Dk) (v : Value) (w : World) (hF : d.Fine 1000) (hd : Q8 d v w) :
  Calls Tryz.prog 44 #[v] w fun r w' => ∃ v', r = .returned v' ∧ Ys (fun b => w.heap.size ≤ b) w' v' (Yi d 6) ∧ Zp w w' := by
 obtain ⟨i0, hif, hz0, hz1, hz2⟩ := info_parts Zab;obtain ⟨ab, cb, al, cl, rfl, -, -⟩ := hd.form;have g0 := Zd w (.cells #[.slice ab d.blocks.length cb, .slice al d.late.length cl] 30);have hD0 := Zn w #[.slice ab d.blocks.length cb, .slice al d.late.length cl] 30;go_enter Tryz.func44, Tryz.ntmps44;go_wp2_with fail;generalize World.alloc w _ = W at *;go_loopw [3, 7] (fun o i wr => ∃ (k : Nat) (css : List (List Value)), k ≤ 6 ∧ i = .int .i64 (k : Int) ∧ Yr Y5 NoS (w.heap.size + 1) o (Qj d k) css wr ∧ Zp w wr ∧ wr.heap[w.heap.size]? = some (.cells #[.slice ab d.blocks.length cb, .slice al d.late.length cl] 30 (0, 0))) (fun _ i _ => 6 - (intOf i).toNat)
 case atStart => exact ⟨0, [], Nat.zero_le _, rfl, Yr.nil _ _ _ _, g0, hD0⟩
 case round =>
  clear g0 hD0;obtain ⟨k, css, hk, rfl, hR, hg, hD⟩ := hrel;by_cases hlt : k < 6
  ·have hxl : (Qj d k).length ≤ 6 := Nat.le_trans (Zc5 d k) hk;have HN : Hid (Qj d (k + 1) = if (d.tell (k : Int)).kind = 1 then Qj d k else Qj d k ++ [⟨d.tell (k : Int), (k : Int)⟩]) := rfl;obtain ⟨a0, c0, rfl⟩ := hR.form;obtain ⟨x0, x1⟩ := X1 hD rfl rfl;go_wp2_with fail;refine (Zot d (k : Int) _ _ hF (hd.s.grow hg).p).mono ?_;rintro e w1 ⟨dv, rfl, ho, g1⟩;obtain ⟨a1, c1, rfl⟩ := Z8 ho;generalize d.tell (k : Int) = r at *;generalize d.how (k : Int) = how at *;generalize Qj d k = xs at *;have g2 := Zd w1 (.cells #[.int .i64 r.kind, .int .i64 r.key, .int .i64 r.ver, .slice a1 r.data.length c1] 51);have hR2 := Zn w1 #[.int .i64 r.kind, .int .i64 r.key, .int .i64 r.ver, .slice a1 r.data.length c1] 51;have hD2 := ((g1.trans g2).block _ (Zb hD)).trans hD;have hO2 := hR.grow (g1.trans g2);have gw2 := hg.trans (g1.trans g2);have hwr : w.heap.size + 1 ≤ wr.heap.size := Zb hD;have HO : Hid ((w1.alloc (.cells #[.int .i64 r.kind, .int .i64 r.key, .int .i64 r.ver, .slice a1 r.data.length c1] 51)).ownsRow (w.heap.size + 1) 5 1 (.slice a1 r.data.length c1) r.data.length (r.data.map bv)) := Ye (Z5 ho g2) hwr;have HSZ : Hid (w.heap.size + 1 ≤ w1.heap.size) := Nat.le_trans hwr g1.size;obtain ⟨r0, r1, r2, r3⟩ := Yb hR2 rfl rfl rfl rfl;clear x0 x1 hR hg hD g1 g2 ho hR2 hwr;by_cases hk1 : r.kind = 1
   ·have HN2 : Hid (Qj d (k + 1) = xs) := by show _ = _; rw [HN.out, if_pos hk1]
    have d1 : (r.kind != 1) = false := by simp [hk1]
    clear hk1 HN HO;go_wp2_with fail;go_roundw
    case rel => exact ⟨k + 1, _, by omega, by go_num, by rw [HN2.out]; exact hO2, gw2, hD2⟩
    case measure => simp [intOf]; omega
   ·have HN2 : Hid (Qj d (k + 1) = xs ++ [⟨r, (k : Int)⟩]) := by show _ = _; rw [HN.out, if_neg hk1]
    have d1 : (r.kind != 1) = true := by simp [hk1]
    have hnew : ∀ (j : Nat) u, ([.int .i64 r.kind, .int .i64 r.key, .int .i64 r.ver, .slice a1 r.data.length c1, .int .i64 (k : Int)] : List Value)[j]? = some u → ((w1.alloc (.cells #[.int .i64 r.kind, .int .i64 r.key, .int .i64 r.ver, .slice a1 r.data.length c1] 51)).alloc (.cells #[.int .i64 r.kind, .int .i64 r.key, .int .i64 r.ver, .slice a1 r.data.length c1, .int .i64 (k : Int)] 54)).cell? ((⟨w1.heap.size + 1, 0, none⟩ : Addr).add j) = some u := by
     intro j u hj;have h := Vy (w1.alloc (.cells #[.int .i64 r.kind, .int .i64 r.key, .int .i64 r.ver, .slice a1 r.data.length c1] 51)) _ _ _ _ _ 54 j u hj;rw [World.size_alloc] at h;exact h
    have HXE : Hid (Y5.enc (InS NoS (w.heap.size + 1) (w1.alloc (.cells #[.int .i64 r.kind, .int .i64 r.key, .int .i64 r.ver, .slice a1 r.data.length c1] 51))) (w1.alloc (.cells #[.int .i64 r.kind, .int .i64 r.key, .int .i64 r.ver, .slice a1 r.data.length c1] 51)) ⟨r, (k : Int)⟩ [.int .i64 r.kind, .int .i64 r.key, .int .i64 r.ver, .slice a1 r.data.length c1, .int .i64 (k : Int)]) := ⟨_, rfl, Zdb _ (Nat.le_refl _) HO.out⟩;clear hk1 HN HO;go_wp2_with (first | (at_builtin; refine wpList_append_own _ rfl (.tmp 19) (.tmp 23) 31 rfl (w.heap.size + 1) 54 i0 (.agg #[.int .i64 0, .int .i64 0, .int .i64 0, .slice none 0 0, .int .i64 0]) 5 56 Tryz.underlying31 hif hz0 hz1 hz2 rfl (by decide) (.slice a0 xs.length c0) _ _ rfl (hO2.row.alloc _) ⟨w1.heap.size + 1, 0, none⟩ 1 1 [.int .i64 r.kind, .int .i64 r.key, .int .i64 r.ver, .slice a1 r.data.length c1, .int .i64 (k : Int)] rfl rfl hnew (by intro u hu; simp at hu; rcases hu with rfl | rfl | rfl | rfl | rfl <;> rfl) (by unfold maxLen; omega) (by omega) (by have := HSZ.out; simp; omega) ?_; intro v4 w4 hown4 hgrow4 _; have hR6 := hO2.step (x := ⟨r, (k : Int)⟩) (by decide) (fun b h => h.elim) HXE.out hgrow4 hown4; have g6 : Zp w w4 := Z7 (gw2.trans (Zd _ _)) hgrow4 (fun k hk => by have := (hO2.row.lt k hk).1; omega); have hD6 := (Xx hO2.row hgrow4 (V6 hO2.row (by omega)) (Zb hD2)).trans hD2; have hsl := Y0 hown4; obtain ⟨a4, c4, hv4⟩ := hsl; subst hv4; clear hgrow4 hown4 hO2 hnew hD2 gw2));go_roundw
    case rel => exact ⟨k + 1, _, by omega, by go_num, by rw [HN2.out]; exact hR6, g6, hD6⟩
    case measure => simp [intOf]; omega
  ·have HS : Hid (Srt NoS (w.heap.size + 1) w _ (Qj d 6) (Qj d 6) wr) := ⟨⟨css, by rw [show 6 = k from by omega]; exact hR⟩, List.Perm.refl _, hg⟩;clear hR hg hD;go_wp2_with fail;refine (Zqx NoS (w.heap.size + 1) w _ (Qj d 6) wr (fun b h => h.elim) (by omega) (Zc5 d 6) (Zcj d 6) HS.out).mono ?_;rintro e w2 ⟨rfl, ys, hS2, hU2⟩;have HE := Zk9 d 6 (by omega) hS2.perm hU2;subst HE;obtain ⟨css2, hR2⟩ := hS2.row;have hL := hR2.slice.mono (S' := fun b => w.heap.size ≤ b) (fun b h => h.elim (fun x => x.elim) (fun x => by omega));have gE := hS2.grow;clear HS hS2 hU2 hR2;go_wp2_with fail;go_ret;exact ⟨_, rfl, hL, gE⟩
theorem Zm7 {r : Rec} (h : Yh r = 0) : r.data.length ≤ 8 := (K4 h).2.2.2.2.2.2
theorem Zd7 {l : List Ent} (h : Qc l = true) : ∀ x ∈ l, x.rc.data.length ≤ 8 := fun x hx => Zm7 (((Xr l).1 h).2 x hx).1
theorem Ztv {l : List Ent} (h : Qc l = true) : ∀ x ∈ l, 0 ≤ x.pair := fun x hx => (((Xr l).1 h).2 x hx).2.2.1
theorem K3 {l : List Ent} (h : Qc l = true) : l.length ≤ 1000000 := by have := Zom h; omega
theorem Zvh : Zvt := fun S l p v w _ hr hl => (Zoy S l p v w hl (K3 hr) (Zd7 hr)).mono fun _ w' ⟨v', _, h1, h2, h3⟩ => ⟨v', h1, by
 have h4 := h2.from.mono (S' := Zx S w.heap.size) fun _ h => .inr h
 have e : (l.filter fun x => x.pair != p) = Vk l p := by
  unfold Vk
  congr 1
  funext x
  by_cases h : x.pair = p <;> simp [h]
 rw [← e]; exact h4, h3⟩
theorem Zv6 : Zwf := fun S l e a c v w _ hr hne hw hl hb => (Zrk S l e a c v w hl (K3 hr) (Zd7 hr) (Zm7 hw) hne hb).mono fun _ w' ⟨v', h1, h2, h3⟩ => ⟨v', h1, by
 rw [Jo, ← Zct e l ((Xr l).1 hr).1 hne];exact h2.mono fun _ h => .inr h, h3⟩
theorem Zvg : Zvs := fun S l key ver v w _ hr hl => Zox S l key ver v w hl (K3 hr) (Zd7 hr)
theorem Zvf : Zvr := fun S l pairs v w hr _ hl => Zow S l pairs v w hl (K3 hr) (Ztv hr)
structure Dd where
 kind : Int
 key : Int
 num : Int
 data : List UInt8
def Yq (d : Dd) : Int :=
 if d.kind < 1 ∨ 3 < d.kind then 1
 else if d.key < 1 ∨ 255 < d.key ∨ d.num < (if d.kind = 3 then 1 else 0) ∨ (if d.kind = 3 then 60000 else 0) < d.num then 3
 else if 8 < d.data.length ∨ d.kind ≠ 1 ∧ d.data.length ≠ 0 then 4 else 0
theorem Zjc (d : Dd) (a : Option Addr) (c : Nat) (w : World) (hm : d.data.length ≤ 140737488355328) :
  Calls Tryz.prog 27 #[.agg #[.int .i64 d.kind, .int .i64 d.key, .int .i64 d.num, .slice a d.data.length c]] w fun r w' => r = .returned (.int .i64 (Yq d)) ∧ Zp w w' := by
 have g0 := Zd w (.cells #[.int .i64 d.kind, .int .i64 d.key, .int .i64 d.num, .slice a d.data.length c] 25);obtain ⟨R, hR⟩ : ∃ R, R = Yq d := ⟨_, rfl⟩;rw [← hR];have HR : Hid _ := hR;clear hR;by_cases hk : d.kind < 1 ∨ 3 < d.kind
 ·have hRR : R = 1 := by rw [HR.out]; unfold Yq; rw [if_pos hk]
  subst hRR;rcases Int.lt_or_le d.kind 1 with h1 | h1
  ·clear hk;go_enter Tryz.func27, Tryz.ntmps27;go_wp2_with fail;go_ret;exact ⟨rfl, g0⟩
  ·have h2 : 3 < d.kind := by omega
   clear hk;go_enter Tryz.func27, Tryz.ntmps27;go_wp2_with fail;go_ret;exact ⟨rfl, g0⟩
 ·have h1 : 1 ≤ d.kind := by omega
  have h2 : d.kind ≤ 3 := by omega
  have HR2 : Hid (R = if d.key < 1 ∨ 255 < d.key ∨ d.num < (if d.kind = 3 then 1 else 0) ∨ (if d.kind = 3 then 60000 else 0) < d.num then 3 else if 8 < d.data.length ∨ d.kind ≠ 1 ∧ d.data.length ≠ 0 then 4 else 0) := by
   show R = _; rw [HR.out]; unfold Yq; rw [if_neg hk]
  clear hk HR;have key : ∀ lo hi : Int, (if d.kind = 3 then 1 else 0) = lo → (if d.kind = 3 then 60000 else 0) = hi → (d.key < 1 → R = 3) ∧ (255 < d.key → R = 3) ∧ (d.num < lo → R = 3) ∧ (hi < d.num → R = 3) ∧ (1 ≤ d.key → d.key ≤ 255 → lo ≤ d.num → d.num ≤ hi → (8 < d.data.length → R = 4) ∧ (d.kind ≠ 1 → d.data.length ≠ 0 → R = 4) ∧ (d.data.length ≤ 8 → (d.kind = 1 ∨ d.data.length = 0) → R = 0)) := by
   rintro lo hi rfl rfl;refine ⟨fun h => ?_, fun h => ?_, fun h => ?_, fun h => ?_, fun a1 a2 a3 a4 => ⟨fun h => ?_, fun h h' => ?_, fun h h' => ?_⟩⟩
   ·rw [HR2.out, if_pos (.inl h)]
   ·rw [HR2.out, if_pos (.inr (.inl h))]
   ·rw [HR2.out, if_pos (.inr (.inr (.inl h)))]
   ·rw [HR2.out, if_pos (.inr (.inr (.inr h)))]
   ·rw [HR2.out, if_neg (by omega), if_pos (.inl h)]
   ·rw [HR2.out, if_neg (by omega), if_pos (.inr ⟨h, h'⟩)]
   ·rw [HR2.out, if_neg (by omega), if_neg (by omega)]
  by_cases h3 : d.kind = 3
  ·obtain ⟨k1, k2, k3, k4, k5⟩ := key 1 60000 (by rw [if_pos h3]) (by rw [if_pos h3]);have K : Hid _ := And.intro k1 (And.intro k2 (And.intro k3 (And.intro k4 k5)));have d3 : (d.kind == 3) = true := by simp [h3]
   have d1 : (d.kind != 1) = true := by simp; omega
   clear key HR2 k1 k2 k3 k4 k5;by_cases y1 : d.key < 1
   ·obtain rfl := (K.out.1 y1).symm;clear h3 K;go_enter Tryz.func27, Tryz.ntmps27;go_wp2_with fail;go_ret;exact ⟨rfl, g0⟩
   ·by_cases y2 : 255 < d.key
    ·obtain rfl := (K.out.2.1 y2).symm;clear h3 K;go_enter Tryz.func27, Tryz.ntmps27;go_wp2_with fail;go_ret;exact ⟨rfl, g0⟩
    ·by_cases y3 : d.num < 1
     ·obtain rfl := (K.out.2.2.1 y3).symm;clear h3 K;go_enter Tryz.func27, Tryz.ntmps27;go_wp2_with fail;go_ret;exact ⟨rfl, g0⟩
     ·by_cases y4 : 60000 < d.num
      ·obtain rfl := (K.out.2.2.2.1 y4).symm;clear h3 K;go_enter Tryz.func27, Tryz.ntmps27;go_wp2_with fail;go_ret;exact ⟨rfl, g0⟩
      ·obtain ⟨k1, k2, k3⟩ := K.out.2.2.2.2 (by omega) (by omega) (by omega) (by omega);by_cases y5 : 8 < d.data.length
       ·obtain rfl := (k1 y5).symm;clear h3 K k1 k2 k3;go_enter Tryz.func27, Tryz.ntmps27;go_wp2_with fail;go_ret;exact ⟨rfl, g0⟩
       ·by_cases y6 : d.data.length = 0
        ·obtain rfl := (k3 (by omega) (.inr y6)).symm;have d6 : ((d.data.length : Int) != 0) = false := by simp; exact List.eq_nil_of_length_eq_zero y6
         clear h3 K k1 k2 k3 y6;go_enter Tryz.func27, Tryz.ntmps27;go_wp2_with fail;go_ret;exact ⟨rfl, g0⟩
        ·obtain rfl := (k2 (by omega) y6).symm;have d6 : ((d.data.length : Int) != 0) = true := by simp; intro e; exact y6 (by rw [e]; rfl)
         clear h3 K k1 k2 k3 y6;go_enter Tryz.func27, Tryz.ntmps27;go_wp2_with fail;go_ret;exact ⟨rfl, g0⟩
  ·obtain ⟨k1, k2, k3, k4, k5⟩ := key 0 0 (by rw [if_neg h3]) (by rw [if_neg h3]);have K : Hid _ := And.intro k1 (And.intro k2 (And.intro k3 (And.intro k4 k5)));have d3 : (d.kind == 3) = false := by simp [h3]
   clear key HR2 k1 k2 k3 k4 k5;by_cases y1 : d.key < 1
   ·obtain rfl := (K.out.1 y1).symm;clear h3 K;go_enter Tryz.func27, Tryz.ntmps27;go_wp2_with fail;go_ret;exact ⟨rfl, g0⟩
   ·by_cases y2 : 255 < d.key
    ·obtain rfl := (K.out.2.1 y2).symm;clear h3 K;go_enter Tryz.func27, Tryz.ntmps27;go_wp2_with fail;go_ret;exact ⟨rfl, g0⟩
    ·by_cases y3 : d.num < 0
     ·obtain rfl := (K.out.2.2.1 y3).symm;clear h3 K;go_enter Tryz.func27, Tryz.ntmps27;go_wp2_with fail;go_ret;exact ⟨rfl, g0⟩
     ·by_cases y4 : 0 < d.num
      ·obtain rfl := (K.out.2.2.2.1 y4).symm;clear h3 K;go_enter Tryz.func27, Tryz.ntmps27;go_wp2_with fail;go_ret;exact ⟨rfl, g0⟩
      ·obtain ⟨k1, k2, k3⟩ := K.out.2.2.2.2 (by omega) (by omega) (by omega) (by omega);by_cases y5 : 8 < d.data.length
       ·obtain rfl := (k1 y5).symm;clear h3 K k1 k2 k3;go_enter Tryz.func27, Tryz.ntmps27;go_wp2_with fail;go_ret;exact ⟨rfl, g0⟩
       ·by_cases y7 : d.kind = 1
        ·obtain rfl := (k3 (by omega) (.inl y7)).symm;have d7 : (d.kind != 1) = false := by simp [y7]
         clear h3 K k1 k2 k3 y7;go_enter Tryz.func27, Tryz.ntmps27;go_wp2_with fail;go_ret;exact ⟨rfl, g0⟩
        ·have d7 : (d.kind != 1) = true := by simp [y7]
         by_cases y6 : d.data.length = 0
         ·obtain rfl := (k3 (by omega) (.inr y6)).symm;have d6 : ((d.data.length : Int) != 0) = false := by simp; exact List.eq_nil_of_length_eq_zero y6
          clear h3 K k1 k2 k3 y6 y7;go_enter Tryz.func27, Tryz.ntmps27;go_wp2_with fail;go_ret;exact ⟨rfl, g0⟩
         ·obtain rfl := (k2 y7 y6).symm;have d6 : ((d.data.length : Int) != 0) = true := by simp; intro e; exact y6 (by rw [e]; rfl)
          clear h3 K k1 k2 k3 y6 y7;go_enter Tryz.func27, Tryz.ntmps27;go_wp2_with fail;go_ret;exact ⟨rfl, g0⟩
def Zum (r : Rec) : Bool := decide (Yh r = 0 ∧ r.kind ≠ 1)
def Jx (l : List Rec) : Bool := l.all Zum && decide (l.length ≤ 40)
def Ql (l : List Rec) : Int := l.foldl (fun n r => if n ≤ r.ver then r.ver + 1 else n) 1
theorem Ze8 (l : List Rec) (k : Nat) (h : k < l.length) : Ql (l.take (k + 1)) = if Ql (l.take k) ≤ l[k].ver then l[k].ver + 1 else Ql (l.take k) := by
 unfold Ql;rw [List.take_succ_eq_append_getElem h, List.foldl_append]; rfl
theorem Zru (l : List Rec) (h : ∀ r ∈ l, r.ver ≤ 60000) : 1 ≤ Ql l ∧ Ql l ≤ 60001 := by
 have key : ∀ (l : List Rec) (n : Int), (∀ r ∈ l, r.ver ≤ 60000) → 1 ≤ n → n ≤ 60001 → 1 ≤ l.foldl (fun n r => if n ≤ r.ver then r.ver + 1 else n) n ∧ l.foldl (fun n r => if n ≤ r.ver then r.ver + 1 else n) n ≤ 60001 := by
  intro l
  induction l with
  | nil => intro n _ h1 h2; exact ⟨h1, h2⟩
  | cons x l ih =>
   intro n hb h1 h2;rw [List.foldl_cons];have hx := hb x (by simp);refine ih _ (fun r hr => hb r (by simp [hr])) ?_ ?_ <;> split <;> omega
 exact key l 1 h (by omega) (by omega)
theorem Zoj (S : Nat → Prop) (l : List Rec) (v : Value) (w : World) (hs : Xu S w v l) (hm : l.length ≤ 1000000) (hv : ∀ r ∈ l, r.ver ≤ 60000) :
  Calls Tryz.prog 55 #[v] w fun r w' => r = .returned (.int .i64 (Ql l)) ∧ Zp w w' := by
 obtain ⟨ao, cp, rfl⟩ := hs.form;obtain ⟨R, hR⟩ : ∃ R, R = Ql l := ⟨_, rfl⟩;rw [← hR];have HR : Hid _ := hR;have HV : Hid _ := hv;clear hR hv;go_enter Tryz.func55, Tryz.ntmps55;go_wp2_with fail;go_loopw [3, 8] (fun n i wr => ∃ (k : Nat) (N : Int), k ≤ l.length ∧ i = .int .i64 k ∧ n = .int .i64 N ∧ Hid (N = Ql (l.take k)) ∧ Zp w wr) (fun _ i _ => l.length - (intOf i).toNat)
 case atStart => exact ⟨0, 1, Nat.zero_le _, rfl, rfl, (by show _ = _; rfl), Zp.refl _⟩
 case round =>
  obtain ⟨k, N, hk, rfl, rfl, HK, gw⟩ := hrel;by_cases hlt : k < l.length
  ·obtain ⟨b, off, a1, c1, hv1, q0, q1, q2, q3, hu⟩ := Kd (hs.grow gw) k hlt;cases hv1;have HN : Hid (Ql (l.take (k + 1)) = if N ≤ l[k].ver then l[k].ver + 1 else N) := by show _ = _; rw [Ze8 l k hlt, HK.out]
   have hb1 : 1 ≤ N ∧ N ≤ 60001 := by rw [HK.out]; exact Zru _ fun r hr => HV.out r (List.mem_of_mem_take hr)
   have hb2 : l[k].ver ≤ 60000 := HV.out _ (List.getElem_mem _);generalize l[k] = x at *;have g1 := Zd wr (.cells #[.int .i64 x.kind, .int .i64 x.key, .int .i64 x.ver, .slice a1 x.data.length c1] 51);have hX1 := Zn wr #[.int .i64 x.kind, .int .i64 x.key, .int .i64 x.ver, .slice a1 x.data.length c1] 51;have gw1 := gw.trans g1;have x2 := Ze hX1 2 _ rfl;clear g1 hu gw HK hX1;by_cases hn : N ≤ x.ver
   ·have HN2 : Hid (x.ver + 1 = Ql (l.take (k + 1))) := by show _ = _; rw [HN.out, if_pos hn]
    clear HN;go_wp2_with fail;go_roundw
    case rel => exact ⟨k + 1, x.ver + 1, by omega, by go_num, rfl, HN2, gw1⟩
    case measure => simp [intOf]; omega
   ·have HN2 : Hid (N = Ql (l.take (k + 1))) := by show _ = _; rw [HN.out, if_neg hn]
    clear HN;go_wp2_with fail;go_roundw
    case rel => exact ⟨k + 1, N, by omega, by go_num, rfl, HN2, gw1⟩
    case measure => simp [intOf]; omega
  ·have hNR : N = R := by rw [HK.out, HR.out, show k = l.length from by omega, List.take_length]
   subst hNR;clear HK HR;go_wp2_with fail;go_ret;exact ⟨rfl, gw⟩
def X9 (d : Dd) (n : Int) : Rec := ⟨1 + d.kind, d.key, n, d.data⟩
theorem Zg5 (d : Dd) (n : Int) (a : Option Addr) (c : Nat) (w : World) (hk0 : -1000 ≤ d.kind) (hk1 : d.kind ≤ 1000) :
  Calls Tryz.prog 41 #[.agg #[.int .i64 d.kind, .int .i64 d.key, .int .i64 d.num, .slice a d.data.length c], .int .i64 n] w fun r w' => r = .returned (.agg #[.int .i64 (1 + d.kind), .int .i64 d.key, .int .i64 n, .slice a d.data.length c]) ∧ Zp w w' := by
 have g0 := Zv w (.cells #[.int .i64 d.kind, .int .i64 d.key, .int .i64 d.num, .slice a d.data.length c] 25) (.cells #[.int .i64 (1 + d.kind), .int .i64 d.key, .int .i64 n, .slice a d.data.length c] 51);go_enter Tryz.func41, Tryz.ntmps41;go_wp2_with fail;exact bodyPost_ret (v := .agg #[.int .i64 (1 + d.kind), .int .i64 d.key, .int .i64 n, .slice a d.data.length c]) (by simp [results, Tryz.results41, go_sem]) rfl ⟨rfl, g0⟩
structure Got where
 n : Int
 e : Int
 data : List UInt8
def V8 (key : Int) (g : Got) (r : Rec) : Got := if r.key ≠ key ∨ r.ver ≤ g.n then g else if r.kind = 3 then ⟨r.ver, 10, []⟩ else ⟨r.ver, 0, r.data⟩
def Ve (l : List Rec) (key : Int) : Got := l.foldl (V8 key) ⟨0, 6, []⟩
theorem Zhj (l : List Rec) (key : Int) (k : Nat) (h : k < l.length) : Ve (l.take (k + 1)) key = V8 key (Ve (l.take k) key) l[k] := by
 unfold Ve;rw [List.take_succ_eq_append_getElem h, List.foldl_append]; rfl
theorem Zg6 (S : Nat → Prop) (l : List Rec) (key : Int) (v : Value) (w : World) (hs : Xu S w v l) (hm : l.length ≤ 1000000) :
  Calls Tryz.prog 19 #[v, .int .i64 key] w fun r w' => ∃ u, r = .returned (.tuple #[u, .int .i64 (Ve l key).e]) ∧ Z0 S w' u (Ve l key).data ∧ Zp w w' := by
 obtain ⟨ao, cp, rfl⟩ := hs.form;obtain ⟨G, hG⟩ : ∃ G, G = Ve l key := ⟨_, rfl⟩;rw [← hG];have HG : Hid _ := hG;clear hG;go_enter Tryz.func19, Tryz.ntmps19;go_wp2_with fail;go_loopw [6, 7, 8, 13] (fun n u e i wr => ∃ (k : Nat) (g : Got), k ≤ l.length ∧ i = .int .i64 k ∧ n = .int .i64 g.n ∧ e = .int .i64 g.e ∧ Z0 S wr u g.data ∧ Hid (g = Ve (l.take k) key) ∧ Zp w wr) (fun _ _ _ i _ => l.length - (intOf i).toNat)
 case atStart => exact ⟨0, ⟨0, 6, []⟩, Nat.zero_le _, rfl, rfl, rfl, .inl ⟨none, 0, rfl, rfl, fun _ => rfl⟩, (by show _ = _; rfl), Zp.refl _⟩
 case round =>
  obtain ⟨k, g, hk, rfl, rfl, rfl, hB, HK, gw⟩ := hrel;obtain ⟨a0, c0, rfl⟩ := hB.form;by_cases hlt : k < l.length
  ·obtain ⟨b, off, a1, c1, hv1, q0, q1, q2, q3, hu⟩ := Kd (hs.grow gw) k hlt;cases hv1;have HN : Hid (Ve (l.take (k + 1)) key = V8 key g l[k]) := by show _ = _; rw [Zhj l key k hlt, HK.out]
   generalize l[k] = x at *;have g1 := Zd wr (.cells #[.int .i64 x.kind, .int .i64 x.key, .int .i64 x.ver, .slice a1 x.data.length c1] 51);have hX1 := Zn wr #[.int .i64 x.kind, .int .i64 x.key, .int .i64 x.ver, .slice a1 x.data.length c1] 51;have gw1 := gw.trans g1;have hB1 := hB.grow g1;have hu1 := hu.grow g1;obtain ⟨x0, x1, x2, x3⟩ := Yb hX1 rfl rfl rfl rfl;clear g1 hu gw HK hX1 hB;by_cases hy : x.key = key
   ·have dy : (x.key != key) = false := by simp [hy]
    by_cases hn : x.ver ≤ g.n
    ·have HN2 : Hid (g = Ve (l.take (k + 1)) key) := by show _ = _; rw [HN.out]; unfold V8; rw [if_pos (.inr hn)]
     clear HN hy;go_wp2_with fail;go_roundw
     case rel => exact ⟨k + 1, g, by omega, by go_num, rfl, rfl, hB1, HN2, gw1⟩
     case measure => simp [intOf]; omega
    ·by_cases h3 : x.kind = 3
     ·have d3 : (x.kind == 3) = true := by simp [h3]
      have HN2 : Hid (Got.mk x.ver 10 [] = Ve (l.take (k + 1)) key) := by show _ = _; rw [HN.out]; unfold V8; rw [if_neg (by omega), if_pos h3]
      clear HN hy h3;go_wp2_with fail;go_roundw
      case rel => exact ⟨k + 1, ⟨x.ver, 10, []⟩, by omega, by go_num, rfl, rfl, .inl ⟨none, 0, rfl, rfl, fun _ => rfl⟩, HN2, gw1⟩
      case measure => simp [intOf]; omega
     ·have d3 : (x.kind == 3) = false := by simp [h3]
      have HN2 : Hid (Got.mk x.ver 0 x.data = Ve (l.take (k + 1)) key) := by show _ = _; rw [HN.out]; unfold V8; rw [if_neg (by omega), if_neg h3]
      clear HN hy h3;go_wp2_with fail;go_roundw
      case rel => exact ⟨k + 1, ⟨x.ver, 0, x.data⟩, by omega, by go_num, rfl, rfl, hu1, HN2, gw1⟩
      case measure => simp [intOf]; omega
   ·have dy : (x.key != key) = true := by simp [hy]
    have HN2 : Hid (g = Ve (l.take (k + 1)) key) := by show _ = _; rw [HN.out]; unfold V8; rw [if_pos (.inl hy)]
    clear HN hy;go_wp2_with fail;go_roundw
    case rel => exact ⟨k + 1, g, by omega, by go_num, rfl, rfl, hB1, HN2, gw1⟩
    case measure => simp [intOf]; omega
  ·have hgG : g = G := by rw [HK.out, HG.out, show k = l.length from by omega, List.take_length]
   subst hgG;clear HK HG;go_wp2_with fail
   go_ret2
   exact ⟨_, rfl, hB, gw⟩
end Go.Proofs.YtikhknkpndhakabGreat
