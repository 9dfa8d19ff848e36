import Derived.Test.YtpdnapbchcdhladGreatDoorTAlive
set_option maxHeartbeats 8000000
namespace Go.Proofs.YtpdnapbchcdhladGreatDoor
set_option maxRecDepth 100000
open Go.RowKit
open Plain Reg
def dRB : Dd := ⟨1, 8, 0, [99]⟩
def dRC : Dd := ⟨2, 7, 0, []⟩
def dRD : Dd := ⟨1, 9, 0, []⟩
def dsR : List Dd := [dTA, dRB, dRC, dRD]
def tsR : List (List UInt8) := [[112, 117, 116, 32, 55, 32, 54, 49, 54, 50], [112, 117, 116, 32, 56, 32, 54, 51], [100, 101, 108, 101, 116, 101, 32, 55], [112, 117, 116, 32, 57, 32, 45]]
theorem Zu2 : V3 dRB = [112, 117, 116, 32, 56, 32, 54, 51] := by simp [V3, dRB, Zc2, Lib.itoa, Lib.decDigits, Zdx, Zjv, Zhl]
theorem Zu1 : V3 dRC = [100, 101, 108, 101, 116, 101, 32, 55] := by simp [V3, dRC, V5, Lib.itoa, Lib.decDigits]
theorem Zu0 : V3 dRD = [112, 117, 116, 32, 57, 32, 45] := by simp [V3, dRD, Zc2, Lib.itoa, Lib.decDigits, Zdx]
theorem okR : Zhe tsR dsR := by
 refine ⟨rfl, by decide, by decide, fun k t d h1 h2 => ?_, fun k d h => ?_⟩
 ·match k, h1, h2 with
  | 0, h1, h2 => cases h1; cases h2; exact Zjo
  | 1, h1, h2 => cases h1; cases h2; rw [← Zu2]; exact Kd (by decide)
  | 2, h1, h2 => cases h1; cases h2; rw [← Zu1]; exact Kd (by decide)
  | 3, h1, h2 => cases h1; cases h2; rw [← Zu0]; exact Kd (by decide)
  | k + 4, h1, h2 => cases h1
 ·match k, h with
  | 0, h => cases h; decide +kernel
  | 1, h => cases h; decide +kernel
  | 2, h => cases h; decide +kernel
  | 3, h => cases h; decide +kernel
  | k + 4, h => cases h
theorem Zxv : ∀ q : Fin 6, (Xl dsR).dk.how ((q.val : Nat) : Int) < 2 := by decide +kernel
theorem Zun : (Xl dsR).idx.length = 4 := by decide +kernel
theorem Zq9 : Zfb (Xl dsR) (Xl dsR).idx 0 := ⟨Zg1 dsR Qg Jp, rfl, fun q _ hq => Zxv ⟨q, hq⟩⟩
theorem Zl0 {S : Nat → Prop} {w : World} {ao : Option Addr} {n cap : Nat} {l : List Int} (h : Zv Kh S w (.slice ao n cap) l) (i : Nat) (hi : i < l.length) : ∃ b off, ao = some ⟨b, off, none⟩ ∧ w.cell? ⟨b, off + i, none⟩ = some (.int .i64 l[i]) := by
 obtain ⟨b, off, rfl, _, cs, hcs, hc⟩ := h.at i hi;have hcs' : cs = [.int .i64 l[i]] := hcs;subst hcs';have h0 : w.cell? ⟨b, off + i * 1 + 0, none⟩ = some (.int .i64 l[i]) := hc 0 _ rfl;exact ⟨b, off, rfl, by simpa using h0⟩
theorem Zk6 {s : St} {R : List Ent} {p : Nat} (h : Zfb s R p) : s.recs = R.map Ent.rc := by unfold St.recs; rw [h.idx]
theorem Zqs (V : World → Prop) (hV : ∀ w w', V w → Zj w w' → V w') (AL : K1 V) (TD : Zbj V) (PD : Ze8 [3, 6]) (SR : Zjb) (SA : Zwt) (l : List Int) (by_ rounds : Int) (v : Value) (w : World) (hVw : V w) (hd : Zv Kh (fun b => b < w.heap.size) w v l) (hm : l.length ≤ 140737488355328) :
  Calls Tryz.prog 3 #[v, .int .i64 by_, .int .i64 rounds] w fun r w' => r = .returned (.bool true) ∧ Zj w w' := by
 obtain ⟨ao, cp, rfl⟩ := Zv.form hd;go_enter Tryz.func3, Tryz.ntmps3;go_wp2_with fail;refine (AL w hVw).mono ?_;rintro r w1 ⟨rfl, g1⟩;by_cases hOK : l.length = 6 ∧ 1 ≤ by_ ∧ by_ ≤ 255 ∧ 0 ≤ rounds ∧ rounds ≤ 9
 ·obtain ⟨hl6, hb0, hb1, hr0, hr9⟩ := hOK;have HL6 : Hid (l.length = 6) := hl6;have d1 : ((l.length : Int) != 6) = false := by simp [hl6]
  obtain ⟨rn, hrn⟩ : ∃ rn : Nat, rounds = (rn : Int) := ⟨rounds.toNat, by omega⟩;subst hrn;have hrn9 : rn ≤ 9 := by omega
  clear hl6 hr0 hr9;go_wp2_with fail;clear d1;have hl6' : l.length ≤ 6 := by have := HL6.out; omega
  go_loopw [40] (fun i wr => ∃ k : Nat, k ≤ l.length ∧ i = .int .i64 (k : Int) ∧ Hid (∀ (j : Nat) (h : j < l.length), j < k → 0 ≤ l[j] ∧ l[j] < 32) ∧ Zj w wr) (fun i _ => l.length - (intOf i).toNat)
  case atStart => exact ⟨0, by omega, rfl, fun j h hj => by omega, g1⟩
  case round =>
   clear g1;obtain ⟨k, hk, rfl, HB, gw⟩ := hrel;by_cases hlt : k < l.length
   ·obtain ⟨bb, off, hao, q0⟩ := Zl0 (Zv.grow hd gw) k hlt;cases hao;have HX : Hid (∀ (j : Nat) (h : j < l.length), j < k + 1 → 0 ≤ l[k] ∧ l[k] < 32 → 0 ≤ l[j] ∧ l[j] < 32) := fun j h hj hx => by
     by_cases e : j = k
     ·subst e; exact hx
     ·exact HB.out j h (by omega)
    generalize hxk : l[k] = x at *;have HXK : Hid _ := hxk;clear hxk;by_cases hx0 : x < 0
    ·go_wp2_with fail;go_ret;exact ⟨rfl, gw⟩
    ·by_cases hx1 : 32 ≤ x
     ·go_wp2_with fail;go_ret;exact ⟨rfl, gw⟩
     ·have HB2 : Hid (∀ (j : Nat) (h : j < l.length), j < k + 1 → 0 ≤ l[j] ∧ l[j] < 32) := fun j h hj => HX.out j h hj ⟨by omega, by omega⟩
      go_wp2_with fail;go_roundw
      case rel => exact ⟨k + 1, by omega, by go_num, HB2, gw⟩
      case measure => simp [intOf]; omega
   ·have HIN : Hid (∀ (j : Nat) (h : j < l.length), 0 ≤ l[j] ∧ l[j] < 32) := fun j h => HB.out j h (by omega)
    clear HB;go_wp2_with fail;have hL := Zk wr (tsR.map fun t => Value.string ⟨t.toArray⟩).toArray 9;have g2 := Zd wr (.cells (tsR.map fun t => Value.string ⟨t.toArray⟩).toArray 9);refine (TD tsR dsR (.slice (some ⟨wr.heap.size, 0, none⟩) 4 4) (wr.alloc (.cells (tsR.map fun t => Value.string ⟨t.toArray⟩).toArray 9)) (hV _ _ hVw (gw.trans g2)) (Zfo hL) okR (by decide)).mono ?_;have HRP : Hid (Zfb (Xl dsR) (Xl dsR).idx 0) := Zq9;have HR4 : Hid ((Xl dsR).idx.length = 4) := Zun;generalize Xl dsR = s0 at *;obtain ⟨R, hRe⟩ : ∃ R, R = s0.idx := ⟨_, rfl⟩;rw [← hRe] at HRP HR4;rintro r w3 ⟨v3, rfl, h3, g3⟩;obtain ⟨b1, e1, l1, m1, i1, j1, hv3, -, -, -⟩ := h3.form;subst hv3;obtain ⟨G, hG⟩ : ∃ G, G = w3.heap.size := ⟨_, rfl⟩;have g4 := Zd w3 (.cells #[.slice b1 s0.dk.blocks.length e1, .slice l1 s0.dk.late.length m1, .slice i1 s0.idx.length j1, .int .i64 s0.next] 30);have hY := Zk w3 #[.slice b1 s0.dk.blocks.length e1, .slice l1 s0.dk.late.length m1, .slice i1 s0.idx.length j1, .int .i64 s0.next] 30;have hS : Zw (fun b => b ≠ G) s0 (.agg #[.slice b1 s0.dk.blocks.length e1, .slice l1 s0.dk.late.length m1, .slice i1 s0.idx.length j1, .int .i64 s0.next]) (w3.alloc (.cells #[.slice b1 s0.dk.blocks.length e1, .slice l1 s0.dk.late.length m1, .slice i1 s0.idx.length j1, .int .i64 s0.next] 30)) := (h3.now.grow g4).mono (fun b h => by omega);have hwG : w.heap.size ≤ G := by have := (gw.trans (g2.trans g3)).size; omega
    replace gw := gw.trans (g2.trans (g3.trans g4));rw [← hG] at hY;have HG : Hid _ := hG;clear h3 g2 g3 g4 hL hG hRe hk hlt;obtain ⟨y0, y1, y2, y3⟩ := Z4 hY rfl rfl rfl rfl;rw [HG.out] at y0 y1 y2 y3;go_wp2_with fail;rw [← HG.out];clear HG y0 y1 y2 y3;generalize World.alloc w3 _ = w4 at *;have hG4 : G < w4.heap.size := Za hY;refine (SR (fun b => b ≠ G ∧ b < w4.heap.size) s0 _ w4 (fun b h => h.2) hS.capd HRP.out.inv.at').mono ?_;rw [Zk6 HRP.out];obtain ⟨L, hLe⟩ : ∃ L, L = R.map Ent.rc := ⟨_, rfl⟩;have HLR : Hid (R.map Ent.rc = L) := hLe.symm;have HL4 : Hid (L.length = 4) := by rw [hLe, List.length_map]; exact HR4.out
    rw [← hLe];clear hLe;rintro r w5 ⟨v5, rfl, h5, g5⟩;obtain ⟨a5, c5, rfl⟩ := Zv.form h5;have hR : Yz (fun b => b ≠ G) w5 (.slice a5 L.length c5) L := Zv.mono h5 (by
     rintro b (h | h)
     ·exact h.1
     ·show b ≠ G; omega)
    replace hY := (g5.block _ (Za hY)).trans hY;replace hS := hS.grow g5;replace gw := gw.trans g5;clear h5 g5 hG4;go_wp2_with fail;go_loopw [59] (fun i wr => ∃ (m : Nat) (s : St) (b1 : Option Addr) (e1 : Nat) (l1 : Option Addr) (m1 : Nat) (i1 : Option Addr) (j1 : Nat), m ≤ rn ∧ i = .int .i64 (m : Int) ∧ Hid (Zfb s R 0) ∧ wr.heap[G]? = some (.cells #[.slice b1 s.dk.blocks.length e1, .slice l1 s.dk.late.length m1, .slice i1 s.idx.length j1, .int .i64 s.next] 30 (0, 0)) ∧ Zw (fun b => b ≠ G) s (.agg #[.slice b1 s.dk.blocks.length e1, .slice l1 s.dk.late.length m1, .slice i1 s.idx.length j1, .int .i64 s.next]) wr ∧ Yz (fun b => b ≠ G) wr (.slice a5 L.length c5) L ∧ Zj w wr) (fun i _ => rn - (intOf i).toNat)
    case atStart => exact ⟨0, s0, b1, e1, l1, m1, i1, j1, by omega, rfl, HRP, hY, hS, hR, gw⟩
    case round =>
     clear hY hS hR gw HRP;obtain ⟨m, s, b1, e1, l1, m1, i1, j1, hm9, rfl, HP, hY, hS, hR, gw⟩ := hrel;by_cases hmr : m < rn
     ·go_wp2_with fail;obtain ⟨wO, rfl⟩ : ∃ wO : World, wO = wr := ⟨_, rfl⟩;go_loopw [63] (fun i wr => ∃ (p : Nat) (s : St) (b1 : Option Addr) (e1 : Nat) (l1 : Option Addr) (m1 : Nat) (i1 : Option Addr) (j1 : Nat), p ≤ l.length ∧ i = .int .i64 (p : Int) ∧ Hid (Zfb s R p) ∧ wr.heap[G]? = some (.cells #[.slice b1 s.dk.blocks.length e1, .slice l1 s.dk.late.length m1, .slice i1 s.idx.length j1, .int .i64 s.next] 30 (0, 0)) ∧ Zw (fun b => b ≠ G) s (.agg #[.slice b1 s.dk.blocks.length e1, .slice l1 s.dk.late.length m1, .slice i1 s.idx.length j1, .int .i64 s.next]) wr ∧ Yz (fun b => b ≠ G) wr (.slice a5 L.length c5) L ∧ Zj w wr) (fun i _ => l.length - (intOf i).toNat)
      case atStart => exact ⟨0, s, b1, e1, l1, m1, i1, j1, by omega, rfl, HP, hY, hS, hR, gw⟩
      case round =>
       clear hY hS hR gw HP;obtain ⟨p, s, b1, e1, l1, m1, i1, j1, hp, rfl, HP, hY, hS, hR, gw⟩ := hrel;by_cases hlt : p < l.length
       ·obtain ⟨bb, off, hao, q0⟩ := Zl0 (Zv.grow hd gw) p hlt;cases hao;obtain ⟨hn0, hn1⟩ := HIN.out p hlt;generalize l[p] = n at *;obtain ⟨y0, y1, y2, y3⟩ := Z4 hY rfl rfl rfl rfl;go_wp2_with fail;clear y0 y1 y2 y3 q0;have hGr : G < wr.heap.size := Za hY;refine (PD (fun b => b ≠ G ∧ b < wr.heap.size) s ⟨3, 32 * (p : Int) + n, by_, ⟨0, 0, 0, []⟩⟩ _ none 0 wr (show (3 : Int) ∈ ([3, 6] : List Int) by decide) (fun b h => h.2) hS.capd (.inl ⟨none, 0, rfl, rfl, fun _ => rfl⟩) HP.out.inv.at' (show 0 ≤ 140737488355328 by omega)).mono ?_;have HN : Hid (Zfb (s.step ⟨3, 32 * (p : Int) + n, by_, ⟨0, 0, 0, []⟩⟩).st R (p + 1)) := Zq7 HP.out (by omega) hn0 hn1 by_ _;generalize (s.step ⟨3, 32 * (p : Int) + n, by_, ⟨0, 0, 0, []⟩⟩).n = xn at *;generalize (s.step ⟨3, 32 * (p : Int) + n, by_, ⟨0, 0, 0, []⟩⟩).e = xe at *;generalize (s.step ⟨3, 32 * (p : Int) + n, by_, ⟨0, 0, 0, []⟩⟩).st = X at *;rintro r w5 ⟨v5, rfl, h5, g5⟩;obtain ⟨b5, e5, l5, m5, i5, j5, hv5, -, -, -⟩ := h5.form;subst hv5;have h5' : Zw (fun b => b ≠ G) X (.agg #[.slice b5 X.dk.blocks.length e5, .slice l5 X.dk.late.length m5, .slice i5 X.idx.length j5, .int .i64 X.next]) w5 := h5.mono (by
         rintro b (h | h)
         ·exact h.1
         ·show b ≠ G; omega)
        have hY5 := (g5.block _ (Za hY)).trans hY;have hR5 := Zv.grow hR g5;have gw5 := gw.trans g5;clear hY hR hS gw h5 g5 hGr;obtain ⟨hp1, hp2⟩ := Yc hY5 (.slice b5 X.dk.blocks.length e5) (.slice l5 X.dk.late.length m5) (.slice i5 X.idx.length j5) (.int .i64 X.next);have hS6 := h5'.but hp2 (fun h => h rfl);have hR6 := Zv.but hR5 hp2 (fun h => h rfl);have gw6 := hp2.grow gw5 (by omega);obtain ⟨y0, y1, y2, y3⟩ := Z4 hY5 rfl rfl rfl rfl;obtain ⟨f0, f1, f2, f3⟩ := Yp hY5;have cs := Zu;clear hp2 hY5 hR5 gw5 h5';go_wp2_with fail;go_roundw
        case rel => exact ⟨p + 1, X, b5, e5, l5, m5, i5, j5, by omega, by go_num, HN, hp1, hS6, hR6, gw6⟩
        case measure => simp [intOf]; omega
       ·have HP6 : Hid (Zfb s R 6) := by have h := HP.out; rw [show p = 6 by have := HL6.out; omega] at h; exact h
        obtain ⟨y0, y1, y2, y3⟩ := Z4 hY rfl rfl rfl rfl;go_wp2_with fail;clear y0 y1 y2 y3 HP hlt hp;have hGr : G < wr.heap.size := Za hY;refine (PD (fun b => b ≠ G ∧ b < wr.heap.size) s Zdi _ none 0 wr (show (6 : Int) ∈ ([3, 6] : List Int) by decide) (fun b h => h.2) hS.capd (Zrz _ _) HP6.out.inv.at' (by decide)).mono ?_;have HN : Hid ((s.step Zdi).st.Inv ∧ (s.step Zdi).st.idx = R) := Zq8 HP6.out Zdi rfl;generalize (s.step Zdi).n = xn at *;generalize (s.step Zdi).e = xe at *;generalize (s.step Zdi).st = X at *;rintro r w5 ⟨v5, rfl, h5, g5⟩;obtain ⟨b5, e5, l5, m5, i5, j5, hv5, -, -, -⟩ := h5.form;subst hv5;have h5' : Zw (fun b => b ≠ G) X (.agg #[.slice b5 X.dk.blocks.length e5, .slice l5 X.dk.late.length m5, .slice i5 X.idx.length j5, .int .i64 X.next]) w5 := h5.mono (by
         rintro b (h | h)
         ·exact h.1
         ·show b ≠ G; omega)
        have hY5 := (g5.block _ (Za hY)).trans hY;have hR5 := Zv.grow hR g5;have gw5 := gw.trans g5;clear hY hR hS gw h5 g5 hGr;obtain ⟨hp1, hp2⟩ := Yc hY5 (.slice b5 X.dk.blocks.length e5) (.slice l5 X.dk.late.length m5) (.slice i5 X.idx.length j5) (.int .i64 X.next);have hS6 := h5'.but hp2 (fun h => h rfl);have hR6 := Zv.but hR5 hp2 (fun h => h rfl);have gw6 := hp2.grow gw5 (by omega);obtain ⟨y0, y1, y2, y3⟩ := Z4 hY5 rfl rfl rfl rfl;obtain ⟨f0, f1, f2, f3⟩ := Yp hY5;have cs := Zu;clear hp2 hY5 hR5 gw5 h5';go_upto_region 21 with fail
        clear y0 y1 y2 y3 f0 f1 f2 f3 cs HP6;generalize World.setCell (World.setCell (World.setCell (World.setCell w5 _ _) _ _) _ _) _ _ = w6 at *;have hY := hp1;have hS := hS6;have hR := hR6;have gw := gw6;clear hp1 hS6 hR6 gw6;obtain ⟨y0, y1, y2, y3⟩ := Z4 hY rfl rfl rfl rfl;have dX : ((X.idx.length : Int) != (L.length : Int)) = false := by rw [HN.out.2, ← HLR.out, List.length_map]; simp
        go_wp2_with fail;clear y0 y1 y2 y3 dX;have hGr : G < w6.heap.size := Za hY;refine (SA (fun b => b ≠ G ∧ b < w6.heap.size) X _ w6 (fun b h => h.2) hS.capd HN.out.1.at').mono ?_;have HN2 : Hid (Zfb (Y2 6 X) R 0) := Zxw HN.out.1 HN.out.2;obtain ⟨rp, hrp⟩ : ∃ rp, rp = Value.agg (Zef (Zc1 X 6)) := ⟨_, rfl⟩;rw [← hrp];clear hrp;obtain ⟨X2, hX2⟩ : ∃ X2, X2 = Y2 6 X := ⟨_, rfl⟩;rw [← hX2] at HN2 ⊢;clear hX2 HN;rintro r w5 ⟨v5, rfl, h5, g5⟩;obtain ⟨b5, e5, l5, m5, i5, j5, hv5, -, -, -⟩ := h5.form;subst hv5;have h5' : Zw (fun b => b ≠ G) X2 (.agg #[.slice b5 X2.dk.blocks.length e5, .slice l5 X2.dk.late.length m5, .slice i5 X2.idx.length j5, .int .i64 X2.next]) w5 := h5.mono (by
         rintro b (h | h)
         ·exact h.1
         ·show b ≠ G; omega)
        have hY5 := (g5.block _ (Za hY)).trans hY;have hR5 := Zv.grow hR g5;have gw5 := gw.trans g5;clear hY hR hS gw h5 g5 hGr;obtain ⟨hp1, hp2⟩ := Yc hY5 (.slice b5 X2.dk.blocks.length e5) (.slice l5 X2.dk.late.length m5) (.slice i5 X2.idx.length j5) (.int .i64 X2.next);have hS6 := h5'.but hp2 (fun h => h rfl);have hR6 := Zv.but hR5 hp2 (fun h => h rfl);have gw6 := hp2.grow gw5 (by omega);obtain ⟨y0, y1, y2, y3⟩ := Z4 hY5 rfl rfl rfl rfl;obtain ⟨f0, f1, f2, f3⟩ := Yp hY5;have cs := Zu;clear hp2 hY5 hR5 gw5 h5';go_wp2_with fail;go_roundw
        case rel => exact ⟨m + 1, X2, b5, e5, l5, m5, i5, j5, by omega, by go_num, HN2, hp1, hS6, hR6, gw6⟩
        case measure => simp [intOf]; omega
     ·obtain ⟨y0, y1, y2, y3⟩ := Z4 hY rfl rfl rfl rfl;go_wp2_with fail;clear y0 y1 y2 y3;refine (SR (fun b => b < wr.heap.size) s _ wr (fun b h => h) hS.any.now HP.out.inv.at').mono ?_;rw [Zk6 HP.out, HLR.out];rintro r w7 ⟨v7, rfl, h7, g7⟩;obtain ⟨a7, c7, rfl⟩ := Zv.form h7;have hR7 := Zv.grow hR g7;have gw7 := gw.trans g7;clear hY hS hR gw g7 HP HLR HR4;have d1 : ((L.length : Int) != (L.length : Int)) = false := by simp
      have d2 : ((L.length : Int) != 4) = false := by rw [HL4.out]; rfl
      have hL4 : L.length ≤ 4 := by have := HL4.out; omega
      go_wp2_with fail;clear d1 d2;go_loopw [118] (fun i wr => ∃ k : Nat, k ≤ L.length ∧ i = .int .i64 (k : Int) ∧ Zj w7 wr) (fun i _ => L.length - (intOf i).toNat)
      case atStart => exact ⟨0, by omega, rfl, Zj.refl _⟩
      case round =>
       obtain ⟨k, hk, rfl, hgq⟩ := hrel;by_cases hlt : k < L.length
       ·obtain ⟨bA, oA, aA, cA, hvA, u0, u1, u2, u3, huA⟩ := Jn (Zv.grow h7 hgq) k hlt;cases hvA;obtain ⟨bB, oB, aB, cB, hvB, z0, z1, z2, z3, huB⟩ := Jn (Zv.grow hR7 hgq) k hlt;cases hvB;generalize L[k] = x at *;have g1 := Zd wr (.cells #[.int .i64 x.kind, .int .i64 x.key, .int .i64 x.ver, .slice aA x.data.length cA] 49);have hX5 := Zk wr #[.int .i64 x.kind, .int .i64 x.key, .int .i64 x.ver, .slice aA x.data.length cA] 49;have hgq1 := hgq.trans g1;have k1 := (Below.cell g1 (Zr z1)).trans z1;have k2 := (Below.cell g1 (Zr z2)).trans z2;have k3 := (Below.cell g1 (Zr z3)).trans z3;have hbA := (huA.grow g1).p;have hbB := (huB.grow g1).p;clear z0 z1 z2 z3 huA huB g1 hgq;go_wp2_with fail;obtain ⟨gx, hgx⟩ : ∃ gx, gx = wr.heap.size := ⟨_, rfl⟩;rw [← hgx] at hX5 ⊢;clear hgx u0 u1 u2 u3;generalize World.alloc wr _ = W at *
        refine Zz [ex (.pointer (some ⟨gx, 1, none⟩)), ex (.int .i64 x.key), ex (.slice (some ⟨bB, oB, none⟩) L.length c5), ex (.int .i64 (k : Int)), ex (.pointer (some ⟨bB, oB + k * 4, none⟩)), ex (.pointer (some ⟨bB, oB + k * 4 + 1, none⟩)), ex (.int .i64 x.key), ex (.bool false), ex (.bool false), ex (.pointer (some ⟨gx, 2, none⟩)), ex (.int .i64 x.ver), ex (.slice (some ⟨bB, oB, none⟩) L.length c5), ex (.int .i64 (k : Int)), ex (.pointer (some ⟨bB, oB + k * 4, none⟩)), ex (.pointer (some ⟨bB, oB + k * 4 + 2, none⟩)), ex (.int .i64 x.ver), ex (.bool false), ex (.bool false), ex (.bool false), ex (.pointer (some ⟨gx, 3, none⟩)), ex (.slice aA x.data.length cA), ex (.string ⟨x.data.toArray⟩), ex (.slice (some ⟨bB, oB, none⟩) L.length c5), ex (.int .i64 (k : Int)), ex (.pointer (some ⟨bB, oB + k * 4, none⟩)), ex (.pointer (some ⟨bB, oB + k * 4 + 3, none⟩)), ex (.slice aB x.data.length cB), ex (.string ⟨x.data.toArray⟩), ex (.bool false), ex (.bool false)] (by kernel_rfl) (by kernel_rfl) ⟨Zg _, Zg _, Zg _, Zg _, Zg _, Zg _, Zg _, Zg _, Zg _, Zg _, Zg _, Zg _, Zg _, Zg _, Zg _, Zg _, Zg _, Zg _, Zg _, Zg _, Zg _, Zg _, Zg _, Zg _, Zg _, Zg _, Zg _, Zg _, Zg _, Zg _, trivial⟩ ?_ ?_
        ·refine ⟨?_, ?_, ?_, ?_, ?_, ?_, ?_, ?_, ?_, ?_, ?_, ?_, ?_, ?_, ?_, ?_, ?_, ?_, ?_, ?_, ?_, ?_, ?_, ?_, ?_, ?_, ?_, ?_, ?_, ?_, trivial⟩
         ·refine Zb rfl fun a _ _ _ B A => ?_;have e16 : a (.tmp 16) = .pointer (some ⟨gx, 0, none⟩) := Zp A 16 rfl;refine Zi ?_ rfl;clear A B;go_simp;all_goals go_arith
         ·refine Zb rfl fun a _ _ _ B A => ?_;have e123 : a (.tmp 123) = _ := Zc A 0 rfl;have z1 := Ze ((B.block _ (Za hX5)).trans hX5) 1 _ rfl;refine Zi ?_ rfl;clear A B;go_simp;all_goals go_arith
         ·exact Zb rfl fun a _ _ _ _ A => Zm rfl (Zp A 11 rfl)
         ·exact Zb rfl fun a _ _ _ _ A => Zm rfl (Zp A 15 rfl)
         ·refine Zb rfl fun a _ _ _ B A => ?_;have e125 : a (.tmp 125) = _ := Zc A 2 rfl;have e126 : a (.tmp 126) = _ := Zc A 3 rfl;refine Zi ?_ rfl;clear A B;go_simp;all_goals go_arith
         ·refine Zb rfl fun a _ _ _ B A => ?_;have e127 : a (.tmp 127) = _ := Zc A 4 rfl;refine Zi ?_ rfl;clear A B;go_simp;all_goals go_arith
         ·refine Zb rfl fun a _ _ _ B A => ?_;have e128 : a (.tmp 128) = _ := Zc A 5 rfl;have z1 := (Below.cell B (Zr k1)).trans k1;refine Zi ?_ rfl;clear A B;go_simp;all_goals go_arith
         ·refine Zb rfl fun a _ _ _ B A => ?_;have e124 : a (.tmp 124) = _ := Zc A 1 rfl;have e129 : a (.tmp 129) = _ := Zc A 6 rfl;refine Zi ?_ rfl;clear A B;go_simp;all_goals go_arith
         ·exact Zb rfl fun a _ _ _ _ A => Zm rfl (Zc A 7 rfl)
         ·refine Zl 8 false rfl rfl rfl fun a _ _ _ B A => ?_;have e16 : a (.tmp 16) = .pointer (some ⟨gx, 0, none⟩) := Zp A 16 rfl;refine Zi ?_ rfl;clear A B;go_simp;all_goals go_arith
         ·refine Zl 8 false rfl rfl rfl fun a _ _ _ B A => ?_;have e132 : a (.tmp 132) = _ := Zc A 9 rfl;have z1 := Ze ((B.block _ (Za hX5)).trans hX5) 2 _ rfl;refine Zi ?_ rfl;clear A B;go_simp;all_goals go_arith
         ·exact Zl 8 false rfl rfl rfl fun a _ _ _ _ A => Zm rfl (Zp A 11 rfl)
         ·exact Zl 8 false rfl rfl rfl fun a _ _ _ _ A => Zm rfl (Zp A 15 rfl)
         ·refine Zl 8 false rfl rfl rfl fun a _ _ _ B A => ?_;have e134 : a (.tmp 134) = _ := Zc A 11 rfl;have e135 : a (.tmp 135) = _ := Zc A 12 rfl;refine Zi ?_ rfl;clear A B;go_simp;all_goals go_arith
         ·refine Zl 8 false rfl rfl rfl fun a _ _ _ B A => ?_;have e136 : a (.tmp 136) = _ := Zc A 13 rfl;refine Zi ?_ rfl;clear A B;go_simp;all_goals go_arith
         ·refine Zl 8 false rfl rfl rfl fun a _ _ _ B A => ?_;have e137 : a (.tmp 137) = _ := Zc A 14 rfl;have z1 := (Below.cell B (Zr k2)).trans k2;refine Zi ?_ rfl;clear A B;go_simp;all_goals go_arith
         ·refine Zl 8 false rfl rfl rfl fun a _ _ _ B A => ?_;have e133 : a (.tmp 133) = _ := Zc A 10 rfl;have e138 : a (.tmp 138) = _ := Zc A 15 rfl;refine Zi ?_ rfl;clear A B;go_simp;all_goals go_arith
         ·refine Zb rfl fun a _ _ _ _ A => ?_;have ec : a (.tmp 131) = _ := Zc A 8 rfl;have e : a (.tmp 139) = _ := Zc A 16 rfl;exact Y3 rfl ec e
         ·exact Zb rfl fun a _ _ _ _ A => Zm rfl (Zc A 17 rfl)
         ·refine Zl 18 false rfl rfl rfl fun a _ _ _ B A => ?_;have e16 : a (.tmp 16) = .pointer (some ⟨gx, 0, none⟩) := Zp A 16 rfl;refine Zi ?_ rfl;clear A B;go_simp;all_goals go_arith
         ·refine Zl 18 false rfl rfl rfl fun a _ _ _ B A => ?_;have e142 : a (.tmp 142) = _ := Zc A 19 rfl;have z1 := Ze ((B.block _ (Za hX5)).trans hX5) 3 _ rfl;refine Zi ?_ rfl;clear A B;go_simp;all_goals go_arith
         ·refine Zl 18 false rfl rfl rfl fun a B _ _ C A => ?_;have e143 : a (.tmp 143) = _ := Zc A 20 rfl;have ra := Vp B _ _ (Z2 hbA C);refine Zi ?_ rfl;clear A C;go_simp;all_goals go_arith
         ·exact Zl 18 false rfl rfl rfl fun a _ _ _ _ A => Zm rfl (Zp A 11 rfl)
         ·exact Zl 18 false rfl rfl rfl fun a _ _ _ _ A => Zm rfl (Zp A 15 rfl)
         ·refine Zl 18 false rfl rfl rfl fun a _ _ _ B A => ?_;have e145 : a (.tmp 145) = _ := Zc A 22 rfl;have e146 : a (.tmp 146) = _ := Zc A 23 rfl;refine Zi ?_ rfl;clear A B;go_simp;all_goals go_arith
         ·refine Zl 18 false rfl rfl rfl fun a _ _ _ B A => ?_;have e147 : a (.tmp 147) = _ := Zc A 24 rfl;refine Zi ?_ rfl;clear A B;go_simp;all_goals go_arith
         ·refine Zl 18 false rfl rfl rfl fun a _ _ _ B A => ?_;have e148 : a (.tmp 148) = _ := Zc A 25 rfl;have z1 := (Below.cell B (Zr k3)).trans k3;refine Zi ?_ rfl;clear A B;go_simp;all_goals go_arith
         ·refine Zl 18 false rfl rfl rfl fun a B _ _ C A => ?_;have e149 : a (.tmp 149) = _ := Zc A 26 rfl;have ra := Vp B _ _ (Z2 hbB C);refine Zi ?_ rfl;clear A C;go_simp;all_goals go_arith
         ·refine Zl 18 false rfl rfl rfl fun a _ _ _ B A => ?_;have e144 : a (.tmp 144) = _ := Zc A 21 rfl;have e150 : a (.tmp 150) = _ := Zc A 27 rfl;refine Zi ?_ rfl;clear A B;go_simp;all_goals go_arith
         ·refine Zb rfl fun a _ _ _ _ A => ?_;have ec : a (.tmp 141) = _ := Zc A 18 rfl;have e : a (.tmp 151) = _ := Zc A 28 rfl;exact Y3 rfl ec e
        ·intro vs w' hg ht;obtain ⟨(r123 : vs 0 = _), (r124 : vs 1 = _), (r125 : vs 2 = _), (r126 : vs 3 = _), (r127 : vs 4 = _), (r128 : vs 5 = _), (r129 : vs 6 = _), (r130 : vs 7 = _), (r131 : vs 8 = _), (r132 : vs 9 = _), (r133 : vs 10 = _), (r134 : vs 11 = _), (r135 : vs 12 = _), (r136 : vs 13 = _), (r137 : vs 14 = _), (r138 : vs 15 = _), (r139 : vs 16 = _), (r140 : vs 17 = _), (r141 : vs 18 = _), (r142 : vs 19 = _), (r143 : vs 20 = _), (r144 : vs 21 = _), (r145 : vs 22 = _), (r146 : vs 23 = _), (r147 : vs 24 = _), (r148 : vs 25 = _), (r149 : vs 26 = _), (r150 : vs 27 = _), (r151 : vs 28 = _), (r152 : vs 29 = _), -⟩ := ht;simp only [Z8, Act.put, List.setIfInBounds_toArray, List.set_cons_zero, List.set_cons_succ, r123, r124, r125, r126, r127, r128, r129, r130, r131, r132, r133, r134, r135, r136, r137, r138, r139, r140, r141, r142, r143, r144, r145, r146, r147, r148, r149, r150, r151, r152];clear r123 r124 r125 r126 r127 r128 r129 r130 r131 r132 r133 r134 r135 r136 r137 r138 r139 r140 r141 r142 r143 r144 r145 r146 r147 r148 r149 r150 r151 r152;have hgE := hgq1.trans hg;clear hg hgq1 hX5 k1 k2 k3 hbA hbB;go_wp2_with fail;go_roundw
         case rel => exact ⟨k + 1, by omega, by go_num, hgE⟩
         case measure => simp [intOf]; omega
       ·have gE := gw7.trans hgq;clear h7 hR7 hgq gw7;go_wp2_with fail;go_ret;exact ⟨rfl, gE⟩
 ·clear hd;by_cases c1 : l.length = 6
  ·have d1 : ((l.length : Int) != 6) = false := by simp [c1]
   by_cases c2 : 1 ≤ by_
   ·by_cases c3 : by_ ≤ 255
    ·by_cases c4 : 0 ≤ rounds
     ·have c5 : 9 < rounds := by omega
      clear hOK c1;go_wp2_with fail;go_ret;exact ⟨rfl, g1⟩
     ·clear hOK c1;go_wp2_with fail;go_ret;exact ⟨rfl, g1⟩
    ·clear hOK c1;go_wp2_with fail;go_ret;exact ⟨rfl, g1⟩
   ·clear hOK c1;go_wp2_with fail;go_ret;exact ⟨rfl, g1⟩
  ·have d1 : ((l.length : Int) != 6) = true := by simp; omega
   clear hOK c1;go_wp2_with fail;go_ret;exact ⟨rfl, g1⟩
variable {dn : Nat → Bool} {f : Nat → Value} {i j : Nat} {v : Value}
theorem Zd9 (h : j ≠ i) : upd dn i j = dn j := by unfold upd; rw [if_neg h]
theorem Zty : upd dn i i = true := by unfold upd; rw [if_pos rfl]
theorem Zdc (h : j ≠ i) : Qt f i v j = f j := by unfold Qt; rw [if_neg h]
theorem Zjm : Qt f i v i = v := by unfold Qt; rw [if_pos rfl]
variable {A b g : Nat} {Q S0 : Nat → Prop} {W w w' : World} {X : St} {dn : Nat → Bool} {e n : Int} {f : Nat → Value} {v : Value}
def Zhs (g : Nat) (Q : Nat → Prop) (X : St) (v : Value) (w : World) : Prop := ∃ S : Nat → Prop, ¬ S g ∧ (∀ b, S b → b < w.heap.size ∧ Q b) ∧ Zw S X v w
theorem Zhs.grow (h : Zhs g Q X v w) (hg : Zj w w') : Zhs g Q X v w' := by
 obtain ⟨S, h1, h2, h3⟩ := h; exact ⟨S, h1, fun b hb => ⟨Nat.lt_of_lt_of_le (h2 b hb).1 hg.size, (h2 b hb).2⟩, h3.grow hg⟩
theorem Zhs.of {S : Nat → Prop} (h : Zw S X v w) (hn : ¬ S g) (hQ : ∀ b, S b → Q b) : Zhs g Q X v w := ⟨_, fun h' => hn h'.1, fun b hb => ⟨hb.2, hQ b hb.1⟩, h.capd⟩
theorem Zhs.off (h : Zhs g Q X v w) : Zw (fun b => b ≠ g ∧ Q b) X v w := by
 obtain ⟨S, h1, h2, h3⟩ := h; exact h3.mono fun b hb => ⟨fun e => h1 (by rw [← e]; exact hb), (h2 b hb).2⟩
theorem Zs6 {c0 c1 c2 c3 : Value} {T : TypeId} (h : w.heap[g]? = some (.cells #[c0, c1, c2, c3] T (0, 0))) (x0 x1 x2 x3 : Value) : Yu T w ((((w.setCell ⟨g, 0, none⟩ x0).setCell ⟨g, 1, none⟩ x1).setCell ⟨g, 2, none⟩ x2).setCell ⟨g, 3, none⟩ x3) := by
 obtain ⟨hp1, hp2⟩ := Yc h x0 x1 x2 x3;exact .inr ⟨g, _, _, hp2, h, hp1, rfl⟩
def Je (W : World) (S0 : Nat → Prop) (A b s : Nat) (X : St) (n e : Int) (dn : Nat → Bool) (f : Nat → Value) (w : World) : Prop :=
 Zj W w ∧ (dn A = true → ∃ v', f A = .tuple #[v', .int .i64 n, .int .i64 e] ∧ (∃ b1 e1 l1 m1 i1 j1, v' = .agg #[.slice b1 X.dk.blocks.length e1, .slice l1 X.dk.late.length m1, .slice i1 X.idx.length j1, .int .i64 X.next]) ∧ (dn s = false → Zw (Z7 S0 W.heap.size) X v' w)) ∧
  (dn b = true → ∃ g, f b = .pointer (some ⟨g, 0, none⟩) ∧ W.heap.size ≤ g ∧ g < w.heap.size ∧
   (dn s = false → w.heap[g]? = some Yy ∧ (dn A = true → ∃ v', f A = .tuple #[v', .int .i64 n, .int .i64 e] ∧ Zhs g (Z7 S0 W.heap.size) X v' w)) ∧
   (dn s = true → ∃ b1 e1 l1 m1 i1 j1, w.heap[g]? = some (.cells #[.slice b1 X.dk.blocks.length e1, .slice l1 X.dk.late.length m1, .slice i1 X.idx.length j1, .int .i64 X.next] 30 (0, 0)) ∧ Zhs g (Z7 S0 W.heap.size) X (.agg #[.slice b1 X.dk.blocks.length e1, .slice l1 X.dk.late.length m1, .slice i1 X.idx.length j1, .int .i64 X.next]) w))
theorem Je.start (W : World) (S0 : Nat → Prop) (A b s : Nat) (X : St) (n e : Int) (f : Nat → Value) : Je W S0 A b s X n e (fun _ => false) f W.drew := by
 refine ⟨(Zj.refl _).drew, ?_, ?_⟩ <;> (intro h; cases h)
theorem Je.grow {s : Nat} (h : Je W S0 A b s X n e dn f w) (hg : Zj w w') : Je W S0 A b s X n e dn f w' := by
 refine ⟨h.1.trans hg, fun hA => ?_, fun hb => ?_⟩
 ·obtain ⟨v', h1, h2, h3⟩ := h.2.1 hA;exact ⟨v', h1, h2, fun hs => (h3 hs).grow hg⟩
 ·obtain ⟨g, h1, h2, h3, h4, h5⟩ := h.2.2 hb;refine ⟨g, h1, h2, Nat.lt_of_lt_of_le h3 hg.size, fun hs => ⟨(hg.block _ h3).trans (h4 hs).1, fun hA => ?_⟩, fun hs => ?_⟩
  ·obtain ⟨v', e1, e2⟩ := (h4 hs).2 hA;exact ⟨v', e1, e2.grow hg⟩
  ·obtain ⟨b1, e1, l1, m1, i1, j1, k1, k2⟩ := h5 hs;exact ⟨b1, e1, l1, m1, i1, j1, (hg.block _ h3).trans k1, k2.grow hg⟩
theorem Je.call {s : Nat} (h : Je W S0 A b s X n e dn f w) (nn : b ≠ A ∧ s ≠ A) (hs : dn s = false) (hS : ∀ b, S0 b → b < W.heap.size) (hg : Zj w w') (hv : Zw (Z7 S0 w.heap.size) X v w') : Je W S0 A b s X n e (upd dn A) (Qt f A (.tuple #[v, .int .i64 n, .int .i64 e])) w' := by
 obtain ⟨n1, n2⟩ := nn;obtain ⟨b1, e1, l1, m1, i1, j1, hv1, -, -, -⟩ := hv.form;refine ⟨h.1.trans hg, fun _ => ⟨v, Zjm, ⟨_, _, _, _, _, _, hv1⟩, fun _ => hv.mono (Z9 h.1.size)⟩, fun hb => ?_⟩;rw [Zd9 n1] at hb;obtain ⟨g, h1, h2, h3, h4, h5⟩ := h.2.2 hb;refine ⟨g, by rw [Zdc n1]; exact h1, h2, Nat.lt_of_lt_of_le h3 hg.size, fun _ => ⟨(hg.block _ h3).trans (h4 hs).1, fun _ => ⟨v, Zjm, Zhs.of hv ?_ (Z9 h.1.size)⟩⟩, fun hs' => ?_⟩
 ·rintro (hx | hx)
  ·have := hS _ hx; omega
  ·omega
 ·rw [Zd9 n2, hs] at hs'; cases hs'
theorem Je.alloc {s : Nat} (h : Je W S0 A b s X n e dn f w) (nn : A ≠ b ∧ s ≠ b) (hs : dn s = false) : Je W S0 A b s X n e (upd dn b) (Qt f b (.pointer (some ⟨w.heap.size, 0, none⟩))) (w.alloc Yy) := by
 obtain ⟨n1, n2⟩ := nn;have hg := Zd w Yy;have h' := h.grow hg;refine ⟨h'.1, by rw [Zd9 n1, Zd9 n2, Zdc n1]; exact h'.2.1, fun _ => ⟨w.heap.size, Zjm, h.1.size, by simp, fun _ => ⟨Zk _ _ _, fun hA => ?_⟩, fun hs' => ?_⟩⟩
 ·rw [Zd9 n1] at hA;rw [Zdc n1];obtain ⟨v', k1, -, k3⟩ := h.2.1 hA;exact ⟨v', k1, ⟨fun b => Z7 S0 W.heap.size b ∧ b < w.heap.size, fun hx => absurd hx.2 (Nat.lt_irrefl _), fun b hb => ⟨Nat.lt_of_lt_of_le hb.2 hg.size, hb.1⟩, (k3 hs).capd.grow hg⟩⟩
 ·rw [Zd9 n2, hs] at hs'; cases hs'
theorem Je.store {s : Nat} (h : Je W S0 A b s X n e dn f w) (nn : A ≠ s ∧ b ≠ s) (hA : dn A = true) (hb : dn b = true) (hs : dn s = false) :
  ∃ g b1 e1 l1 m1 i1 j1, f b = .pointer (some ⟨g, 0, none⟩) ∧ w.heap[g]? = some Yy ∧ f A = .tuple #[.agg #[.slice b1 X.dk.blocks.length e1, .slice l1 X.dk.late.length m1, .slice i1 X.idx.length j1, .int .i64 X.next], .int .i64 n, .int .i64 e] ∧ Je W S0 A b s X n e (upd dn s) (Qt f s undef) ((((w.setCell ⟨g, 0, none⟩ (.slice b1 X.dk.blocks.length e1)).setCell ⟨g, 1, none⟩ (.slice l1 X.dk.late.length m1)).setCell ⟨g, 2, none⟩ (.slice i1 X.idx.length j1)).setCell ⟨g, 3, none⟩ (.int .i64 X.next)) := by
 obtain ⟨n1, n2⟩ := nn;obtain ⟨g, h1, h2, h3, h4, h5⟩ := h.2.2 hb;obtain ⟨k1, k2⟩ := h4 hs;obtain ⟨v', e1', e2⟩ := k2 hA;obtain ⟨v2, e3, ⟨b1, e1, l1, m1, i1, j1, hv⟩, -⟩ := h.2.1 hA;have hvv : v' = .agg #[.slice b1 X.dk.blocks.length e1, .slice l1 X.dk.late.length m1, .slice i1 X.idx.length j1, .int .i64 X.next] := by
  rw [e1'] at e3;injection e3 with e3
  have := congrArg (fun (a : Array Value) => a[0]?) e3;simp at this;rw [this, hv]
 subst hvv;have k1' : w.heap[g]? = some (.cells #[.slice none 0 0, .slice none 0 0, .slice none 0 0, .int .i64 0] 30 (0, 0)) := k1;obtain ⟨hp1, hp2⟩ := Yc k1' (.slice b1 X.dk.blocks.length e1) (.slice l1 X.dk.late.length m1) (.slice i1 X.idx.length j1) (.int .i64 X.next);refine ⟨g, b1, e1, l1, m1, i1, j1, h1, k1, e1', hp2.grow h.1 h2, fun _ => ⟨_, by rw [Zdc n1]; exact e1', ⟨_, _, _, _, _, _, rfl⟩, fun hs' => ?_⟩, fun _ => ⟨g, by rw [Zdc n2]; exact h1, h2, Nat.lt_of_lt_of_le h3 hp2.size, fun hs' => ?_, fun _ => ⟨b1, e1, l1, m1, i1, j1, hp1, ?_⟩⟩⟩
 ·rw [Zty] at hs'; cases hs'
 ·rw [Zty] at hs'; cases hs'
 ·obtain ⟨S, m1', m2, m3⟩ := e2;exact ⟨S, m1', fun b hb => ⟨Nat.lt_of_lt_of_le (m2 b hb).1 hp2.size, (m2 b hb).2⟩, m3.but hp2 m1'⟩
theorem Je.done {s : Nat} (h : Je W S0 A b s X n e dn f w) (hb : dn b = true) (hs : dn s = true) : Zj W w ∧ ∃ g b1 e1 l1 m1 i1 j1, f b = .pointer (some ⟨g, 0, none⟩) ∧ W.heap.size ≤ g ∧ w.heap[g]? = some (.cells #[.slice b1 X.dk.blocks.length e1, .slice l1 X.dk.late.length m1, .slice i1 X.idx.length j1, .int .i64 X.next] 30 (0, 0)) ∧ Zw (fun b => b ≠ g ∧ Z7 S0 W.heap.size b) X (.agg #[.slice b1 X.dk.blocks.length e1, .slice l1 X.dk.late.length m1, .slice i1 X.idx.length j1, .int .i64 X.next]) w := by
 obtain ⟨g, h1, h2, h3, h4, h5⟩ := h.2.2 hb;obtain ⟨b1, e1, l1, m1, i1, j1, k1, k2⟩ := h5 hs;exact ⟨h.1, g, b1, e1, l1, m1, i1, j1, h1, h2, k1, k2.off⟩
end Go.Proofs.YtpdnapbchcdhladGreatDoor
