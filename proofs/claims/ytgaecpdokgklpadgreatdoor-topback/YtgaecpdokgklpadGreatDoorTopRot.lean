import Derived.Test.YtgaecpdokgklpadGreatDoorTAlive
set_option maxHeartbeats 8000000
namespace Go.Proofs.YtgaecpdokgklpadGreatDoor
set_option maxRecDepth 100000
open Go.RowKit
open Plain Reg
def dRB : Dd := ⟨1, 8, 0, [99]⟩
def dRC : Dd := ⟨2, 7, 0, []⟩
def dRD : Dd := ⟨1, 9, 0, []⟩
def dsR : List Dd := [dTA, dRB, dRC, dRD]
def tsR : List (List UInt8) := [[112, 117, 116, 32, 55, 32, 54, 49, 54, 50], [112, 117, 116, 32, 56, 32, 54, 51], [100, 101, 108, 101, 116, 101, 32, 55], [112, 117, 116, 32, 57, 32, 45]]
theorem Zss : Vt dRB = [112, 117, 116, 32, 56, 32, 54, 51] := by simp [Vt, dRB, Zcm, Lib.itoa, Lib.decDigits, Zde, Zir, Zgo]
theorem Zsr : Vt dRC = [100, 101, 108, 101, 116, 101, 32, 55] := by simp [Vt, dRC, Vx, Lib.itoa, Lib.decDigits]
theorem Zsq : Vt dRD = [112, 117, 116, 32, 57, 32, 45] := by simp [Vt, dRD, Zcm, Lib.itoa, Lib.decDigits, Zde]
theorem okR : Zgk tsR dsR := by
 refine ⟨rfl, by decide, by decide, fun k t d h1 h2 => ?_, fun k d h => ?_⟩
 ·match k, h1, h2 with
  | 0, h1, h2 => cases h1; cases h2; exact Zii
  | 1, h1, h2 => cases h1; cases h2; rw [← Zss]; exact V3 (by decide)
  | 2, h1, h2 => cases h1; cases h2; rw [← Zsr]; exact V3 (by decide)
  | 3, h1, h2 => cases h1; cases h2; rw [← Zsq]; exact V3 (by decide)
  | k + 4, h1, h2 => cases h1
 ·match k, h with
  | 0, h => cases h; decide +kernel
  | 1, h => cases h; decide +kernel
  | 2, h => cases h; decide +kernel
  | 3, h => cases h; decide +kernel
  | k + 4, h => cases h
theorem Zve : ∀ q : Fin 6, (Xk dsR).dk.how ((q.val : Nat) : Int) < 2 := by decide +kernel
theorem Zsg : (Xk dsR).idx.length = 4 := by decide +kernel
theorem Zpe : Zem (Xk dsR) (Xk dsR).idx 0 := ⟨Zf9 dsR Vv Zbm, rfl, fun q _ hq => Zve ⟨q, hq⟩⟩
theorem Ziq {S : Nat → Prop} {w : World} {ao : Option Addr} {n cap : Nat} {l : List Int} (h : Z4 Za4 S w (.slice ao n cap) l) (i : Nat) (hi : i < l.length) : ∃ b off, ao = some ⟨b, off, none⟩ ∧ w.cell? ⟨b, off + i, none⟩ = some (.int .i64 l[i]) := by
 obtain ⟨b, off, rfl, _, cs, hcs, hc⟩ := h.at i hi;have hcs' : cs = [.int .i64 l[i]] := hcs;subst hcs';have h0 : w.cell? ⟨b, off + i * 1 + 0, none⟩ = some (.int .i64 l[i]) := hc 0 _ rfl;exact ⟨b, off, rfl, by simpa using h0⟩
theorem Zjz {s : St} {R : List Ent} {p : Nat} (h : Zem s R p) : s.recs = R.map Ent.rc := by unfold St.recs; rw [h.idx]
theorem Zoy (V : World → Prop) (hV : ∀ w w', V w → Zj w w' → V w') (AL : J3 V) (TD : Za8 V) (PD : Zgi [3, 6]) (SR : Zh2) (SA : Zue) (l : List Int) (by_ rounds : Int) (v : Value) (w : World) (hVw : V w) (hd : Z4 Za4 (fun b => b < w.heap.size) w v l) (hm : l.length ≤ 140737488355328) :
  Calls Tryz.prog 3 #[v, .int .i64 by_, .int .i64 rounds] w fun r w' => r = .returned (.bool true) ∧ Zj w w' := by
 obtain ⟨ao, cp, rfl⟩ := Z4.form hd;go_enter Tryz.func3, Tryz.ntmps3;go_wp2_with fail;refine (AL w hVw).mono ?_;rintro r w1 ⟨rfl, g1⟩;by_cases hOK : l.length = 6 ∧ 1 ≤ by_ ∧ by_ ≤ 255 ∧ 0 ≤ rounds ∧ rounds ≤ 9
 ·obtain ⟨hl6, hb0, hb1, hr0, hr9⟩ := hOK;have HL6 : Hid (l.length = 6) := hl6;have d1 : ((l.length : Int) != 6) = false := by simp [hl6]
  obtain ⟨rn, hrn⟩ : ∃ rn : Nat, rounds = (rn : Int) := ⟨rounds.toNat, by omega⟩;subst hrn;have hrn9 : rn ≤ 9 := by omega
  clear hl6 hr0 hr9;go_wp2_with fail;clear d1;have hl6' : l.length ≤ 6 := by have := HL6.out; omega
  go_loopw [40] (fun i wr => ∃ k : Nat, k ≤ l.length ∧ i = .int .i64 (k : Int) ∧ Hid (∀ (j : Nat) (h : j < l.length), j < k → 0 ≤ l[j] ∧ l[j] < 32) ∧ Zj w wr) (fun i _ => l.length - (intOf i).toNat)
  case atStart => exact ⟨0, by omega, rfl, fun j h hj => by omega, g1⟩
  case round =>
   clear g1;obtain ⟨k, hk, rfl, HB, gw⟩ := hrel;by_cases hlt : k < l.length
   ·obtain ⟨bb, off, hao, q0⟩ := Ziq (Z4.grow hd gw) k hlt;cases hao;have HX : Hid (∀ (j : Nat) (h : j < l.length), j < k + 1 → 0 ≤ l[k] ∧ l[k] < 32 → 0 ≤ l[j] ∧ l[j] < 32) := fun j h hj hx => by
     by_cases e : j = k
     ·subst e; exact hx
     ·exact HB.out j h (by omega)
    generalize hxk : l[k] = x at *;have HXK : Hid _ := hxk;clear hxk;by_cases hx0 : x < 0
    ·go_wp2_with fail;go_ret;exact ⟨rfl, gw⟩
    ·by_cases hx1 : 32 ≤ x
     ·go_wp2_with fail;go_ret;exact ⟨rfl, gw⟩
     ·have HB2 : Hid (∀ (j : Nat) (h : j < l.length), j < k + 1 → 0 ≤ l[j] ∧ l[j] < 32) := fun j h hj => HX.out j h hj ⟨by omega, by omega⟩
      go_wp2_with fail;go_roundw
      case rel => exact ⟨k + 1, by omega, by go_num, HB2, gw⟩
      case measure => simp [intOf]; omega
   ·have HIN : Hid (∀ (j : Nat) (h : j < l.length), 0 ≤ l[j] ∧ l[j] < 32) := fun j h => HB.out j h (by omega)
    clear HB;go_wp2_with fail;have hL := Zk wr (tsR.map fun t => Value.string ⟨t.toArray⟩).toArray 9;have g2 := Zd wr (.cells (tsR.map fun t => Value.string ⟨t.toArray⟩).toArray 9);refine (TD tsR dsR (.slice (some ⟨wr.heap.size, 0, none⟩) 4 4) (wr.alloc (.cells (tsR.map fun t => Value.string ⟨t.toArray⟩).toArray 9)) (hV _ _ hVw (gw.trans g2)) (Zey hL) okR (by decide)).mono ?_;have HRP : Hid (Zem (Xk dsR) (Xk dsR).idx 0) := Zpe;have HR4 : Hid ((Xk dsR).idx.length = 4) := Zsg;generalize Xk dsR = s0 at *;obtain ⟨R, hRe⟩ : ∃ R, R = s0.idx := ⟨_, rfl⟩;rw [← hRe] at HRP HR4;rintro r w3 ⟨v3, rfl, h3, g3⟩;obtain ⟨b1, e1, l1, m1, i1, j1, hv3, -, -, -⟩ := h3.form;subst hv3;obtain ⟨G, hG⟩ : ∃ G, G = w3.heap.size := ⟨_, rfl⟩;have g4 := Zd w3 (.cells #[.slice b1 s0.dk.blocks.length e1, .slice l1 s0.dk.late.length m1, .slice i1 s0.idx.length j1, .int .i64 s0.next] 30);have hY := Zk w3 #[.slice b1 s0.dk.blocks.length e1, .slice l1 s0.dk.late.length m1, .slice i1 s0.idx.length j1, .int .i64 s0.next] 30;have hS : Zw (fun b => b ≠ G) s0 (.agg #[.slice b1 s0.dk.blocks.length e1, .slice l1 s0.dk.late.length m1, .slice i1 s0.idx.length j1, .int .i64 s0.next]) (w3.alloc (.cells #[.slice b1 s0.dk.blocks.length e1, .slice l1 s0.dk.late.length m1, .slice i1 s0.idx.length j1, .int .i64 s0.next] 30)) := (h3.now.grow g4).mono (fun b h => by omega);have hwG : w.heap.size ≤ G := by have := (gw.trans (g2.trans g3)).size; omega
    replace gw := gw.trans (g2.trans (g3.trans g4));rw [← hG] at hY;have HG : Hid _ := hG;clear h3 g2 g3 g4 hL hG hRe hk hlt;obtain ⟨y0, y1, y2, y3⟩ := Z8 hY rfl rfl rfl rfl;rw [HG.out] at y0 y1 y2 y3;go_wp2_with fail;rw [← HG.out];clear HG y0 y1 y2 y3;generalize World.alloc w3 _ = w4 at *;have hG4 : G < w4.heap.size := Zb hY;refine (SR (fun b => b ≠ G ∧ b < w4.heap.size) s0 _ w4 (fun b h => h.2) hS.capd HRP.out.inv.at').mono ?_;rw [Zjz HRP.out];obtain ⟨L, hLe⟩ : ∃ L, L = R.map Ent.rc := ⟨_, rfl⟩;have HLR : Hid (R.map Ent.rc = L) := hLe.symm;have HL4 : Hid (L.length = 4) := by rw [hLe, List.length_map]; exact HR4.out
    rw [← hLe];clear hLe;rintro r w5 ⟨v5, rfl, h5, g5⟩;obtain ⟨a5, c5, rfl⟩ := Z4.form h5;have hR : Qe (fun b => b ≠ G) w5 (.slice a5 L.length c5) L := Z4.mono h5 (by
     rintro b (h | h)
     ·exact h.1
     ·show b ≠ G; omega)
    replace hY := (g5.block _ (Zb hY)).trans hY;replace hS := hS.grow g5;replace gw := gw.trans g5;clear h5 g5 hG4;go_wp2_with fail;go_loopw [59] (fun i wr => ∃ (m : Nat) (s : St) (b1 : Option Addr) (e1 : Nat) (l1 : Option Addr) (m1 : Nat) (i1 : Option Addr) (j1 : Nat), m ≤ rn ∧ i = .int .i64 (m : Int) ∧ Hid (Zem s R 0) ∧ wr.heap[G]? = some (.cells #[.slice b1 s.dk.blocks.length e1, .slice l1 s.dk.late.length m1, .slice i1 s.idx.length j1, .int .i64 s.next] 30 (0, 0)) ∧ Zw (fun b => b ≠ G) s (.agg #[.slice b1 s.dk.blocks.length e1, .slice l1 s.dk.late.length m1, .slice i1 s.idx.length j1, .int .i64 s.next]) wr ∧ Qe (fun b => b ≠ G) wr (.slice a5 L.length c5) L ∧ Zj w wr) (fun i _ => rn - (intOf i).toNat)
    case atStart => exact ⟨0, s0, b1, e1, l1, m1, i1, j1, by omega, rfl, HRP, hY, hS, hR, gw⟩
    case round =>
     clear hY hS hR gw HRP;obtain ⟨m, s, b1, e1, l1, m1, i1, j1, hm9, rfl, HP, hY, hS, hR, gw⟩ := hrel;by_cases hmr : m < rn
     ·go_wp2_with fail;obtain ⟨wO, rfl⟩ : ∃ wO : World, wO = wr := ⟨_, rfl⟩;go_loopw [63] (fun i wr => ∃ (p : Nat) (s : St) (b1 : Option Addr) (e1 : Nat) (l1 : Option Addr) (m1 : Nat) (i1 : Option Addr) (j1 : Nat), p ≤ l.length ∧ i = .int .i64 (p : Int) ∧ Hid (Zem s R p) ∧ wr.heap[G]? = some (.cells #[.slice b1 s.dk.blocks.length e1, .slice l1 s.dk.late.length m1, .slice i1 s.idx.length j1, .int .i64 s.next] 30 (0, 0)) ∧ Zw (fun b => b ≠ G) s (.agg #[.slice b1 s.dk.blocks.length e1, .slice l1 s.dk.late.length m1, .slice i1 s.idx.length j1, .int .i64 s.next]) wr ∧ Qe (fun b => b ≠ G) wr (.slice a5 L.length c5) L ∧ Zj w wr) (fun i _ => l.length - (intOf i).toNat)
      case atStart => exact ⟨0, s, b1, e1, l1, m1, i1, j1, by omega, rfl, HP, hY, hS, hR, gw⟩
      case round =>
       clear hY hS hR gw HP;obtain ⟨p, s, b1, e1, l1, m1, i1, j1, hp, rfl, HP, hY, hS, hR, gw⟩ := hrel;by_cases hlt : p < l.length
       ·obtain ⟨bb, off, hao, q0⟩ := Ziq (Z4.grow hd gw) p hlt;cases hao;obtain ⟨hn0, hn1⟩ := HIN.out p hlt;generalize l[p] = n at *;obtain ⟨y0, y1, y2, y3⟩ := Z8 hY rfl rfl rfl rfl;go_wp2_with fail;clear y0 y1 y2 y3 q0;have hGr : G < wr.heap.size := Zb hY;refine (PD (fun b => b ≠ G ∧ b < wr.heap.size) s ⟨3, 32 * (p : Int) + n, by_, ⟨0, 0, 0, []⟩⟩ _ none 0 wr (show (3 : Int) ∈ ([3, 6] : List Int) by decide) (fun b h => h.2) hS.capd (.inl ⟨none, 0, rfl, rfl, fun _ => rfl⟩) HP.out.inv.at' (show 0 ≤ 140737488355328 by omega)).mono ?_;have HN : Hid (Zem (s.step ⟨3, 32 * (p : Int) + n, by_, ⟨0, 0, 0, []⟩⟩).st R (p + 1)) := Zpc HP.out (by omega) hn0 hn1 by_ _;generalize (s.step ⟨3, 32 * (p : Int) + n, by_, ⟨0, 0, 0, []⟩⟩).n = xn at *;generalize (s.step ⟨3, 32 * (p : Int) + n, by_, ⟨0, 0, 0, []⟩⟩).e = xe at *;generalize (s.step ⟨3, 32 * (p : Int) + n, by_, ⟨0, 0, 0, []⟩⟩).st = X at *;rintro r w5 ⟨v5, rfl, h5, g5⟩;obtain ⟨b5, e5, l5, m5, i5, j5, hv5, -, -, -⟩ := h5.form;subst hv5;have h5' : Zw (fun b => b ≠ G) X (.agg #[.slice b5 X.dk.blocks.length e5, .slice l5 X.dk.late.length m5, .slice i5 X.idx.length j5, .int .i64 X.next]) w5 := h5.mono (by
         rintro b (h | h)
         ·exact h.1
         ·show b ≠ G; omega)
        have hY5 := (g5.block _ (Zb hY)).trans hY;have hR5 := Z4.grow hR g5;have gw5 := gw.trans g5;clear hY hR hS gw h5 g5 hGr;obtain ⟨hp1, hp2⟩ := Yg hY5 (.slice b5 X.dk.blocks.length e5) (.slice l5 X.dk.late.length m5) (.slice i5 X.idx.length j5) (.int .i64 X.next);have hS6 := h5'.but hp2 (fun h => h rfl);have hR6 := Z4.but hR5 hp2 (fun h => h rfl);have gw6 := hp2.grow gw5 (by omega);obtain ⟨y0, y1, y2, y3⟩ := Z8 hY5 rfl rfl rfl rfl;obtain ⟨f0, f1, f2, f3⟩ := Yw hY5;have cs := Zv;clear hp2 hY5 hR5 gw5 h5';go_wp2_with fail;go_roundw
        case rel => exact ⟨p + 1, X, b5, e5, l5, m5, i5, j5, by omega, by go_num, HN, hp1, hS6, hR6, gw6⟩
        case measure => simp [intOf]; omega
       ·have HP6 : Hid (Zem s R 6) := by have h := HP.out; rw [show p = 6 by have := HL6.out; omega] at h; exact h
        obtain ⟨y0, y1, y2, y3⟩ := Z8 hY rfl rfl rfl rfl;go_wp2_with fail;clear y0 y1 y2 y3 HP hlt hp;have hGr : G < wr.heap.size := Zb hY;refine (PD (fun b => b ≠ G ∧ b < wr.heap.size) s Zc1 _ none 0 wr (show (6 : Int) ∈ ([3, 6] : List Int) by decide) (fun b h => h.2) hS.capd (Zp3 _ _) HP6.out.inv.at' (by decide)).mono ?_;have HN : Hid ((s.step Zc1).st.Inv ∧ (s.step Zc1).st.idx = R) := Zpd HP6.out Zc1 rfl;generalize (s.step Zc1).n = xn at *;generalize (s.step Zc1).e = xe at *;generalize (s.step Zc1).st = X at *;rintro r w5 ⟨v5, rfl, h5, g5⟩;obtain ⟨b5, e5, l5, m5, i5, j5, hv5, -, -, -⟩ := h5.form;subst hv5;have h5' : Zw (fun b => b ≠ G) X (.agg #[.slice b5 X.dk.blocks.length e5, .slice l5 X.dk.late.length m5, .slice i5 X.idx.length j5, .int .i64 X.next]) w5 := h5.mono (by
         rintro b (h | h)
         ·exact h.1
         ·show b ≠ G; omega)
        have hY5 := (g5.block _ (Zb hY)).trans hY;have hR5 := Z4.grow hR g5;have gw5 := gw.trans g5;clear hY hR hS gw h5 g5 hGr;obtain ⟨hp1, hp2⟩ := Yg hY5 (.slice b5 X.dk.blocks.length e5) (.slice l5 X.dk.late.length m5) (.slice i5 X.idx.length j5) (.int .i64 X.next);have hS6 := h5'.but hp2 (fun h => h rfl);have hR6 := Z4.but hR5 hp2 (fun h => h rfl);have gw6 := hp2.grow gw5 (by omega);obtain ⟨y0, y1, y2, y3⟩ := Z8 hY5 rfl rfl rfl rfl;obtain ⟨f0, f1, f2, f3⟩ := Yw hY5;have cs := Zv;clear hp2 hY5 hR5 gw5 h5';go_upto_region 21 with fail
        clear y0 y1 y2 y3 f0 f1 f2 f3 cs HP6;generalize World.setCell (World.setCell (World.setCell (World.setCell w5 _ _) _ _) _ _) _ _ = w6 at *;have hY := hp1;have hS := hS6;have hR := hR6;have gw := gw6;clear hp1 hS6 hR6 gw6;obtain ⟨y0, y1, y2, y3⟩ := Z8 hY rfl rfl rfl rfl;have dX : ((X.idx.length : Int) != (L.length : Int)) = false := by rw [HN.out.2, ← HLR.out, List.length_map]; simp
        go_wp2_with fail;clear y0 y1 y2 y3 dX;have hGr : G < w6.heap.size := Zb hY;refine (SA (fun b => b ≠ G ∧ b < w6.heap.size) X _ w6 (fun b h => h.2) hS.capd HN.out.1.at').mono ?_;have HN2 : Hid (Zem (Y2 6 X) R 0) := Zvf HN.out.1 HN.out.2;obtain ⟨rp, hrp⟩ : ∃ rp, rp = Value.agg (Zcw (Zcl X 6)) := ⟨_, rfl⟩;rw [← hrp];clear hrp;obtain ⟨X2, hX2⟩ : ∃ X2, X2 = Y2 6 X := ⟨_, rfl⟩;rw [← hX2] at HN2 ⊢;clear hX2 HN;rintro r w5 ⟨v5, rfl, h5, g5⟩;obtain ⟨b5, e5, l5, m5, i5, j5, hv5, -, -, -⟩ := h5.form;subst hv5;have h5' : Zw (fun b => b ≠ G) X2 (.agg #[.slice b5 X2.dk.blocks.length e5, .slice l5 X2.dk.late.length m5, .slice i5 X2.idx.length j5, .int .i64 X2.next]) w5 := h5.mono (by
         rintro b (h | h)
         ·exact h.1
         ·show b ≠ G; omega)
        have hY5 := (g5.block _ (Zb hY)).trans hY;have hR5 := Z4.grow hR g5;have gw5 := gw.trans g5;clear hY hR hS gw h5 g5 hGr;obtain ⟨hp1, hp2⟩ := Yg hY5 (.slice b5 X2.dk.blocks.length e5) (.slice l5 X2.dk.late.length m5) (.slice i5 X2.idx.length j5) (.int .i64 X2.next);have hS6 := h5'.but hp2 (fun h => h rfl);have hR6 := Z4.but hR5 hp2 (fun h => h rfl);have gw6 := hp2.grow gw5 (by omega);obtain ⟨y0, y1, y2, y3⟩ := Z8 hY5 rfl rfl rfl rfl;obtain ⟨f0, f1, f2, f3⟩ := Yw hY5;have cs := Zv;clear hp2 hY5 hR5 gw5 h5';go_wp2_with fail;go_roundw
        case rel => exact ⟨m + 1, X2, b5, e5, l5, m5, i5, j5, by omega, by go_num, HN2, hp1, hS6, hR6, gw6⟩
        case measure => simp [intOf]; omega
     ·obtain ⟨y0, y1, y2, y3⟩ := Z8 hY rfl rfl rfl rfl;go_wp2_with fail;clear y0 y1 y2 y3;refine (SR (fun b => b < wr.heap.size) s _ wr (fun b h => h) hS.any.now HP.out.inv.at').mono ?_;rw [Zjz HP.out, HLR.out];rintro r w7 ⟨v7, rfl, h7, g7⟩;obtain ⟨a7, c7, rfl⟩ := Z4.form h7;have hR7 := Z4.grow hR g7;have gw7 := gw.trans g7;clear hY hS hR gw g7 HP HLR HR4;have d1 : ((L.length : Int) != (L.length : Int)) = false := by simp
      have d2 : ((L.length : Int) != 4) = false := by rw [HL4.out]; rfl
      have hL4 : L.length ≤ 4 := by have := HL4.out; omega
      go_wp2_with fail;clear d1 d2;go_loopw [118] (fun i wr => ∃ k : Nat, k ≤ L.length ∧ i = .int .i64 (k : Int) ∧ Zj w7 wr) (fun i _ => L.length - (intOf i).toNat)
      case atStart => exact ⟨0, by omega, rfl, Zj.refl _⟩
      case round =>
       obtain ⟨k, hk, rfl, hgq⟩ := hrel;by_cases hlt : k < L.length
       ·obtain ⟨bA, oA, aA, cA, hvA, u0, u1, u2, u3, huA⟩ := Jc (Z4.grow h7 hgq) k hlt;cases hvA;obtain ⟨bB, oB, aB, cB, hvB, z0, z1, z2, z3, huB⟩ := Jc (Z4.grow hR7 hgq) k hlt;cases hvB;generalize L[k] = x at *;have g1 := Zd wr (.cells #[.int .i64 x.kind, .int .i64 x.key, .int .i64 x.ver, .slice aA x.data.length cA] 49);have hX5 := Zk wr #[.int .i64 x.kind, .int .i64 x.key, .int .i64 x.ver, .slice aA x.data.length cA] 49;have hgq1 := hgq.trans g1;have k1 := (Below.cell g1 (Zs z1)).trans z1;have k2 := (Below.cell g1 (Zs z2)).trans z2;have k3 := (Below.cell g1 (Zs z3)).trans z3;have hbA := (huA.grow g1).p;have hbB := (huB.grow g1).p;clear z0 z1 z2 z3 huA huB g1 hgq;go_wp2_with fail;obtain ⟨gx, hgx⟩ : ∃ gx, gx = wr.heap.size := ⟨_, rfl⟩;rw [← hgx] at hX5 ⊢;clear hgx u0 u1 u2 u3;generalize World.alloc wr _ = W at *
        refine Zy [ex (.pointer (some ⟨gx, 1, none⟩)), ex (.int .i64 x.key), ex (.slice (some ⟨bB, oB, none⟩) L.length c5), ex (.int .i64 (k : Int)), ex (.pointer (some ⟨bB, oB + k * 4, none⟩)), ex (.pointer (some ⟨bB, oB + k * 4 + 1, none⟩)), ex (.int .i64 x.key), ex (.bool false), ex (.bool false), ex (.pointer (some ⟨gx, 2, none⟩)), ex (.int .i64 x.ver), ex (.slice (some ⟨bB, oB, none⟩) L.length c5), ex (.int .i64 (k : Int)), ex (.pointer (some ⟨bB, oB + k * 4, none⟩)), ex (.pointer (some ⟨bB, oB + k * 4 + 2, none⟩)), ex (.int .i64 x.ver), ex (.bool false), ex (.bool false), ex (.bool false), ex (.pointer (some ⟨gx, 3, none⟩)), ex (.slice aA x.data.length cA), ex (.string ⟨x.data.toArray⟩), ex (.slice (some ⟨bB, oB, none⟩) L.length c5), ex (.int .i64 (k : Int)), ex (.pointer (some ⟨bB, oB + k * 4, none⟩)), ex (.pointer (some ⟨bB, oB + k * 4 + 3, none⟩)), ex (.slice aB x.data.length cB), ex (.string ⟨x.data.toArray⟩), ex (.bool false), ex (.bool false)] (by kernel_rfl) (by kernel_rfl) ⟨Zf _, Zf _, Zf _, Zf _, Zf _, Zf _, Zf _, Zf _, Zf _, Zf _, Zf _, Zf _, Zf _, Zf _, Zf _, Zf _, Zf _, Zf _, Zf _, Zf _, Zf _, Zf _, Zf _, Zf _, Zf _, Zf _, Zf _, Zf _, Zf _, Zf _, trivial⟩ ?_ ?_
        ·refine ⟨?_, ?_, ?_, ?_, ?_, ?_, ?_, ?_, ?_, ?_, ?_, ?_, ?_, ?_, ?_, ?_, ?_, ?_, ?_, ?_, ?_, ?_, ?_, ?_, ?_, ?_, ?_, ?_, ?_, ?_, trivial⟩
         ·refine Za rfl fun a w' ek ef hg hin => ?_;have e16 : a (.tmp 16) = .pointer (some ⟨gx, 0, none⟩) := Zq hin 16 rfl;refine Zi ?_ rfl;clear hin hg;go_simp;all_goals go_arith
         ·refine Za rfl fun a w' ek ef hg hin => ?_;have e123 : a (.tmp 123) = _ := Zc hin 0 rfl;have z1 := Zh ((hg.block _ (Zb hX5)).trans hX5) 1 _ rfl;refine Zi ?_ rfl;clear hin hg;go_simp;all_goals go_arith
         ·refine Za rfl fun a w' ek ef hg hin => ?_;have e : a (.tmp 11) = .slice (some ⟨bB, oB, none⟩) L.length c5 := Zq hin 11 rfl;exact Zn rfl e
         ·refine Za rfl fun a w' ek ef hg hin => ?_;have e : a (.tmp 15) = .int .i64 (k : Int) := Zq hin 15 rfl;exact Zn rfl e
         ·refine Za rfl fun a w' ek ef hg hin => ?_;have e125 : a (.tmp 125) = _ := Zc hin 2 rfl;have e126 : a (.tmp 126) = _ := Zc hin 3 rfl;refine Zi ?_ rfl;clear hin hg;go_simp;all_goals go_arith
         ·refine Za rfl fun a w' ek ef hg hin => ?_;have e127 : a (.tmp 127) = _ := Zc hin 4 rfl;refine Zi ?_ rfl;clear hin hg;go_simp;all_goals go_arith
         ·refine Za rfl fun a w' ek ef hg hin => ?_;have e128 : a (.tmp 128) = _ := Zc hin 5 rfl;have z1 := (Below.cell hg (Zs k1)).trans k1;refine Zi ?_ rfl;clear hin hg;go_simp;all_goals go_arith
         ·refine Za rfl fun a w' ek ef hg hin => ?_;have e124 : a (.tmp 124) = _ := Zc hin 1 rfl;have e129 : a (.tmp 129) = _ := Zc hin 6 rfl;refine Zi ?_ rfl;clear hin hg;go_simp;all_goals go_arith
         ·refine Za rfl fun a w' ek ef hg hin => ?_;have e : a (.tmp 130) = _ := Zc hin 7 rfl;exact Zn rfl e
         ·refine Zl 8 false rfl (fun a w' hin => Zm hin 8 (by kernel_rfl)) fun a w' ek ef hg hin => ?_;have e16 : a (.tmp 16) = .pointer (some ⟨gx, 0, none⟩) := Zq hin 16 rfl;refine Zi ?_ rfl;clear hin hg;go_simp;all_goals go_arith
         ·refine Zl 8 false rfl (fun a w' hin => Zm hin 8 (by kernel_rfl)) fun a w' ek ef hg hin => ?_;have e132 : a (.tmp 132) = _ := Zc hin 9 rfl;have z1 := Zh ((hg.block _ (Zb hX5)).trans hX5) 2 _ rfl;refine Zi ?_ rfl;clear hin hg;go_simp;all_goals go_arith
         ·refine Zl 8 false rfl (fun a w' hin => Zm hin 8 (by kernel_rfl)) fun a w' ek ef hg hin => ?_;have e : a (.tmp 11) = .slice (some ⟨bB, oB, none⟩) L.length c5 := Zq hin 11 rfl;exact Zn rfl e
         ·refine Zl 8 false rfl (fun a w' hin => Zm hin 8 (by kernel_rfl)) fun a w' ek ef hg hin => ?_;have e : a (.tmp 15) = .int .i64 (k : Int) := Zq hin 15 rfl;exact Zn rfl e
         ·refine Zl 8 false rfl (fun a w' hin => Zm hin 8 (by kernel_rfl)) fun a w' ek ef hg hin => ?_;have e134 : a (.tmp 134) = _ := Zc hin 11 rfl;have e135 : a (.tmp 135) = _ := Zc hin 12 rfl;refine Zi ?_ rfl;clear hin hg;go_simp;all_goals go_arith
         ·refine Zl 8 false rfl (fun a w' hin => Zm hin 8 (by kernel_rfl)) fun a w' ek ef hg hin => ?_;have e136 : a (.tmp 136) = _ := Zc hin 13 rfl;refine Zi ?_ rfl;clear hin hg;go_simp;all_goals go_arith
         ·refine Zl 8 false rfl (fun a w' hin => Zm hin 8 (by kernel_rfl)) fun a w' ek ef hg hin => ?_;have e137 : a (.tmp 137) = _ := Zc hin 14 rfl;have z1 := (Below.cell hg (Zs k2)).trans k2;refine Zi ?_ rfl;clear hin hg;go_simp;all_goals go_arith
         ·refine Zl 8 false rfl (fun a w' hin => Zm hin 8 (by kernel_rfl)) fun a w' ek ef hg hin => ?_;have e133 : a (.tmp 133) = _ := Zc hin 10 rfl;have e138 : a (.tmp 138) = _ := Zc hin 15 rfl;refine Zi ?_ rfl;clear hin hg;go_simp;all_goals go_arith
         ·refine Za rfl fun a w' ek ef hg hin => ?_;have ec : a (.tmp 131) = _ := Zc hin 8 rfl;have e : a (.tmp 139) = _ := Zc hin 16 rfl;exact Y3 rfl ec e
         ·refine Za rfl fun a w' ek ef hg hin => ?_;have e : a (.tmp 140) = _ := Zc hin 17 rfl;exact Zn rfl e
         ·refine Zl 18 false rfl (fun a w' hin => Zm hin 18 (by kernel_rfl)) fun a w' ek ef hg hin => ?_;have e16 : a (.tmp 16) = .pointer (some ⟨gx, 0, none⟩) := Zq hin 16 rfl;refine Zi ?_ rfl;clear hin hg;go_simp;all_goals go_arith
         ·refine Zl 18 false rfl (fun a w' hin => Zm hin 18 (by kernel_rfl)) fun a w' ek ef hg hin => ?_;have e142 : a (.tmp 142) = _ := Zc hin 19 rfl;have z1 := Zh ((hg.block _ (Zb hX5)).trans hX5) 3 _ rfl;refine Zi ?_ rfl;clear hin hg;go_simp;all_goals go_arith
         ·refine Zl 18 false rfl (fun a w' hin => Zm hin 18 (by kernel_rfl)) fun a w' ek ef hg hin => ?_;have e143 : a (.tmp 143) = _ := Zc hin 20 rfl;have ra := Ku w' _ _ (Z0 hbA hg);refine Zi ?_ rfl;clear hin hg;go_simp;all_goals go_arith
         ·refine Zl 18 false rfl (fun a w' hin => Zm hin 18 (by kernel_rfl)) fun a w' ek ef hg hin => ?_;have e : a (.tmp 11) = .slice (some ⟨bB, oB, none⟩) L.length c5 := Zq hin 11 rfl;exact Zn rfl e
         ·refine Zl 18 false rfl (fun a w' hin => Zm hin 18 (by kernel_rfl)) fun a w' ek ef hg hin => ?_;have e : a (.tmp 15) = .int .i64 (k : Int) := Zq hin 15 rfl;exact Zn rfl e
         ·refine Zl 18 false rfl (fun a w' hin => Zm hin 18 (by kernel_rfl)) fun a w' ek ef hg hin => ?_;have e145 : a (.tmp 145) = _ := Zc hin 22 rfl;have e146 : a (.tmp 146) = _ := Zc hin 23 rfl;refine Zi ?_ rfl;clear hin hg;go_simp;all_goals go_arith
         ·refine Zl 18 false rfl (fun a w' hin => Zm hin 18 (by kernel_rfl)) fun a w' ek ef hg hin => ?_;have e147 : a (.tmp 147) = _ := Zc hin 24 rfl;refine Zi ?_ rfl;clear hin hg;go_simp;all_goals go_arith
         ·refine Zl 18 false rfl (fun a w' hin => Zm hin 18 (by kernel_rfl)) fun a w' ek ef hg hin => ?_;have e148 : a (.tmp 148) = _ := Zc hin 25 rfl;have z1 := (Below.cell hg (Zs k3)).trans k3;refine Zi ?_ rfl;clear hin hg;go_simp;all_goals go_arith
         ·refine Zl 18 false rfl (fun a w' hin => Zm hin 18 (by kernel_rfl)) fun a w' ek ef hg hin => ?_;have e149 : a (.tmp 149) = _ := Zc hin 26 rfl;have ra := Ku w' _ _ (Z0 hbB hg);refine Zi ?_ rfl;clear hin hg;go_simp;all_goals go_arith
         ·refine Zl 18 false rfl (fun a w' hin => Zm hin 18 (by kernel_rfl)) fun a w' ek ef hg hin => ?_;have e144 : a (.tmp 144) = _ := Zc hin 21 rfl;have e150 : a (.tmp 150) = _ := Zc hin 27 rfl;refine Zi ?_ rfl;clear hin hg;go_simp;all_goals go_arith
         ·refine Za rfl fun a w' ek ef hg hin => ?_;have ec : a (.tmp 141) = _ := Zc hin 18 rfl;have e : a (.tmp 151) = _ := Zc hin 28 rfl;exact Y3 rfl ec e
        ·intro vs w' hg ht;obtain ⟨q123, q124, q125, q126, q127, q128, q129, q130, q131, q132, q133, q134, q135, q136, q137, q138, q139, q140, q141, q142, q143, q144, q145, q146, q147, q148, q149, q150, q151, q152, -⟩ := ht;have r123 : vs 0 = .pointer (some ⟨gx, 1, none⟩) := q123;have r124 : vs 1 = .int .i64 x.key := q124;have r125 : vs 2 = .slice (some ⟨bB, oB, none⟩) L.length c5 := q125;have r126 : vs 3 = .int .i64 (k : Int) := q126;have r127 : vs 4 = .pointer (some ⟨bB, oB + k * 4, none⟩) := q127;have r128 : vs 5 = .pointer (some ⟨bB, oB + k * 4 + 1, none⟩) := q128;have r129 : vs 6 = .int .i64 x.key := q129;have r130 : vs 7 = .bool false := q130;have r131 : vs 8 = .bool false := q131;have r132 : vs 9 = .pointer (some ⟨gx, 2, none⟩) := q132;have r133 : vs 10 = .int .i64 x.ver := q133;have r134 : vs 11 = .slice (some ⟨bB, oB, none⟩) L.length c5 := q134;have r135 : vs 12 = .int .i64 (k : Int) := q135;have r136 : vs 13 = .pointer (some ⟨bB, oB + k * 4, none⟩) := q136;have r137 : vs 14 = .pointer (some ⟨bB, oB + k * 4 + 2, none⟩) := q137;have r138 : vs 15 = .int .i64 x.ver := q138;have r139 : vs 16 = .bool false := q139;have r140 : vs 17 = .bool false := q140;have r141 : vs 18 = .bool false := q141;have r142 : vs 19 = .pointer (some ⟨gx, 3, none⟩) := q142;have r143 : vs 20 = .slice aA x.data.length cA := q143;have r144 : vs 21 = .string ⟨x.data.toArray⟩ := q144;have r145 : vs 22 = .slice (some ⟨bB, oB, none⟩) L.length c5 := q145;have r146 : vs 23 = .int .i64 (k : Int) := q146
         have r147 : vs 24 = .pointer (some ⟨bB, oB + k * 4, none⟩) := q147;have r148 : vs 25 = .pointer (some ⟨bB, oB + k * 4 + 3, none⟩) := q148;have r149 : vs 26 = .slice aB x.data.length cB := q149;have r150 : vs 27 = .string ⟨x.data.toArray⟩ := q150;have r151 : vs 28 = .bool false := q151;have r152 : vs 29 = .bool false := q152;clear q123 q124 q125 q126 q127 q128 q129 q130 q131 q132 q133 q134 q135 q136 q137 q138 q139 q140 q141 q142 q143 q144 q145 q146 q147 q148 q149 q150 q151 q152;simp only [Z9, Act.put, List.setIfInBounds_toArray, List.set_cons_zero, List.set_cons_succ, r123, r124, r125, r126, r127, r128, r129, r130, r131, r132, r133, r134, r135, r136, r137, r138, r139, r140, r141, r142, r143, r144, r145, r146, r147, r148, r149, r150, r151, r152];clear r123 r124 r125 r126 r127 r128 r129 r130 r131 r132 r133 r134 r135 r136 r137 r138 r139 r140 r141 r142 r143 r144 r145 r146 r147 r148 r149 r150 r151 r152;have hgE := hgq1.trans hg;clear hg hgq1 hX5 k1 k2 k3 hbA hbB;go_wp2_with fail;go_roundw
         case rel => exact ⟨k + 1, by omega, by go_num, hgE⟩
         case measure => simp [intOf]; omega
       ·have gE := gw7.trans hgq;clear h7 hR7 hgq gw7;go_wp2_with fail;go_ret;exact ⟨rfl, gE⟩
 ·clear hd;by_cases c1 : l.length = 6
  ·have d1 : ((l.length : Int) != 6) = false := by simp [c1]
   by_cases c2 : 1 ≤ by_
   ·by_cases c3 : by_ ≤ 255
    ·by_cases c4 : 0 ≤ rounds
     ·have c5 : 9 < rounds := by omega
      clear hOK c1;go_wp2_with fail;go_ret;exact ⟨rfl, g1⟩
     ·clear hOK c1;go_wp2_with fail;go_ret;exact ⟨rfl, g1⟩
    ·clear hOK c1;go_wp2_with fail;go_ret;exact ⟨rfl, g1⟩
   ·clear hOK c1;go_wp2_with fail;go_ret;exact ⟨rfl, g1⟩
  ·have d1 : ((l.length : Int) != 6) = true := by simp; omega
   clear hOK c1;go_wp2_with fail;go_ret;exact ⟨rfl, g1⟩
end Go.Proofs.YtgaecpdokgklpadGreatDoor
