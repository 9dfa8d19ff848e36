import Derived.Test.YtpdnapbchcdhladGreatDoorTopP
set_option maxHeartbeats 8000000
namespace Go.Proofs.YtpdnapbchcdhladGreatDoor
set_option maxRecDepth 100000
open Go.RowKit
open Plain Reg
def dP : Dd := ⟨1, 7, 0, [97, 98]⟩
theorem Zx1 : V3 dP = [112, 117, 116, 32, 55, 32, 54, 49, 54, 50] := by
 simp [V3, dP, Zc2, Lib.itoa, Lib.decDigits, Zdx, Zjv, Zhl]
theorem Zxx : Z1 dP = 0 := by decide
theorem Zjo : K6 [112, 117, 116, 32, 55, 32, 54, 49, 54, 50] = (dP, 0) := by rw [← Zx1]; exact Kd Zxx
theorem Zfo {w : World} {N : Nat} {ts : List (List UInt8)} {T : TypeId} {f : Nat × Nat} (h : w.heap[N]? = some (.cells (ts.map fun t => Value.string ⟨t.toArray⟩).toArray T f)) : Zv Zc5 (fun _ => True) w (.slice (some ⟨N, 0, none⟩) ts.length ts.length) ts := by
 refine .inr ⟨N, 0, ts.length, trivial, rfl, Nat.le_refl _, fun i hi => ⟨_, rfl, fun j u hj => ?_⟩⟩
 match j, hj with
 | 0, hj =>
  simp only [List.getElem?_cons_zero, Option.some.injEq] at hj;subst hj;rw [show 0 + i * Zc5.size + 0 = i from by show 0 + i * 1 + 0 = i; omega];refine Ze h i _ ?_;simp [hi]
 | j + 1, hj => simp at hj
def dTA : Dd := ⟨1, 7, 0, [97, 98]⟩
def dTB : Dd := ⟨1, 8, 0, []⟩
def dsA : List Dd := [dTA, dTB]
def tsA : List (List UInt8) := [[112, 117, 116, 32, 55, 32, 54, 49, 54, 50], [112, 117, 116, 32, 56, 32, 45]]
theorem Zuz : V3 dTB = [112, 117, 116, 32, 56, 32, 45] := by
 simp [V3, dTB, Zc2, Lib.itoa, Lib.decDigits, Zdx]
theorem Zvb : K6 [112, 117, 116, 32, 56, 32, 45] = (dTB, 0) := by rw [← Zuz]; exact Kd (by decide)
theorem okA : Zhe tsA dsA := by
 refine ⟨rfl, by decide, by decide, fun k t d h1 h2 => ?_, fun k d h => ?_⟩
 ·match k, h1, h2 with
  | 0, h1, h2 => cases h1; cases h2; exact Zjo
  | 1, h1, h2 => cases h1; cases h2; exact Zvb
  | k + 2, h1, h2 => cases h1
 ·match k, h with
  | 0, h => cases h; decide +kernel
  | 1, h => cases h; decide +kernel
  | k + 2, h => cases h
theorem Zt0 : (X6 (Xl dsA).recs 7).e = 0 ∧ (X6 (Xl dsA).recs 7).data = [97, 98] := by decide +kernel
theorem Zqt : (Qo (Xl dsA).recs 1 9 255).length = 2 := by decide +kernel
def K1 (V : World → Prop) : Prop := ∀ w : World, V w → Calls Tryz.prog 7 #[] w fun r w' => r = .returned (.bool true) ∧ Zj w w'
theorem Zkr (V : World → Prop) (hV : ∀ w w', V w → Zj w w' → V w') (TD : Zbj V) (SG : Zm3) (SL : Zph) : K1 V := by
 intro w hVw;go_enter Tryz.func7, Tryz.ntmps7;go_wp2_with fail;have hL := Zk w (tsA.map fun t => Value.string ⟨t.toArray⟩).toArray 9;have g0 := Zd w (.cells (tsA.map fun t => Value.string ⟨t.toArray⟩).toArray 9);refine (TD tsA dsA (.slice (some ⟨w.heap.size, 0, none⟩) 2 2) (w.alloc (.cells (tsA.map fun t => Value.string ⟨t.toArray⟩).toArray 9)) (hV _ _ hVw g0) (Zfo hL) okA (by decide)).mono ?_;have HA : Hid ((Xl dsA).At) := (Zg1 dsA Qg Jp).at';have HG : Hid _ := Zt0;have HL : Hid _ := Zqt;generalize Xl dsA = s at *;rintro r w1 ⟨v1, rfl, h1, g1⟩;obtain ⟨b1, e1, l1, m1, i1, j1, hv1, -, -, -⟩ := h1.form;subst hv1;have g2 := Zd w1 (.cells #[.slice b1 s.dk.blocks.length e1, .slice l1 s.dk.late.length m1, .slice i1 s.idx.length j1, .int .i64 s.next] 30);have hY2 := Zk w1 #[.slice b1 s.dk.blocks.length e1, .slice l1 s.dk.late.length m1, .slice i1 s.idx.length j1, .int .i64 s.next] 30;have hS2 := h1.grow g2;have gw2 := g0.trans (g1.trans g2);clear h1 g0 g1 g2 hL;obtain ⟨y0, y1, y2, y3⟩ := Z4 hY2 rfl rfl rfl rfl;go_wp2_with fail;obtain ⟨G, hG⟩ : ∃ G, G = w1.heap.size := ⟨_, rfl⟩;rw [← hG] at hY2 ⊢;clear hG y0 y1 y2 y3;generalize World.alloc w1 _ = w2 at *;refine (SG (fun b => b < w2.heap.size) s 7 _ w2 (fun b h => h) hS2.now HA.out).mono ?_;rw [HG.out.1, HG.out.2];rintro r w3 ⟨u3, rfl, hu3, g3⟩;obtain ⟨a3, c3, rfl⟩ : ∃ a c, u3 = .slice a 2 c := hu3.form;have hY3 := (g3.block _ (Za hY2)).trans hY2;have hS3 := hS2.grow g3;have gw3 := gw2.trans g3
 have ra : (convert 38 9 (.slice a3 2 c3)).run Tryz.prog w3 = .ok (.string ⟨#[97, 98]⟩) w3 := Vp _ _ _ hu3.p;clear hY2 hS2 gw2 g3 hu3;obtain ⟨y0, y1, y2, y3⟩ := Z4 hY3 rfl rfl rfl rfl;go_wp2_with fail;refine (SL (fun b => b < w3.heap.size) s 1 9 _ w3 (fun b h => h) hS3.now HA.out).mono ?_;rw [HL.out];rintro r w4 ⟨v4, rfl, h4, g4⟩;obtain ⟨a4, c4, rfl⟩ := Ye h4;have gE := gw3.trans g4;clear y0 y1 y2 y3 hY3 hS3 gw3 g4 h4 ra;go_wp2_with fail;go_ret;exact ⟨rfl, gE⟩
def tsF : List (List UInt8) := [[112, 117, 116, 32, 55, 32, 54, 49, 54, 50]]
theorem okF : Zhe tsF [dTA] := by
 refine ⟨rfl, by decide, by decide, fun k t d h1 h2 => ?_, fun k d h => ?_⟩
 ·match k, h1, h2 with
  | 0, h1, h2 => cases h1; cases h2; exact Zjo
  | k + 1, h1, h2 => cases h1
 ·match k, h with
  | 0, h => cases h; decide +kernel
  | k + 1, h => cases h
theorem Zn7 {l : List UInt8} {key : Int} (h0 : 1 ≤ key) (h1 : key ≤ 255) (hl : l.length ≤ 8) : Z1 ⟨1, key, 0, l⟩ = 0 := by
 unfold Z1;simp only;rw [if_neg (by omega), if_neg (by simp; omega), if_neg (by simp; omega)]
theorem Zv2 (s : St) : s.recs.length = s.idx.length := by unfold St.recs; rw [List.length_map]
theorem Znl (V : World → Prop) (hV : ∀ w w', V w → Zj w w' → V w') (AL : K1 V) (TD : Zbj V) (PD : Ze8 [1, 2]) (SG : Zm3) (l : List UInt8) (bits again : Int) (ad : Option Addr) (c : Nat) (w : World) (hVw : V w) (hd : Z0 (fun b => b < w.heap.size) w (.slice ad l.length c) l) (hm : l.length ≤ 140737488355328) :
  Calls Tryz.prog 4 #[.slice ad l.length c, .int .i64 bits, .int .i64 again] w fun r w' => r = .returned (.bool true) ∧ Zj w w' := by
 go_enter Tryz.func4, Tryz.ntmps4;go_wp2_with fail;refine (AL w hVw).mono ?_;rintro r w1 ⟨rfl, g1⟩;by_cases h8 : l.length ≤ 8
 ·by_cases ha0 : again < 0
  ·clear hd;go_wp2_with fail;go_ret;exact ⟨rfl, g1⟩
  ·by_cases ha3 : 3 < again
   ·clear hd;go_wp2_with fail;go_ret;exact ⟨rfl, g1⟩
   ·obtain ⟨m, hmE⟩ : ∃ m : Nat, again = (m : Int) := ⟨again.toNat, by omega⟩;subst hmE;have hm3 : m ≤ 3 := by omega
    clear ha0 ha3;go_wp2_with fail;have hL := Zk w1 (tsF.map fun t => Value.string ⟨t.toArray⟩).toArray 9;have g2 := Zd w1 (.cells (tsF.map fun t => Value.string ⟨t.toArray⟩).toArray 9);refine (TD tsF [dTA] (.slice (some ⟨w1.heap.size, 0, none⟩) 1 1) (w1.alloc (.cells (tsF.map fun t => Value.string ⟨t.toArray⟩).toArray 9)) (hV _ _ hVw (g1.trans g2)) (Zfo hL) okF (by decide)).mono ?_;have HF : Hid (Zd7 (Xl [dTA]) 0) := Zo1 (by decide) (by decide);generalize Xl [dTA] = s0 at *;rintro r w3 ⟨v3, rfl, h3, g3⟩;obtain ⟨b1, e1, l1, m1, i1, j1, hv3, -, -, -⟩ := h3.form;subst hv3;have gw3 := g1.trans (g2.trans g3);obtain ⟨G, hG⟩ : ∃ G, G = w3.heap.size := ⟨_, rfl⟩;have g4 := Zx w3 (.cells #[.slice b1 s0.dk.blocks.length e1, .slice l1 s0.dk.late.length m1, .slice i1 s0.idx.length j1, .int .i64 s0.next] 30) (.cells #[.int .i64 1, .int .i64 7, .int .i64 0, .slice ad l.length c] 40);have hY4 := ((Zd (w3.alloc (.cells #[.slice b1 s0.dk.blocks.length e1, .slice l1 s0.dk.late.length m1, .slice i1 s0.idx.length j1, .int .i64 s0.next] 30)) (.cells #[.int .i64 1, .int .i64 7, .int .i64 0, .slice ad l.length c] 40)).block _ (Za (Zk w3 #[.slice b1 s0.dk.blocks.length e1, .slice l1 s0.dk.late.length m1, .slice i1 s0.idx.length j1, .int .i64 s0.next] 30))).trans (Zk w3 #[.slice b1 s0.dk.blocks.length e1, .slice l1 s0.dk.late.length m1, .slice i1 s0.idx.length j1, .int .i64 s0.next] 30)
    have hD4 := Zk (w3.alloc (.cells #[.slice b1 s0.dk.blocks.length e1, .slice l1 s0.dk.late.length m1, .slice i1 s0.idx.length j1, .int .i64 s0.next] 30)) #[.int .i64 1, .int .i64 7, .int .i64 0, .slice ad l.length c] 40;rw [World.size_alloc] at hD4;have hS4 : Zw (fun b => b ≠ G) s0 (.agg #[.slice b1 s0.dk.blocks.length e1, .slice l1 s0.dk.late.length m1, .slice i1 s0.idx.length j1, .int .i64 s0.next]) ((w3.alloc (.cells #[.slice b1 s0.dk.blocks.length e1, .slice l1 s0.dk.late.length m1, .slice i1 s0.idx.length j1, .int .i64 s0.next] 30)).alloc (.cells #[.int .i64 1, .int .i64 7, .int .i64 0, .slice ad l.length c] 40)) := (h3.now.grow g4).mono (fun b h => by omega);have gw4 := gw3.trans g4;have hwG : w.heap.size ≤ G := by have := gw3.size; omega
    rw [← hG] at hY4 hD4;have HG : Hid _ := hG;clear h3 g1 g2 g3 g4 gw3 hL hG;go_wp2_with fail;rw [← HG.out];clear HG;generalize World.alloc (World.alloc w3 _) _ = w4 at *;go_loopw [35] (fun i wr => ∃ (k : Nat) (s : St) (b1 : Option Addr) (e1 : Nat) (l1 : Option Addr) (m1 : Nat) (i1 : Option Addr) (j1 : Nat), k ≤ m ∧ i = .int .i64 (k : Int) ∧ Hid (Zd7 s k) ∧ wr.heap[G]? = some (.cells #[.slice b1 s.dk.blocks.length e1, .slice l1 s.dk.late.length m1, .slice i1 s.idx.length j1, .int .i64 s.next] 30 (0, 0)) ∧ wr.heap[G + 1]? = some (.cells #[.int .i64 1, .int .i64 7, .int .i64 0, .slice ad l.length c] 40 (0, 0)) ∧ Zw (fun b => b ≠ G) s (.agg #[.slice b1 s.dk.blocks.length e1, .slice l1 s.dk.late.length m1, .slice i1 s.idx.length j1, .int .i64 s.next]) wr ∧ Zj w wr) (fun i _ => m - (intOf i).toNat)
    case atStart => exact ⟨0, s0, b1, e1, l1, m1, i1, j1, by omega, rfl, HF, hY4, hD4, hS4, gw4⟩
    case round =>
     clear hY4 hD4 hS4 gw4 HF;obtain ⟨k, s, b1, e1, l1, m1, i1, j1, hk, rfl, HF, hY, hD, hS, gw⟩ := hrel;have HW : Hid (Z1 ⟨1, 7, 0, l⟩ = 0) := Zn7 (by decide) (by decide) h8;obtain ⟨y0, y1, y2, y3⟩ := Z4 hY rfl rfl rfl rfl;obtain ⟨p0, p1, p2, p3⟩ := Z4 hD rfl rfl rfl rfl;have hGr : G < wr.heap.size := Za hY;have hwr := gw.size;have hdd : Z0 (fun b => b ≠ G ∧ b < wr.heap.size) wr (.slice ad l.length c) l := (hd.grow gw).mono (fun b h => by omega);by_cases hlt : k < m
     ·go_wp2_with fail;clear y0 y1 y2 y3 p0 p1 p2 p3;refine (PD (fun b => b ≠ G ∧ b < wr.heap.size) s ⟨2, bits, 0, ⟨1, 7, 0, l⟩⟩ _ ad c wr (show (2 : Int) ∈ ([1, 2] : List Int) by decide) (fun b h => h.2) hS.capd hdd HF.out.inv.at' hm).mono ?_;have HN : Hid (Zd7 (s.step ⟨2, bits, 0, ⟨1, 7, 0, l⟩⟩).st (k + 1)) := Zsr HF.out (by omega) HW.out (show (1 : Int) ≠ 3 by decide) bits;generalize s.step ⟨2, bits, 0, ⟨1, 7, 0, l⟩⟩ = B at *;rintro r w5 ⟨v5, rfl, h5, g5⟩;obtain ⟨b5, e5, l5, m5, i5, j5, hv5, -, -, -⟩ := h5.form;subst hv5;have h5' : Zw (fun b => b ≠ G) B.st (.agg #[.slice b5 B.st.dk.blocks.length e5, .slice l5 B.st.dk.late.length m5, .slice i5 B.st.idx.length j5, .int .i64 B.st.next]) w5 := h5.mono (by
       rintro b (h | h)
       ·exact h.1
       ·show b ≠ G; omega)
      have hY5 := (g5.block _ (Za hY)).trans hY;have hD5 := (g5.block _ (Za hD)).trans hD;have gw5 := gw.trans g5;clear hY hD hS gw h5 g5 hGr hwr hdd HF HW;obtain ⟨hp1, hp2⟩ := Yc hY5 (.slice b5 B.st.dk.blocks.length e5) (.slice l5 B.st.dk.late.length m5) (.slice i5 B.st.idx.length j5) (.int .i64 B.st.next);have hD6 := (hp2.block _ (Za hD5) (by omega)).trans hD5;have hS6 := h5'.but hp2 (fun h => h rfl);have gw6 := hp2.grow gw5 (by omega);obtain ⟨y0, y1, y2, y3⟩ := Z4 hY5 rfl rfl rfl rfl;obtain ⟨f0, f1, f2, f3⟩ := Yp hY5;have cs := Zu;clear hp2 hY5 hD5 gw5 h5';go_wp2_with fail;go_roundw
      case rel => exact ⟨k + 1, B.st, b5, e5, l5, m5, i5, j5, by omega, by go_num, HN, hp1, hD6, hS6, gw6⟩
      case measure => simp [intOf]; omega
     ·obtain rfl : k = m := by omega
      go_wp2_with fail;clear y0 y1 y2 y3 p0 p1 p2 p3;refine (PD (fun b => b ≠ G ∧ b < wr.heap.size) s ⟨1, 0, 0, ⟨1, 7, 0, l⟩⟩ _ ad c wr (show (1 : Int) ∈ ([1, 2] : List Int) by decide) (fun b h => h.2) hS.capd hdd HF.out.inv.at' hm).mono ?_;rw [show s.step ⟨1, 0, 0, ⟨1, 7, 0, l⟩⟩ = s.doS ⟨1, 7, 0, l⟩ from if_pos rfl];have hM : Zb5 s ⟨1, 7, 0, l⟩ := Zi0 HF.out (by omega) HW.out (show (1 : Int) ≠ 3 by decide);have HME : Hid ((s.doS ⟨1, 7, 0, l⟩).e = 0) := hM.e;have HMA : Hid ((s.doS ⟨1, 7, 0, l⟩).st.At) := hM.inv.at';have HML : Hid (2 ≤ (s.doS ⟨1, 7, 0, l⟩).st.idx.length ∧ (s.doS ⟨1, 7, 0, l⟩).st.idx.length ≤ 2 + k) := by
       have h1 := hM.len;rw [Zv2 (s.doS ⟨1, 7, 0, l⟩).st] at h1;have h2 := HF.out.low;have h3 := HF.out.high;show _ ∧ _;omega
      have hge := Zkq hM (show (1 : Int) ≠ 2 by decide);have HMG : Hid ((X6 (s.doS ⟨1, 7, 0, l⟩).st.recs 7).e = 0 ∧ (X6 (s.doS ⟨1, 7, 0, l⟩).st.recs 7).data = l) := by
       have h7 : X6 (s.doS ⟨1, 7, 0, l⟩).st.recs 7 = ⟨Yw s.recs, 0, l⟩ := hge;show _ ∧ _;rw [h7];exact ⟨rfl, rfl⟩
      rw [HME.out];clear hM hge HME;generalize s.doS ⟨1, 7, 0, l⟩ = B at *;rintro r w5 ⟨v5, rfl, h5, g5⟩;obtain ⟨b5, e5, l5, m5, i5, j5, hv5, -, -, -⟩ := h5.form;subst hv5;have h5' : Zw (fun b => b ≠ G) B.st (.agg #[.slice b5 B.st.dk.blocks.length e5, .slice l5 B.st.dk.late.length m5, .slice i5 B.st.idx.length j5, .int .i64 B.st.next]) w5 := h5.mono (by
       rintro b (h | h)
       ·exact h.1
       ·show b ≠ G; omega)
      have hY5 := (g5.block _ (Za hY)).trans hY;have gw5 := gw.trans g5;clear hY hD hS gw h5 g5 hGr hwr hdd HF HW;obtain ⟨hp1, hp2⟩ := Yc hY5 (.slice b5 B.st.dk.blocks.length e5) (.slice l5 B.st.dk.late.length m5) (.slice i5 B.st.idx.length j5) (.int .i64 B.st.next);have hS6 := (h5'.but hp2 (fun h => h rfl)).any;have gw6 := hp2.grow gw5 (by omega);obtain ⟨y0, y1, y2, y3⟩ := Z4 hY5 rfl rfl rfl rfl;obtain ⟨f0, f1, f2, f3⟩ := Yp hY5;have cs := Zu;clear hp2 hY5 gw5 h5';go_upto_region 12 with fail
      clear y0 y1 y2 y3 f0 f1 f2 f3 cs;generalize World.setCell (World.setCell (World.setCell (World.setCell w5 _ _) _ _) _ _) _ _ = w6 at *;obtain ⟨y0, y1, y2, y3⟩ := Z4 hp1 rfl rfl rfl rfl;go_wp2_with fail;clear y0 y1 y2 y3;refine (SG (fun b => b < w6.heap.size) B.st 7 _ w6 (fun b h => h) hS6.now HMA.out).mono ?_;rw [HMG.out.1, HMG.out.2];rintro r w7 ⟨u7, rfl, hu7, g7⟩;obtain ⟨a7, c7, rfl⟩ := hu7.form;have hY7 := (g7.block _ (Za hp1)).trans hp1;have gE := gw6.trans g7;have ra := Vp _ _ _ hu7.p;have rb := Vp _ _ _ (hd.grow gE).p;have z1 := Ze hY7 2 _ rfl;have hL2 : 2 ≤ (B.st.idx.length : Int) := by have := HML.out; omega
      have hLk : (B.st.idx.length : Int) ≤ 2 + (k : Int) := by have := HML.out; omega
      clear hp1 hS6 gw6 g7 hu7 hY7 HMG HML HMA;go_wp2_with fail;go_ret;exact ⟨rfl, gE⟩
 ·clear hd;go_wp2_with fail;go_ret;exact ⟨rfl, g1⟩
end Go.Proofs.YtpdnapbchcdhladGreatDoor
namespace Go.Proofs.YtpdnapbchcdhladGreatDoor
set_option maxRecDepth 100000
open Plain
variable {d : Dk}
def Y2 : Nat → St → St
 | 0, s => s
 | k + 1, s => (Y2 k s).scrub
def Zc1 (s : St) : Nat → Int → Int
 | 0, _ => 0
 | k + 1, i => Zc1 s k i + (if (Y2 k s).dk.how (Y2 k s).next = i then 1 else 0)
theorem Zpn (s : St) : ∀ (k : Nat) (i : Int), 0 ≤ Zc1 s k i ∧ Zc1 s k i ≤ (k : Int)
 | 0, _ => by simp [Zc1]
 | k + 1, i => by
  have := Zpn s k i;unfold Zc1;split <;> omega
theorem Zui {s : St} (h : s.At) : s.scrub.At := ⟨Zk3 h.ok.disk, by show (0 : Int) ≤ (s.next + 1) % 6; omega, by show (s.next + 1) % 6 < 6; omega⟩
theorem J7 {s : St} (h : s.At) : ∀ k, (Y2 k s).At
 | 0 => h
 | k + 1 => Zui (J7 h k)
theorem Zey {s : St} (h : s.At) : ∀ k : Nat, (Y2 k s).next = (s.next + (k : Int)) % 6
 | 0 => by have := h.low; have := h.high; show s.next = _; omega
 | k + 1 => by
  have := Zey h k;show ((Y2 k s).next + 1) % 6 = _;rw [this]; omega
theorem Zsm (h : d.Fine 0) : d.flush = d := by
 have hl := K0 h;obtain ⟨b, l⟩ := d;simp only at hl;subst hl;rfl
theorem Zqn {r : Rec} (h : Z6 r = 0) (hk : r.kind = 1) : r = Rec.free := by
 obtain ⟨-, -, h3, h4⟩ := (Zai r).1 h;obtain ⟨k, y, n, l⟩ := r;simp only at hk;subst hk;unfold Xa at h3;unfold Xb at h4;simp at h3 h4;obtain ⟨rfl, rfl⟩ := h3;subst h4;rfl
structure Zwy (d e : Dk) (p : Nat) : Prop where
 fine : e.Fine 0
 low : e.how (p : Int) < 2
 tell : ∀ q : Nat, q < 6 → e.tell (q : Int) = d.tell (q : Int)
 other : ∀ q : Nat, q < 6 → q ≠ p → e.how (q : Int) = d.how (q : Int)
 same : d.how (p : Int) < 2 → e = d
theorem Zjs (h : d.Fine 0) {p : Nat} (hp : p < 6) : Zwy d (d.mendD (p : Int)).flush p := by
 have hfi := (h.mend (p : Int)).flush;revert hfi;unfold Dk.mendD;by_cases h2 : 2 ≤ d.how (p : Int)
 ·rw [if_pos h2];have hw := X4 d (p : Int);rw [Zal h hp hw];intro hfi;have hn := Y0 hfi.len hp;obtain ⟨⟨a0, -⟩, b0, -⟩ := K8 h hp hw true true;have key : (d.half p (d.tell (p : Int)) true true).how (p : Int) < 2 ∧ (d.half p (d.tell (p : Int)) true true).tell (p : Int) = d.tell (p : Int) := by
   by_cases hk : (d.tell (p : Int)).kind = 1
   ·obtain ⟨k1, k2⟩ := Zv5 hn (by rw [(a0 rfl).1]; exact hk) (by rw [(b0 rfl).1]; exact hk) (a0 rfl).2 (b0 rfl).2;exact ⟨by omega, by rw [k2, Zqn hw hk]⟩
   ·obtain ⟨k1, k2⟩ := Vu hn (a0 rfl).1 (b0 rfl).1 hk;exact ⟨by omega, k2⟩
  refine ⟨hfi, key.1, fun q hq => ?_, fun q hq hne => (X5 h hp hq hne hw true true).1, fun h3 => by omega⟩;by_cases e : q = p
  ·subst e; exact key.2
  ·exact (X5 h hp hq e hw true true).2
 ·rw [if_neg h2, Zsm h];exact fun _ => ⟨h, by omega, fun _ _ => rfl, fun _ _ _ => rfl, fun _ => rfl⟩
theorem Zvn {s : St} (h : s.At) : ∃ p : Nat, p < 6 ∧ s.next = (p : Int) := ⟨s.next.toNat, by have := h.low; have := h.high; omega, by have := h.low; omega⟩
theorem Zaj {s : St} (h : s.At) : ∃ p : Nat, p < 6 ∧ s.next = (p : Int) ∧ Zwy s.dk s.scrub.dk p := by
 obtain ⟨p, hp, e⟩ := Zvn h;refine ⟨p, hp, e, ?_⟩;have := Zjs h.ok.disk hp;unfold St.scrub;rw [e];exact this
theorem Zex {s : St} (h : s.At) : ∀ (k q : Nat), q < 6 → (Y2 k s).dk.tell (q : Int) = s.dk.tell (q : Int)
 | 0, _, _ => rfl
 | k + 1, q, hq => by
  obtain ⟨p, hp, -, hM⟩ := Zaj (J7 h k);exact (hM.tell q hq).trans (Zex h k q hq)
theorem Zq1 {s : St} (h : s.At) {q : Nat} (hq : q < 6) (hl : s.dk.how (q : Int) < 2) : s.scrub.dk.how (q : Int) < 2 := by
 obtain ⟨p, hp, -, hM⟩ := Zaj h;by_cases e : q = p
 ·subst e; exact hM.low
 ·rw [hM.other q hq e]; exact hl
theorem Zfw {s : St} (h : s.At) (q : Nat) (hq : q < 6) : ∀ k j : Nat, j < k → (s.next + (j : Int)) % 6 = (q : Int) → (Y2 k s).dk.how (q : Int) < 2
 | 0, j, hj, _ => by omega
 | k + 1, j, hj, e => by
  by_cases hjk : j = k
  ·subst hjk;obtain ⟨p, hp, he, hM⟩ := Zaj (J7 h j);rw [Zey h] at he;have : q = p := by omega
   subst this;exact hM.low
  ·exact Zq1 (J7 h k) hq (Zfw h q hq k j (by omega) e)
theorem Zxs {s : St} (h : s.At) (q : Nat) (hq : q < 6) : (Y2 6 s).dk.how (q : Int) < 2 := by
 have h0 := h.low;have h1 := h.high;exact Zfw h q hq 6 (((q : Int) + 6 - s.next) % 6).toNat (by omega) (by omega)
theorem Zk4 (s : St) (k : Nat) : (Y2 (k + 1) s).idx = Yd (Y2 (k + 1) s).dk 6 := rfl
theorem Zuf {s : St} (h : s.At) : (Y2 6 s).idx = Yd s.dk 6 := by
 rw [Zk4 s 5];exact Kz 6 fun q hq => Zex h 6 q hq
variable {R : List Ent} {n : Int}
structure Zfb (s : St) (R : List Ent) (p : Nat) : Prop where
 inv : s.Inv
 idx : s.idx = R
 low : ∀ q : Nat, p ≤ q → q < 6 → s.dk.how (q : Int) < 2
theorem Zkz {d : Dk} (h : d.Fine 0) {p a q : Nat} (hp : p < 6) (ha : a = 2 * p ∨ a = 2 * p + 1) (hq : q < 6) (hne : q ≠ p) (n m : Int) : (d.spoil (a : Int) n m).how (q : Int) = d.how (q : Int) := by
 have hf := h.spoil (a : Int) n m;have h0 := Zcm h a (by omega) n m (2 * q) (by omega);have h1 := Zcm h a (by omega) n m (2 * q + 1) (by omega);rw [if_neg (by omega)] at h0 h1;exact (Zbz (hf.len.trans h.len.symm) (by simpa using h0) (by simpa using h1)).1
theorem Zum {s : St} {m : Int} (h0 : 0 ≤ n) (h1 : n < 192) (d : Dd) : s.step ⟨3, n, m, d⟩ = ⟨⟨s.dk.spoil (n / 16) (n % 16) m, s.idx, s.next⟩, 0, 0⟩ := by
 unfold St.step;rw [if_neg (by simp), if_neg (by simp), if_pos rfl, if_neg (by simp; omega)]
theorem Zq7 {s : St} {p : Nat} (h : Zfb s R p) (hp : p < 6) (h0 : 0 ≤ n) (h1 : n < 32) (m : Int) (d : Dd) : Zfb (s.step ⟨3, 32 * (p : Int) + n, m, d⟩).st R (p + 1) := by
 have hl := h.low p (Nat.le_refl _) hp;have hg : Xe s ⟨3, 32 * (p : Int) + n, m, d⟩ = true := by
  unfold Xe;split
  ·rfl
  ·simp only [decide_eq_true_eq];rw [show (32 * (p : Int) + n) / 32 = (p : Int) by omega];exact hl
 have hi := Za7 h.inv hg;rw [Zum (by omega) (by omega)] at hi ⊢;obtain ⟨a, ha, ea⟩ : ∃ a : Nat, (a = 2 * p ∨ a = 2 * p + 1) ∧ (32 * (p : Int) + n) / 16 = (a : Int) := by
  by_cases h16 : n < 16
  ·exact ⟨2 * p, .inl rfl, by omega⟩
  ·exact ⟨2 * p + 1, .inr rfl, by omega⟩
 refine ⟨hi, h.idx, fun q hq hq6 => ?_⟩;show (s.dk.spoil ((32 * (p : Int) + n) / 16) _ _).how (q : Int) < 2;rw [ea, Zkz h.inv.good.fine hp ha hq6 (by omega)];exact h.low q (by omega) hq6
theorem Zq8 {s : St} (h : Zfb s R 6) (x : Sp) (hx : x.kind = 6) : (s.step x).st.Inv ∧ (s.step x).st.idx = R := by
 have hs : (s.step x).st = Xs s.dk := by
  unfold St.step;rw [if_neg (by omega), if_neg (by omega), if_neg (by omega), if_neg (by omega), if_neg (by omega), if_pos hx]
 rw [hs];exact ⟨h.inv.good.mount, by rw [h.inv.good.mounted, ← h.idx, h.inv.idx]⟩
theorem Zq2 {s : St} (h : s.Inv) : s.scrub.Inv := by
 have hg : Xe s ⟨4, 0, 0, ⟨0, 0, 0, []⟩⟩ = true := by unfold Xe; rw [if_pos (.inl (show (4 : Int) ≠ 3 by decide))]
 have hs : (s.step ⟨4, 0, 0, ⟨0, 0, 0, []⟩⟩).st = s.scrub := rfl;rw [← hs];exact Za7 h hg
theorem Zfx {s : St} (h : s.Inv) : ∀ k, (Y2 k s).Inv
 | 0 => h
 | k + 1 => Zq2 (Zfx h k)
theorem Zxw {s : St} (h : s.Inv) (hR : s.idx = R) : Zfb (Y2 6 s) R 0 :=
 ⟨Zfx h 6, by rw [Zuf h.at', ← h.idx, hR], fun q _ hq => Zxs h.at' q hq⟩
end Go.Proofs.YtpdnapbchcdhladGreatDoor
namespace Go.Proofs.YtpdnapbchcdhladGreatDoor
set_option maxRecDepth 100000
open Go.RowKit
open Plain Reg
def Zwt : Prop := ∀ (S : Nat → Prop) (s : St) (v : Value) (w : World), (∀ b, S b → b < w.heap.size) → Zw S s v w → s.At →
 Calls Tryz.prog 11 #[v] w fun r w' => ∃ v', r = .returned (.tuple #[v', .agg (Zef (Zc1 s 6))]) ∧ Zw (Z7 S w.heap.size) (Y2 6 s) v' w' ∧ Zj w w'
end Go.Proofs.YtpdnapbchcdhladGreatDoor
