import Derived.Test.YtljogbielflgdacFskC
import Derived.ChangeKeysEq
set_option maxHeartbeats 8000000
namespace Go.Proofs.Ytljogbielflgdac
set_option maxRecDepth 100000
open Go.RowKit
open Plain Reg
theorem Zgf (AL : Zew) (CC : Zac) (d : Dk) (vb vl : Value) (w : World) (hb : Yv w vb d.blocks) (hl : Qc w vl d.late) :
  Calls Try.prog 6 #[.agg #[vb, vl]] w fun e w' => e = .returned (.bool true) ∧ Zt w w' := by
 obtain ⟨ab, cb, rfl⟩ := hb.form;obtain ⟨al, cl, rfl⟩ := hl.form;have hd0 : Xn d (.agg #[.slice ab d.blocks.length cb, .slice al d.late.length cl]) w := ⟨_, _, rfl, hb, hl⟩;have gw := Zd w (.cells #[.slice ab d.blocks.length cb, .slice al d.late.length cl] 27);have hD := Zq w #[.slice ab d.blocks.length cb, .slice al d.late.length cl] 27;have hd := Z4 _ _ _ _ gw hd0;clear hb hl hd0;go_enter Try.func6, Try.ntmps6;go_wp2_with fail;refine (AL _).mono ?_;rintro r w1 ⟨rfl, gN⟩;replace hD := (gN.block _ (Za hD)).trans hD;replace gw := gw.trans gN;replace hd := Z4 _ _ _ _ gN hd;clear gN;obtain ⟨x0, x1⟩ := Yl hD rfl rfl;go_wp2_with fail;refine (Zbn d _ _ hd).mono ?_;cases hrd : d.right with
 | false =>
  rintro r w2 ⟨rfl, g2⟩;have gE := gw.trans g2;go_wp2_with fail;go_ret;exact ⟨rfl, gE⟩
 | true =>
  have HF : Hid (d.Fine 40) := Dk.right_fine hrd;clear hrd;rintro r w2 ⟨rfl, gN⟩;replace hD := (gN.block _ (Za hD)).trans hD;replace gw := gw.trans gN;replace hd := Z4 _ _ _ _ gN hd;clear gN x0 x1;obtain ⟨x0, x1⟩ := Yl hD rfl rfl;go_wp2_with fail;refine (CC d _ _ hd HF.out).mono ?_;obtain ⟨X, hXe⟩ : ∃ X, X = d.clean := ⟨_, rfl⟩;obtain ⟨f, hfe⟩ : ∃ f, f = cnt (d.keep 0) 6 := ⟨_, rfl⟩;obtain ⟨tw, htw⟩ : ∃ tw, tw = Z0 (d.keep 0) 6 := ⟨_, rfl⟩;rw [← hXe, ← hfe, ← htw];have HX : Hid _ := hXe;have Hf : Hid _ := hfe;have HT : Hid _ := htw;have htl : tw.length ≤ 6 := by rw [htw]; exact X8 _ _
  clear hXe hfe htw;rintro r w3 ⟨v3, vt, rfl, hX, hT, gN⟩;obtain ⟨bx, kx, lx, mx, hv3, -, -⟩ := hX.form;subst hv3;obtain ⟨at3, ct3, rfl⟩ := Zy.form hT;have g4 := Zv w3 (.cells #[.slice bx X.blocks.length kx, .slice lx X.late.length mx] 27) (.cells (Xs f) 37);have hP := ((Zd (w3.alloc (.cells #[.slice bx X.blocks.length kx, .slice lx X.late.length mx] 27)) (.cells (Xs f) 37)).block _ (Za (Zq w3 #[.slice bx X.blocks.length kx, .slice lx X.late.length mx] 27))).trans (Zq w3 #[.slice bx X.blocks.length kx, .slice lx X.late.length mx] 27);have hQ := Zq (w3.alloc (.cells #[.slice bx X.blocks.length kx, .slice lx X.late.length mx] 27)) (Xs f) 37;rw [World.size_alloc] at hQ;replace hX := Z4 _ _ _ _ g4 hX;replace hT := Zy.grow hT g4;replace gN := gN.trans g4;replace hD := (gN.block _ (Za hD)).trans hD;replace gw := gw.trans gN;replace hd := Z4 _ _ _ _ gN hd;clear gN g4 x0 x1;have HFX : Hid (X.Fine 0) := by rw [HX.out]; exact Vo HF.out
  have HL6 : Hid (X.blocks.length / 2 = 6) := by show _ = _; rw [HFX.out.len]
  clear hT hQ htl Hf HT;obtain ⟨x0, x1⟩ := Yl hP rfl rfl;go_wp2_with fail;obtain ⟨G, hG⟩ : ∃ G, G = w3.heap.size := ⟨_, rfl⟩;rw [← hG] at hP ⊢;clear hG;generalize World.alloc (World.alloc w3 _) _ = W4 at *;obtain ⟨ub, ul, hu1, hu2, hu3⟩ := hX.s;cases hu1;refine (Zaj (fun b => b < W4.heap.size) X _ _ W4 hu2 hu3 (by rw [HFX.out.len]; omega) (by have := HFX.out.few; omega)).mono ?_;rw [HL6.out];have HLE : Hid ((Yz X 6).length = Va (d.keep 0) 6) := by show _ = _; rw [HX.out]; exact Zfm HF.out 6 (Nat.le_refl _)
  have HIN : Hid (∀ p : Nat, p < 6 → ((d.keep 0).tell (p : Int)).kind ≠ 1 → Yo (d.keep 0) p p = false → (Yz X 6).any (inK (p : Int) ((d.keep 0).tell (p : Int))) = true) := by rw [HX.out]; exact fun p hp hk ha => Zny HF.out hp hk ha
  have hL6 : (Yz X 6).length ≤ 6 := Kz X 6;generalize Yz X 6 = L at *;rintro r w5 ⟨v5, rfl, hL, gN⟩;obtain ⟨a5, c5, rfl⟩ := Zy.form hL;replace hD := (gN.block _ (Za hD)).trans hD;replace gw := gw.trans gN;replace hd := Z4 _ _ _ _ gN hd;have HGW : Hid (w.heap.size ≤ w5.heap.size) := gw.size;replace hL : Qm (fun b => b < w5.heap.size) w5 _ L := Zy.mono (Zy.caps hL (by decide)) fun b h => h.2
  have hdS := hd.s;clear gN x0 x1 hu2 hu3 hX hP HFX HL6 HX;have hmm := @run_makeMap Try.prog;have gM := Zd w5 (.map #[] 0);have hM0 := Jc.made w5;have gN := gM;replace hD := (gN.block _ (Za hD)).trans hD;replace gw := gw.trans gN;replace hd := Z4 _ _ _ _ gN hd;replace hL := Zy.grow hL gN;replace hdS := hdS.grow gN;obtain ⟨x0, x1⟩ := Yl hD rfl rfl;go_wp2_with fail;clear hmm gM gN;have HWS : Hid ((w5.alloc (.map #[] 0)).heap.size = w5.heap.size + 1) := World.size_alloc _ _;obtain ⟨gm, hgm⟩ : ∃ gm, gm = w5.heap.size := ⟨_, rfl⟩;rw [← hgm] at hM0 hL hdS HWS HGW ⊢;clear hgm;generalize World.alloc w5 _ = W5 at *;refine (Zks (fun b => b < gm) 40 d 0 _ W5 (fun b h => by have := HWS.out; omega) hdS HF.out (by omega)).mono ?_;rw [HWS.out];have HFK : Hid ((d.keep 0).Fine 0) := HF.out.kept 0;generalize d.keep 0 = K at *;rintro r w6 ⟨v6, rfl, hK, gN⟩;replace hK := hK.mono (S' := fun b => b ≠ gm) fun b h => h.elim (fun x => by omega) (fun x => by omega)
  obtain ⟨bK, eK, lK, mK, hv6, -, -⟩ := hK.form;subst hv6;have g7 := Zd w6 (.cells #[.slice bK K.blocks.length eK, .slice lK K.late.length mK] 27);have hKb := Zq w6 #[.slice bK K.blocks.length eK, .slice lK K.late.length mK] 27;have HGM : Hid (gm < w6.heap.size) := Nat.lt_of_lt_of_le hM0.lt gN.size;replace gN := gN.trans g7;replace hK := hK.grow g7;have hM := hM0.grow gN;replace hL : Qm (fun b => b ≠ gm) _ _ L := Zy.mono (Zy.grow hL gN) fun b h => by omega
  replace gw := gw.trans gN;clear gN g7 hM0 hdS hd hD x0 x1;go_wp2_with fail;obtain ⟨gK, hgK⟩ : ∃ gK, gK = w6.heap.size := ⟨_, rfl⟩;rw [← hgK] at hKb HGM ⊢;clear hgK;generalize World.alloc w6 _ = W7 at *;have hsm := HFK.out.small (by omega);have HWG : Hid (w.heap.size ≤ gm) := HGW.out;go_loopw [8, 32] (fun n i wr => ∃ k : Nat, k ≤ 6 ∧ i = .int .i64 (k : Int) ∧ n = .int .i64 (Va K k : Int) ∧ Jc wr gm k (Qi K k) ∧ Zt w wr ∧ wr.heap[gK]? = some (.cells #[.slice bK K.blocks.length eK, .slice lK K.late.length mK] 27 (0, 0)) ∧ Yi (fun b => b ≠ gm) K (.agg #[.slice bK K.blocks.length eK, .slice lK K.late.length mK]) wr ∧ Qm (fun b => b ≠ gm) wr (.slice a5 L.length c5) L) (fun _ i _ => 6 - (intOf i).toNat)
  case atStart => exact ⟨0, by omega, rfl, rfl, hM.on (fun _ => rfl) (by omega), gw, hKb, hK, hL⟩
  case round =>
   clear hM gw hKb hK hL;obtain ⟨k, hk, rfl, rfl, hM, gw, hKb, hK, hL⟩ := hrel;by_cases hlt : k < 6
   ·obtain ⟨x0, x1⟩ := Yl hKb rfl rfl;go_wp2_with fail;refine (Zal K (k : Int) _ _ hK.p hsm.1 hsm.2).mono ?_;have HFR : Hid ((K.tell (k : Int)).kind = 1 → ∀ x, Qi K k x = Qi K (k + 1) x) := fun h => Zh2 K k h
    have HOL : Hid (Yo K k k = true → ∀ x, Qi K k x = Qi K (k + 1) x) := fun h => Zpa K k h
    have HNW : Hid ((K.tell (k : Int)).kind ≠ 1 → ∀ x, (decide (x = (K.tell (k : Int)).ver) || Qi K k x) = Qi K (k + 1) x) := fun h => Zky K k h
    have HFN : Hid (Va K (k + 1) = Va K k + (if (K.tell (k : Int)).kind ≠ 1 ∧ Yo K k k = false then 1 else 0)) := rfl;have HAG : Hid (Qi K k (K.tell (k : Int)).ver = Yo K k k) := Zaq K k k;have HIK : Hid _ := HIN.out k hlt;have HVR : Hid _ := Zgw K (k : Int);have hfl := Zfk K k;generalize Yo K k k = ag at *;generalize K.tell (k : Int) = r at *;generalize K.how (k : Int) = how at *;rintro q w8 ⟨dv, rfl, ho, g8⟩;obtain ⟨a8, c8, rfl⟩ := Z6 ho;have g9 := Zd w8 (.cells #[.int .i64 r.kind, .int .i64 r.key, .int .i64 r.ver, .slice a8 r.data.length c8] 54);have hR9 := Zq w8 #[.int .i64 r.kind, .int .i64 r.key, .int .i64 r.ver, .slice a8 r.data.length c8] 54;have g89 := g8.trans g9;replace hKb := (g89.block _ (Za hKb)).trans hKb;replace hK := hK.grow g89;replace hL := Zy.grow hL g89;replace ho := Ya ho g9;have HML : Hid (gm < wr.heap.size) := hM.lt;have HR8 : Hid (gm < w8.heap.size) := Nat.lt_of_lt_of_le hM.lt g8.size;replace hM := hM.grow g89;replace gw := gw.trans g89;have r0 := Zf hR9 0 _ rfl;have r2 := Zf hR9 2 _ rfl;clear x0 x1 g8 g9 g89 HIN;by_cases hk1 : r.kind = 1
    ·have d1 : (r.kind == 1) = true := by simp [hk1]
     have HN2 : Hid (Va K (k + 1) = Va K k) := by show _ = _; rw [HFN.out, if_neg (fun h => h.1 hk1)]; rfl
     have hM2 := hM.on (HFR.out hk1) (Nat.le_succ k);clear hk1 HFR HOL HNW HFN HIK hM;go_wp2_with fail;go_roundw
     case rel => exact ⟨k + 1, by omega, by go_num, by rw [HN2.out], hM2, gw, hKb, hK, hL⟩
     case measure => simp [intOf]; omega
    ·have d1 : (r.kind == 1) = false := by simp [hk1]
     have hask := hM.ask r.ver (Zc9 HVR.out.1 HVR.out.2);rw [HAG.out] at hask;cases ag with
     | true =>
      have HN2 : Hid (Va K (k + 1) = Va K k) := by show _ = _; rw [HFN.out, if_neg (fun h => by cases h.2)]; rfl
      have hM2 := hM.on (HOL.out rfl) (Nat.le_succ k);clear hk1 HFR HOL HNW HFN HIK hM HAG;go_wp2_with fail;go_roundw
      case rel => exact ⟨k + 1, by omega, by go_num, by rw [HN2.out], hM2, gw, hKb, hK, hL⟩
      case measure => simp [intOf]; omega
     | false =>
      have HN2 : Hid (Va K (k + 1) = Va K k + 1) := by show _ = _; rw [HFN.out, if_pos ⟨hk1, rfl⟩]
      have HM2 : Hid (L.any (inK (k : Int) r) = true) := HIK.out hk1 rfl;obtain ⟨wp, hrun, hMp, hbp⟩ := hM.put r.ver (Zc9 HVR.out.1 HVR.out.2) (by omega);replace hMp := hMp.on (HNW.out hk1) (Nat.le_refl _);have hKp := (hbp.block _ (Za hKb) (by have := HGM.out; omega)).trans hKb;have hKq := hK.but hbp (fun h => h rfl);have hLp := Zy.but hL hbp (fun h => h rfl);have hRp := (hbp.block _ (Za hR9) (by have := HR8.out; omega)).trans hR9;have hdv := Xy (V5 hbp HML.out ho);have gwp := hbp.grow gw HWG.out;clear hk1 HFR HOL HNW HFN HIK HAG hM hKb hK hL hR9 ho gw hbp HVR;go_wp2_with fail;clear hrun hask r0 r2 d1;obtain ⟨gr, hgr⟩ : ∃ gr, gr = w8.heap.size := ⟨_, rfl⟩;rw [← hgr] at hRp HR8 ⊢;clear hgr;obtain ⟨wo, rfl⟩ : ∃ wo : World, wo = wr := ⟨_, rfl⟩;go_loopw [13, 57] (fun b i wr => ∃ (j : Nat) (B : Bool), j ≤ L.length ∧ i = .int .i64 j ∧ b = .bool B ∧ Hid (B = (L.take j).any (inK (k : Int) r)) ∧ Zt wp wr) (fun _ i _ => L.length - (intOf i).toNat)
      case atStart => exact ⟨0, false, by omega, rfl, rfl, (by show false = _; simp), Zt.refl _⟩
      case round =>
       obtain ⟨j, B, hj, rfl, rfl, HB, gj⟩ := hrel;by_cases hjl : j < L.length
       ·obtain ⟨b1, o1, a1, c1, hv1, q0, q1, q2, q3, q4, hu⟩ := Zas (Zy.grow hLp gj) j hjl;cases hv1;have HBN : Hid ((L.take (j + 1)).any (inK (k : Int) r) = (B || inK (k : Int) r L[j])) := by show _ = _; rw [Znw _ _ _ _ hjl, HB.out]
        generalize L[j] = x at *;have g7 := Zd wr (.cells #[.int .i64 x.rc.kind, .int .i64 x.rc.key, .int .i64 x.rc.ver, .slice a1 x.rc.data.length c1, .int .i64 x.pair] 60);have hX7 := Zq wr #[.int .i64 x.rc.kind, .int .i64 x.rc.key, .int .i64 x.rc.ver, .slice a1 x.rc.data.length c1, .int .i64 x.pair] 60;have hR7 := ((gj.trans g7).block _ (Za hRp)).trans hRp;have gj7 := gj.trans g7;have hu7 := Zw hu.p g7;have hd7 := Zw hdv gj7;obtain ⟨x0, x1, x2, x3, x4⟩ := Ka hX7 rfl rfl rfl rfl rfl;obtain ⟨y0, y1, y2, y3⟩ := Qd hR7 rfl rfl rfl rfl;clear hX7 hR7 g7 gj hu HB;cases B with
        | true =>
         have HB2 : Hid (true = (L.take (j + 1)).any (inK (k : Int) r)) := by show _ = _; rw [HBN.out]; rfl
         clear HBN;go_wp2_with fail;go_roundw
         case rel => exact ⟨j + 1, true, by omega, by go_num, rfl, HB2, gj7⟩
         case measure => simp [intOf]; omega
        | false =>
         by_cases hp : x.pair = (k : Int)
         ·have d2 : (x.pair == (k : Int)) = true := by simp [hp]
          have HB2 : Hid ((L.take (j + 1)).any (inK (k : Int) r) = Xt x.rc r) := by show _ = _; rw [HBN.out]; simp [inK, hp]
          clear HBN hp;go_wp2_with fail;refine (Zak _ _ _ _ _ _ x.rc.data r.data _ _ _ hu7 hd7).mono ?_;cases hsb : Xt x.rc r with
          | true =>
           have HB3 : Hid (true = (L.take (j + 1)).any (inK (k : Int) r)) := by show _ = _; rw [HB2.out, hsb]
           clear hsb HB2;rintro q w8 ⟨rfl, g8⟩;have gj8 := gj7.trans g8;clear gj7 g8 hu7 hd7 x0 x1 x2 x3 x4 y0 y1 y2 y3;go_wp2_with fail;go_roundw
           case rel => exact ⟨j + 1, true, by omega, by go_num, rfl, HB3, gj8⟩
           case measure => simp [intOf]; omega
          | false =>
           have HB3 : Hid (false = (L.take (j + 1)).any (inK (k : Int) r)) := by show _ = _; rw [HB2.out, hsb]
           clear hsb HB2;rintro q w8 ⟨rfl, g8⟩;have gj8 := gj7.trans g8;clear gj7 g8 hu7 hd7 x0 x1 x2 x3 x4 y0 y1 y2 y3;go_wp2_with fail;go_roundw
           case rel => exact ⟨j + 1, false, by omega, by go_num, rfl, HB3, gj8⟩
           case measure => simp [intOf]; omega
         ·have d2 : (x.pair == (k : Int)) = false := by simp [hp]
          have HB2 : Hid (false = (L.take (j + 1)).any (inK (k : Int) r)) := by show _ = _; rw [HBN.out]; simp [inK, hp]
          clear HBN hp;go_wp2_with fail;go_roundw
          case rel => exact ⟨j + 1, false, by omega, by go_num, rfl, HB2, gj7⟩
          case measure => simp [intOf]; omega
       ·have hBt : B = true := by
         rw [HB.out, show j = L.length from by omega, List.take_length]; exact HM2.out
        subst hBt;have hM8 := hMp.grow gj;have hK8 := (gj.block _ (Za hKp)).trans hKp;have hD8 := hKq.grow gj;have hL8 := Zy.grow hLp gj;have gw8 := gwp.trans gj;clear HB hMp hKp hKq hLp gwp gj;go_wp2_with fail;go_roundw
        case rel => exact ⟨k + 1, by omega, by go_num, by rw [HN2.out]; go_num, hM8, gw8, hK8, hD8, hL8⟩
        case measure => simp [intOf]; omega
   ·have hk6 : k = 6 := by omega
    subst hk6;rw [← HLE.out];go_wp2_with fail;go_ret;refine ⟨?_, gw⟩;simp
theorem Zqd (a b c d e f : Int) (w : World) : (Op.equalIn 9999 35 (.agg #[.int .i64 a, .int .i64 b, .int .i64 c, .int .i64 d, .int .i64 e, .int .i64 f]) (.agg #[.int .i64 a, .int .i64 b, .int .i64 c, .int .i64 d, .int .i64 e, .int .i64 f])).run Try.prog w = .ok true w := by
 obtain ⟨i0, hif, hz0, hz1, hz2⟩ := info_parts Zce;have hc : Try.prog.cellsOf 3 = 1 := by kernel_rfl
 rw [show (9999 : Nat) = 9998 + 1 from rfl, run_equalIn_array w 9998 _ _ Try.underlying35 hif, hc, show List.range 6 = [0, 1, 2, 3, 4, 5] from rfl];go_simp;simp only [Op.eqItems];go_simp
end Go.Proofs.Ytljogbielflgdac
