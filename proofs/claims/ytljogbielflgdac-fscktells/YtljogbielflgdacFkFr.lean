import Derived.Test.YtljogbielflgdacFkP
import Derived.Test.YtljogbielflgdacPairP
set_option maxHeartbeats 8000000
namespace Go.Proofs.Ytljogbielflgdac
set_option maxRecDepth 100000
open Go.RowKit
open Plain Reg
theorem Zf1 (S S' : Nat → Prop) (d : Dk) (tw : List Int) (v vt : Value) (w : World) (hS : ∀ b, S b → b < w.heap.size) (hS' : ∀ b, S' b → b < w.heap.size) (hd : Yi S d v w) (ht : Zy Yp S' w vt tw) (hF : d.Fine 800) (hn : tw.length ≤ 40) :
  Calls Try.prog 36 #[v, vt] w fun r w' => ∃ v', r = .returned v' ∧ Yi (Yf S w.heap.size) (Qo d tw tw.length) v' w' ∧ Zt w w' := by
 obtain ⟨ab, cb, al, cl, rfl, hb, hl⟩ := hd.form;obtain ⟨at3, ct3, rfl⟩ := ht.form;have g0 := Zv w (.cells #[.slice ab d.blocks.length cb, .slice al d.late.length cl] 27) (.cells #[.slice none 0 0, .slice none 0 0] 27);have hs0 := Zq w #[.slice ab d.blocks.length cb, .slice al d.late.length cl] 27;have hz0 := Zq (w.alloc (.cells #[.slice ab d.blocks.length cb, .slice al d.late.length cl] 27)) #[.slice none 0 0, .slice none 0 0] 27;have hs1 := ((Zd (w.alloc (.cells #[.slice ab d.blocks.length cb, .slice al d.late.length cl] 27)) (.cells #[.slice none 0 0, .slice none 0 0] 27)).block _ (Za hs0)).trans hs0;rw [World.size_alloc] at hz0;have hT0 : Yi (Yf S (w.heap.size + 2)) d _ _ := (hd.grow g0).mono fun b h => .inl h
 have hL0 := Zy.grow ht g0;have HFK : Hid (d.Fine 800) := hF;have HD0 : Hid (d = Qo d tw 0) := rfl;obtain ⟨U, hU⟩ : ∃ U, U = Qo d tw tw.length := ⟨_, rfl⟩;rw [← hU];have HU : Hid _ := hU;clear hs0 hd hF hb hl ht hU;go_enter Try.func36, Try.ntmps36;go_wp2_with fail;generalize World.alloc (World.alloc w _) _ = W at *;go_loopw [9] (fun i wr => ∃ (k : Nat) (D : Dk), k ≤ tw.length ∧ i = .int .i64 (k : Int) ∧ Hid (D = Qo d tw k) ∧ Zt w wr ∧ (∃ b5 e5 l5 m5, wr.heap[w.heap.size]? = some (.cells #[.slice b5 D.blocks.length e5, .slice l5 D.late.length m5] 27 (0, 0)) ∧ Yi (Yf S (w.heap.size + 2)) D (.agg #[.slice b5 D.blocks.length e5, .slice l5 D.late.length m5]) wr) ∧ wr.heap[w.heap.size + 1]? = some (.cells #[.slice none 0 0, .slice none 0 0] 27 (0, 0)) ∧ Zy Yp S' wr (.slice at3 tw.length ct3) tw) (fun i _ => tw.length - (intOf i).toNat)
 case atStart => exact ⟨0, d, by omega, rfl, HD0, g0, ⟨_, _, _, _, hs1, hT0⟩, hz0, hL0⟩
 case round =>
  clear g0 hs1 hT0 hz0 hL0 HD0;obtain ⟨k, D, hk, rfl, HD, gw, ⟨b5, e5, l5, m5, hs1, hT1⟩, hz1, hL1⟩ := hrel;by_cases hlt : k < tw.length
  ·have HFD : Hid (D.Fine 900) := by rw [HD.out]; exact (Vu HFK.out tw k).mono (by omega)
   have HMT : Hid (Qo d tw (k + 1) = D.pairD tw[k] Rec.free) := by show _ = _; rw [HD.out]; show (Qo d tw k).pairD (tw.getD k 0) Rec.free = _; rw [Vf _ _ _ hlt]
   obtain ⟨z0, z1⟩ := Yl hs1 rfl rfl;obtain ⟨b, off, hv1, hSb, cs1, hcs1, hc1⟩ := Zy.at hL1 k hlt;cases hv1;have hcs2 : cs1 = [.int .i64 tw[k]] := hcs1;subst hcs2;have t0 : wr.cell? ⟨b, off + k, none⟩ = some (.int .i64 tw[k]) := by
    have := hc1 0 _ rfl;simpa [Yp] using this
   generalize tw[k] = x at *;clear HD hc1 hcs1;go_wp2_with fail;have hTC : Yi (fun b => Yf S (w.heap.size + 2) b ∧ b < wr.heap.size) D (.agg #[.slice b5 D.blocks.length e5, .slice l5 D.late.length m5]) wr := by
    obtain ⟨vb, vl, k1, k2, k3⟩ := hT1;exact ⟨vb, vl, k1, k2.capd, k3.capd⟩
   refine (Zqo _ D x 1 0 0 [] _ _ wr (fun b h => h.2) HFD.out hTC (.inl ⟨none, 0, rfl, rfl, fun _ => rfl⟩)).mono ?_;obtain ⟨T, hTD⟩ : ∃ T, T = D.pairD x Rec.free := ⟨_, rfl⟩;have HT : Hid (T = Qo d tw (k + 1)) := by show _ = _; rw [HMT.out, hTD]
   have hTD2 : D.pairD x ⟨1, 0, 0, []⟩ = T := hTD.symm;rw [hTD2];rintro r w1 ⟨v1, rfl, h1, g1⟩;generalize D.pairE x _ = E at *;obtain ⟨b7, e7, l7, m7, hv1, -, -⟩ := h1.form;subst hv1;have hsA := (g1.block _ (Za hs1)).trans hs1;have hzA := (g1.block _ (Za hz1)).trans hz1;have hLA := Zy.grow hL1 g1;have HWR : Hid (w.heap.size + 2 ≤ wr.heap.size) := Za hz1;have hTA : Yi (Yf S (w.heap.size + 2)) T _ _ := h1.mono fun b h => h.elim (fun x => x.1) (fun x => .inr (Nat.le_trans HWR.out x))
   have gwA := gw.trans g1;clear z0 z1 t0 hs1 hT1 hTC hz1 hL1 h1 g1 gw hTD hTD2 HMT HFD;obtain ⟨hs4, hb4⟩ := Ql hsA (.slice b7 T.blocks.length e7) (.slice l7 T.late.length m7);have hz4 := (hb4.block _ (Za hzA) (by omega)).trans hzA;have hT4 := hTA.but hb4 (Xf hS (by omega));have hL4 := Zy.but hLA hb4 (fun h => by have := hS' _ h; omega);have gw4 := hb4.grow gwA (by omega);obtain ⟨v0, v1⟩ := Yl hsA rfl rfl;have u0 := Zk hsA 0;have u1 := Zk hsA 1;have cs := Zz;clear hsA hzA hTA hLA gwA hb4;go_wp2_with fail;go_roundw
   case rel => exact ⟨k + 1, T, by omega, by go_num, HT, gw4, ⟨_, _, _, _, hs4, hT4⟩, hz4, hL4⟩
   case measure => simp [intOf]; omega
  ·obtain rfl : k = tw.length := by omega
   clear hlt hk hL1;have hDU : D = U := by rw [HD.out, HU.out]
   clear HU;subst hDU;clear HD;obtain ⟨z0, z1⟩ := Yl hs1 rfl rfl;obtain ⟨hs4, hb4⟩ := Ql hz1 (.slice b5 D.blocks.length e5) (.slice l5 D.late.length m5);have hT4 := (hT1.but hb4 (Xf (fun b h => by have := hS b h; omega) (by omega))).mono (Xk (B := w.heap.size) (by omega));have gw4 := hb4.grow gw (by omega);obtain ⟨v0, v1⟩ := Yl hz1 rfl rfl;have u0 := Zk hz1 0;have u1 := Zk hz1 1;obtain ⟨y0, y1⟩ := Yl hs4 rfl rfl;have cs := Zz;clear hs1 hz1 hT1 gw hb4 hs4;go_wp2_with fail;exact bodyPost_ret (v := .agg #[.slice b5 D.blocks.length e5, .slice l5 D.late.length m5]) (by simp [results, Try.results36, go_sem, y0, y1]) rfl ⟨_, rfl, hT4, gw4⟩
end Go.Proofs.Ytljogbielflgdac
