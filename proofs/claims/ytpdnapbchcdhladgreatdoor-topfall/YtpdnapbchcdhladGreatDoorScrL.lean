import Derived.Test.YtpdnapbchcdhladGreatDoorPyIn
import Derived.ProofKit
import Derived.OpenShut
import Derived.SizedLaws
import Derived.Lib.SmallJoins
import Derived.Deep.SlicePairs
import Derived.Test.YtpdnapbchcdhladGreatDoorRows
import Derived.Deep.DeepHandedRow
import Derived.Deep.DeepWitnessRowRef
import Derived.Lib.LaidTab
import Derived.Stop.LaidErr
set_option maxHeartbeats 8000000
namespace Go.Proofs.YtpdnapbchcdhladGreatDoor
set_option maxRecDepth 100000
open Go.RowKit
open Plain Reg
theorem Zoc (S : Nat → Prop) (s : St) (v : Value) (w : World) (hS : ∀ b, S b → b < w.heap.size) (hs : Zw S s v w) (hA : s.At) :
  Calls Tryz.prog 11 #[v] w fun r w' => ∃ v', r = .returned (.tuple #[v', .agg (Zef (Zc1 s 6))]) ∧ Zw (Z7 S w.heap.size) (Y2 6 s) v' w' ∧ Zj w w' := by
 obtain ⟨ab, cb, al, cl, ai, ci, rfl, -, -, -⟩ := hs.form;have g0 := (Zx w (.cells #[.slice ab s.dk.blocks.length cb, .slice al s.dk.late.length cl, .slice ai s.idx.length ci, .int .i64 s.next] 30) Yy).trans (Zx _ Zb9 Zb9);have hs0 := Zk w #[.slice ab s.dk.blocks.length cb, .slice al s.dk.late.length cl, .slice ai s.idx.length ci, .int .i64 s.next] 30;have hz0 := Zk (w.alloc (.cells #[.slice ab s.dk.blocks.length cb, .slice al s.dk.late.length cl, .slice ai s.idx.length ci, .int .i64 s.next] 30)) #[.slice none 0 0, .slice none 0 0, .slice none 0 0, .int .i64 0] 30;have hq0 := Zk ((w.alloc (.cells #[.slice ab s.dk.blocks.length cb, .slice al s.dk.late.length cl, .slice ai s.idx.length ci, .int .i64 s.next] 30)).alloc Yy) #[.int .i64 0, .int .i64 0, .int .i64 0, .int .i64 0, .int .i64 0, .int .i64 0] 45;have hr0 := Zk (((w.alloc (.cells #[.slice ab s.dk.blocks.length cb, .slice al s.dk.late.length cl, .slice ai s.idx.length ci, .int .i64 s.next] 30)).alloc Yy).alloc Zb9) #[.int .i64 0, .int .i64 0, .int .i64 0, .int .i64 0, .int .i64 0, .int .i64 0] 45;have hs1 := (((Zd _ Yy).trans (Zx _ Zb9 Zb9)).block _ (Za hs0)).trans hs0;have hz1 := ((Zx _ Zb9 Zb9).block _ (Za hz0)).trans hz0;have hq1 := ((Zd _ Zb9).block _ (Za hq0)).trans hq0;rw [World.size_alloc] at hz1;rw [World.size_alloc, World.size_alloc] at hq1;rw [World.size_alloc, World.size_alloc, World.size_alloc] at hr0;have hT0 : Zw (Z7 S (w.heap.size + 4)) s _ _ := (hs.grow g0).mono fun b h => .inl h
 have HAT : Hid (s.At) := hA;obtain ⟨U, hU⟩ : ∃ U, U = Y2 6 s := ⟨_, rfl⟩;obtain ⟨f, hf⟩ : ∃ f, f = Zc1 s 6 := ⟨_, rfl⟩;rw [← hU, ← hf];have HU : Hid _ := hU;have Hf : Hid _ := hf;clear hs0 hz0 hq0 hs hA hU hf;go_enter Tryz.func11, Tryz.ntmps11;go_wp2_with fail;generalize World.alloc (World.alloc (World.alloc (World.alloc w _) _) _) _ = W at *;go_loopw [7] (fun i wr => ∃ k : Nat, k ≤ 6 ∧ i = .int .i64 (k : Int) ∧ Zj w wr ∧ (∃ b5 e5 l5 m5 i5 j5, wr.heap[w.heap.size]? = some (.cells #[.slice b5 (Y2 k s).dk.blocks.length e5, .slice l5 (Y2 k s).dk.late.length m5, .slice i5 (Y2 k s).idx.length j5, .int .i64 (Y2 k s).next] 30 (0, 0)) ∧ Zw (Z7 S (w.heap.size + 4)) (Y2 k s) (.agg #[.slice b5 (Y2 k s).dk.blocks.length e5, .slice l5 (Y2 k s).dk.late.length m5, .slice i5 (Y2 k s).idx.length j5, .int .i64 (Y2 k s).next]) wr) ∧ wr.heap[w.heap.size + 1]? = some Yy ∧ wr.heap[w.heap.size + 2]? = some Zb9 ∧ wr.heap[w.heap.size + 3]? = some (.cells (Zef (Zc1 s k)) 45 (0, 0))) (fun i _ => 6 - (intOf i).toNat)
 case atStart => exact ⟨0, by omega, rfl, g0, ⟨_, _, _, _, _, _, hs1, hT0⟩, hz1, hq1, hr0⟩
 case round =>
  clear g0 hs1 hT0 hz1 hq1 hr0;obtain ⟨k, hk, rfl, gw, ⟨b5, e5, l5, m5, i5, j5, hs1, hT1⟩, hz1, hq1, hr1⟩ := hrel;by_cases hlt : k < 6
  ·have HT : Hid (Y2 (k + 1) s = (Y2 k s).scrub) := rfl;have HAk : Hid ((Y2 k s).At) := J7 HAT.out k;have HC : Hid (Zef (Zc1 s (k + 1)) = Zef (fun i => Zc1 s k i + (if (Y2 k s).dk.how (Y2 k s).next = i then 1 else 0))) := rfl;have hHb := Zz8 (Y2 k s).dk (Y2 k s).next;generalize Y2 k s = t at *;obtain ⟨z0, z1, z2, z3⟩ := Z4 hs1 rfl rfl rfl rfl;go_wp2_with fail;refine (Zob _ t _ wr (fun b h => h.2) hT1.capd HAk.out).mono ?_;obtain ⟨T, hTT⟩ : ∃ T, T = t.scrub := ⟨_, rfl⟩;rw [← hTT] at HT ⊢;generalize t.dk.how t.next = H2 at *;rintro r w1 ⟨v1, rfl, h1, g1⟩;obtain ⟨b7, e7, l7, m7, i7, j7, hv1, -, -, -⟩ := h1.form;subst hv1;have g2 := Zd w1 (.cells #[.slice b7 T.dk.blocks.length e7, .slice l7 T.dk.late.length m7, .slice i7 T.idx.length j7, .int .i64 T.next] 30);have hxA := Zk w1 #[.slice b7 T.dk.blocks.length e7, .slice l7 T.dk.late.length m7, .slice i7 T.idx.length j7, .int .i64 T.next] 30;have g12 := g1.trans g2;have hsA := (g12.block _ (Za hs1)).trans hs1;have hzA := (g12.block _ (Za hz1)).trans hz1;have hqA := (g12.block _ (Za hq1)).trans hq1;have hrA := (g12.block _ (Za hr1)).trans hr1;have HWR : Hid (w.heap.size + 4 ≤ wr.heap.size) := Za hr1;have HG9 : Hid (w.heap.size + 4 ≤ w1.heap.size) := Nat.le_trans HWR.out g1.size;have hTA : Zw (Z7 S (w.heap.size + 4)) T _ _ := (h1.grow g2).mono fun b h => h.elim (fun x => x.1) (fun x => .inr (Nat.le_trans HWR.out x))
   have gwA := gw.trans g12;clear z0 z1 z2 z3 hs1 hT1 hz1 hq1 hr1 h1 g1 g2 g12 gw hTT;go_upto_region 5 with fail
   obtain ⟨G9, hG9⟩ : ∃ G9, G9 = w1.heap.size := ⟨_, rfl⟩;rw [← hG9] at HG9 hxA ⊢;clear hG9;generalize World.alloc w1 _ = W2 at *;have hbd := Zpn s k H2;obtain ⟨j, rfl⟩ : ∃ j : Nat, H2 = (j : Int) := ⟨H2.toNat, by omega⟩;have hj6 : j < 6 := by omega
   clear hHb;obtain ⟨y0, f0, hr3⟩ := Zzo hrA hj6;have hb3 := (Zo.refl (w.heap.size + 3) W2).set j none (.int .i64 (Zc1 s k (j : Int) + 1));generalize Zc1 s k (j : Int) = cj at *;have hs3 := (hb3.block _ (Za hsA) (by omega)).trans hsA;have hz3 := (hb3.block _ (Za hzA) (by omega)).trans hzA;have hq3 := (hb3.block _ (Za hqA) (by omega)).trans hqA;have hx3 := (hb3.block _ (Za hxA) (by have := HG9.out; omega)).trans hxA;have hT3 := hTA.but hb3 (Xg (fun b h => by have := hS b h; omega) (by omega));have gw3 := hb3.grow gwA (by omega);clear hsA hzA hqA hrA hxA hTA gwA hb3;go_upto_region 6 with fail
   clear y0 f0;generalize World.setCell _ _ _ = W3 at *;obtain ⟨hs4, hb4⟩ := Yc hs3 (.slice b7 T.dk.blocks.length e7) (.slice l7 T.dk.late.length m7) (.slice i7 T.idx.length j7) (.int .i64 T.next);have hz4 := (hb4.block _ (Za hz3) (by omega)).trans hz3;have hq4 := (hb4.block _ (Za hq3) (by omega)).trans hq3;have hr4 := (hb4.block _ (Za hr3) (by omega)).trans hr3;have hT4 := hT3.but hb4 (Xg hS (by omega));have gw4 := hb4.grow gw3 (by omega);obtain ⟨x0, x1, x2, x3⟩ := Z4 hx3 rfl rfl rfl rfl;obtain ⟨v0, v1, v2, v3⟩ := Z4 hs3 rfl rfl rfl rfl;obtain ⟨u0, u1, u2, u3⟩ := Yp hs3;have cs := Zu;clear hs3 hz3 hq3 hr3 hx3 hT3 gw3 hb4;go_wp2_with fail;go_roundw
   case rel => exact ⟨k + 1, by omega, by go_num, gw4, ⟨_, _, _, _, _, _, by rw [HT.out]; exact hs4, by rw [HT.out]; exact hT4⟩, hz4, hq4, by rw [HC.out]; exact hr4⟩
   case measure => simp [intOf]; omega
  ·obtain rfl : k = 6 := by omega
   clear hlt hk;rw [← HU.out] at hs1 hT1;rw [← Hf.out] at hr1;clear HU Hf;go_wp2_with fail
   refine Y6 [px (.agg #[.slice b5 U.dk.blocks.length e5, .slice l5 U.dk.late.length m5, .slice i5 U.idx.length j5, .int .i64 U.next]), px (.agg (Zef f)), pl ((fun _ _ => True)), pl ((fun _ _ => True))] [none, none, some ((Zaw (w.heap.size + 1))), some ((Zaw (w.heap.size + 2)))] (fun dn w' => Zj w w' ∧ w'.heap[w.heap.size]? = some (.cells #[.slice b5 U.dk.blocks.length e5, .slice l5 U.dk.late.length m5, .slice i5 U.idx.length j5, .int .i64 U.next] 30 (0, 0)) ∧ w'.heap[w.heap.size + 3]? = some (.cells (Zef f) 45 (0, 0)) ∧ Zw (Z7 S (w.heap.size + 4)) U (.agg #[.slice b5 U.dk.blocks.length e5, .slice l5 U.dk.late.length m5, .slice i5 U.idx.length j5, .int .i64 U.next]) w' ∧ (dn 2 = false → w'.heap[w.heap.size + 1]? = some Yy) ∧ (dn 2 = true → w'.heap[w.heap.size + 1]? = some (.cells #[.slice b5 U.dk.blocks.length e5, .slice l5 U.dk.late.length m5, .slice i5 U.idx.length j5, .int .i64 U.next] 30 (0, 0))) ∧ (dn 3 = false → w'.heap[w.heap.size + 2]? = some Zb9) ∧ (dn 3 = true → w'.heap[w.heap.size + 2]? = some (.cells (Zef f) 45 (0, 0)))) (by kernel_rfl) (by kernel_rfl) ⟨se, se, Ym ((fun _ _ _ _ _ => trivial)), Ym ((fun _ _ _ _ _ => trivial)), trivial⟩ ⟨⟨(fun w => Zo.refl _ w), ⟨x5, x5, .inl (by kernel_rfl), .inl (by kernel_rfl), trivial⟩⟩, ⟨(fun w => Zo.refl _ w), ⟨x5, x5, .inr ((fun _ _ _ _ _ _ => trivial)), .inl (by kernel_rfl), trivial⟩⟩, trivial⟩ ⟨n5, n5, fun _ _ _ _ h => h, fun _ _ _ _ h => h, trivial⟩ ⟨gw.drew, hs1, hr1, hT1, fun _ => hz1, (fun h => by cases h), fun _ => hq1, (fun h => by cases h)⟩ ?_ ?_
   ·refine ⟨?_, ?_, ?_, ?_, trivial⟩
    ·refine Zf rfl fun a _ _ _ _ C B A => ?_;have e1 : a (.tmp 1) = .pointer (some ⟨w.heap.size, 0, none⟩) := Zs A 1 rfl;have z0 := Ze B.2.1 0 _ rfl;have z1 := Ze B.2.1 1 _ rfl;have z2 := Ze B.2.1 2 _ rfl;have z3 := Ze B.2.1 3 _ rfl;refine Zq ?_ B rfl;clear A B C;go_simp;all_goals go_arith
    ·refine Zf rfl fun a _ _ _ _ C B A => ?_;have e4 : a (.tmp 4) = .pointer (some ⟨w.heap.size + 1 + 1 + 1, 0, none⟩) := Zs A 4 rfl;have z0 := Ze B.2.2.1 0 _ rfl;have z1 := Ze B.2.2.1 1 _ rfl;have z2 := Ze B.2.2.1 2 _ rfl;have z3 := Ze B.2.2.1 3 _ rfl;have z4 := Ze B.2.2.1 4 _ rfl;have z5 := Ze B.2.2.1 5 _ rfl;refine Zq ?_ B rfl;clear A B C;go_simp;all_goals go_arith
    ·refine Zf rfl fun a w' _ _ _ C B A => ?_;have e2 : a (.tmp 2) = .pointer (some ⟨w.heap.size + 1, 0, none⟩) := Zs A 2 rfl;have e23 : a (.tmp 23) = _ := Zh A 0 rfl;have hh := B.2.2.2.2.1 C.un;obtain ⟨hq1, hq2⟩ := Yc hh (.slice b5 U.dk.blocks.length e5) (.slice l5 U.dk.late.length m5) (.slice i5 U.idx.length j5) (.int .i64 U.next);obtain ⟨y0, y1, y2, y3⟩ := Z4 hh rfl rfl rfl rfl;obtain ⟨f0, f1, f2, f3⟩ := Yp hh;have cs := Zu;refine Y8 (w' := _) ?_ hq2 ⟨hq2.grow B.1 (by omega), (hq2.block _ (Za B.2.1) (by omega)).trans B.2.1, (hq2.block _ (Za B.2.2.1) (by omega)).trans B.2.2.1, B.2.2.2.1.but hq2 (Xg (fun b h => by have := hS b h; omega) (by omega)), (fun h => by simp [upd] at h), fun _ => hq1, fun h => (hq2.block _ (Za (B.2.2.2.2.2.2.1 h)) (by omega)).trans (B.2.2.2.2.2.2.1 h), fun h => (hq2.block _ (Za (B.2.2.2.2.2.2.2 h)) (by omega)).trans (B.2.2.2.2.2.2.2 h)⟩ trivial;clear A B C hq1 hq2 hh;go_simp;all_goals go_arith
    ·refine Zf rfl fun a w' _ _ _ C B A => ?_;have e3 : a (.tmp 3) = .pointer (some ⟨w.heap.size + 1 + 1, 0, none⟩) := Zs A 3 rfl;have e24 : a (.tmp 24) = _ := Zh A 1 rfl;have hh := B.2.2.2.2.2.2.1 C.un;obtain ⟨hq1, hq2⟩ := Zwd hh (.int .i64 (f 0)) (.int .i64 (f 1)) (.int .i64 (f 2)) (.int .i64 (f 3)) (.int .i64 (f 4)) (.int .i64 (f 5));obtain ⟨y0, y1, y2, y3, y4⟩ := Vv hh rfl rfl rfl rfl rfl;have y5 := Ze hh 5 _ rfl;obtain ⟨f0, f1, f2, f3⟩ := Yp hh;have f4 := Zt hh 4;have f5 := Zt hh 5;have cs := Zu;refine Y8 (w' := _) ?_ hq2 ⟨hq2.grow B.1 (by omega), (hq2.block _ (Za B.2.1) (by omega)).trans B.2.1, (hq2.block _ (Za B.2.2.1) (by omega)).trans B.2.2.1, B.2.2.2.1.but hq2 (Xg (fun b h => by have := hS b h; omega) (by omega)), fun h => (hq2.block _ (Za (B.2.2.2.2.1 h)) (by omega)).trans (B.2.2.2.2.1 h), fun h => (hq2.block _ (Za (B.2.2.2.2.2.1 h)) (by omega)).trans (B.2.2.2.2.2.1 h), (fun h => by simp [upd] at h), fun _ => hq1⟩ trivial;clear A B C hq1 hq2 hh;go_simp;all_goals go_arith
   ·intro vs w' dn hdn hg ht;obtain ⟨q23, q24, qo2, qo3, -⟩ := ht;have r23 : vs 0 = _ := q23;have r24 : vs 1 = _ := q24;replace qo2 : ((fun _ _ => True)) (vs 2) w' := qo2;replace qo3 : ((fun _ _ => True)) (vs 3) w' := qo3;clear q23 q24;simp only [Z8, Act.put, List.setIfInBounds_toArray, List.set_cons_zero, List.set_cons_succ, r23, r24];clear r23 r24;have hz := hg.2.2.2.2.2.1 (hdn 2 (by decide));have hq := hg.2.2.2.2.2.2.2 (hdn 3 (by decide));obtain ⟨y0, y1, y2, y3⟩ := Z4 hz rfl rfl rfl rfl;obtain ⟨x0, x1, x2, x3, x4⟩ := Vv hq rfl rfl rfl rfl rfl;have x5 := Ze hq 5 _ rfl;have gE := hg.1;have hE := hg.2.2.2.1.mono (Z9 (B := w.heap.size) (by omega));clear qo2 qo3 hdn hg hz hq hs1 hT1 hz1 hq1 hr1 gw;go_wp2_with fail;exact bodyPost_ret (v := .tuple #[.agg #[.slice b5 U.dk.blocks.length e5, .slice l5 U.dk.late.length m5, .slice i5 U.idx.length j5, .int .i64 U.next], .agg (Zef f)]) (by simp [results, Tryz.results11, go_sem, x0, x1, x2, x3, x4, x5, y0, y1, y2, y3]) rfl ⟨_, rfl, hE, gE⟩
theorem Z0m : Zwt := fun S s v w hS hs hA => Zoc S s v w hS hs hA
end Go.Proofs.YtpdnapbchcdhladGreatDoor
namespace Go.Proofs.YtpdnapbchcdhladGreatDoor
set_option maxRecDepth 100000
open Go.RowKit Go.ChangeShapes Go.WideShapes Go.ChangeAt
open Plain Reg
theorem Zw7 {n : Int} (h : (Lit.int .u8 n).wf = true) : 0 ≤ n ∧ n < 256 := by
 have : 0 ≤ n ∧ n ≤ 255 := by simpa [Lit.wf, IntKind.min, IntKind.max, IntKind.signed, IntKind.bits] using h
 omega
def Jh (zs : List Int) : List UInt8 := zs.map fun n => UInt8.ofNat n.toNat
theorem Zs4 {w : World} {x : Addr} {len cap : Nat} {zs : List Int} (hl : len ≤ cap) (hz : zs.length = cap)
  (hc : ∀ i, i < zs.length → w.cell? (x.add i) = some (.int .u8 (zs.getD i 0))) (hw : ∀ n ∈ zs, (Lit.int .u8 n).wf = true) :
  Bytes w (.slice (some x) len cap) (Jh (zs.take len)) := by
 have e : (Jh (zs.take len)).length = len := by simp [Jh]; omega
 by_cases h0 : len = 0
 ·subst h0;exact .inl ⟨some x, cap, rfl, by simp [Jh], fun h => by cases h⟩
 ·obtain ⟨b, off, rfl, hc'⟩ := ints_at hc (by omega);refine .inr ⟨b, off, cap, by rw [e], by omega, fun i hi => ?_⟩;have hi' : i < zs.length := by omega
  rw [hc' i hi'];have h1 : zs.getD i 0 = zs[i] := by rw [List.getD_eq_getElem?_getD, List.getElem?_eq_getElem hi']; rfl
  have h2 := Zw7 (hw zs[i] (List.getElem_mem hi'));have h3 : ((Jh (zs.take len))[i].toNat : Int) = zs[i] := by
   simp only [Jh, List.getElem_map, List.getElem_take];rw [UInt8.toNat_ofNat'];omega
  rw [h1, h3]
end Go.Proofs.YtpdnapbchcdhladGreatDoor
namespace Go.Proofs.YtpdnapbchcdhladGreatDoor
set_option maxRecDepth 100000
open Go.RowKit Go.ChangeShapes Go.WideShapes Go.ChangeAt Go.Deep
open Plain Reg
section
variable {H : Type} {enc : TypeId × Value → H} {W : World}
theorem Zfc {P : Program} {ts : List TypeId} {ds : List (DataW H)} (h : (DataW.weightsEach P ts ds).all (· ≤ reachBytes) = true) {j : Nat} {t : TypeId} {d : DataW H} (ht : ts[j]? = some t) (hd : ds[j]? = some d) : (d.weights P t).all (· ≤ reachBytes) = true := by
 rw [List.all_eq_true] at h ⊢;exact fun n hn => h n (DataW.weights_mem_each ht hd n hn)
theorem Zgb {fuel : Nat} {v : Value} {x : DataW H × List MemPlace} (h : DataW.trod enc Tryz.prog W 0 (fun _ => true) true fuel 38 [v] = some x) (hs : (x.1.weights Tryz.prog 38).all (· ≤ reachBytes) = true) :
  ∃ l, Bytes W v l ∧ l.length ≤ 140737488351232 := by
 rcases open_ints Tryz.underlying38 Tryz.underlying5 (by kernel_rfl) h with ⟨hcs, _⟩ | ⟨a, len, cap, zs, hcs, _, hl, hm, hz, hx, hcell, hwz⟩
 ·simp only [List.cons.injEq, and_true] at hcs;subst hcs;exact ⟨[], .inl ⟨none, 0, rfl, rfl, fun _ => rfl⟩, by simp⟩
 ·simp only [List.cons.injEq, and_true] at hcs;subst hcs;have hzz : zs.length = cap := by simpa using hz
  subst hx;have hs2 : (lits (H := H) .u8 (zs.take len)).length + (lits (H := H) .u8 (zs.drop len)).length ≤ reachBytes := by
   have h3 := (List.all_eq_true.1 hs) (((lits (H := H) .u8 (zs.take len)).length + (lits (H := H) .u8 (zs.drop len)).length) * Tryz.prog.bytesOf 5) (by simp [DataW.weights, Tryz.underlying38]);rw [show Tryz.prog.bytesOf 5 = 1 from by kernel_rfl, Nat.mul_one] at h3;simpa using h3
  simp only [lits, List.length_map, List.length_take, List.length_drop, reachBytes] at hs2;refine ⟨Jh (zs.take len), Zs4 hl hzz hcell hwz, ?_⟩;simp [Jh]; omega
end
end Go.Proofs.YtpdnapbchcdhladGreatDoor
namespace Go.Proofs.YtpdnapbchcdhladGreatDoor
set_option maxRecDepth 100000
open Go.RowKit Go.ChangeShapes Go.WideShapes Go.ChangeAt Go.Deep
open Plain Reg
section
variable {H : Type} {enc : TypeId × Value → H} {W : World}
theorem Zf6 {a : Addr} {u : Value} (h : W.cell? (a.add 0) = some u) : ∃ b off, a = ⟨b, off, none⟩ := by
 obtain ⟨b, off, spot⟩ := a;cases spot with
 | none => exact ⟨b, off, rfl⟩
 | some s =>
  exfalso;unfold World.cell? Addr.add at h;simp only [if_true] at h;split at h <;> simp_all
theorem Zbu (b off i : Nat) : (⟨b, off, none⟩ : Addr).add i = ⟨b, off + i, none⟩ := by
 unfold Addr.add;split
 ·rename_i h; rw [h]; rfl
 ·rfl
end
section
variable {H : Type} {enc : TypeId × Value → H} {W : World}
theorem Zrq {α : Type} (i0 : Inhabited α) (sh : Xz α) {t : TypeId} {fuel : Nat} {v : Value} {x : DataW H × List MemPlace} (ht : Tryz.prog.underlying t = some (.slice sh.T)) (hc : Tryz.prog.cellsOf sh.T = sh.size) (hz : 0 < sh.size) {by_ : Nat} (hby : Tryz.prog.bytesOf sh.T = by_)
  (hopen : ∀ (fuel : Nat) (cs : List Value) (y : DataW H × List MemPlace), DataW.trod enc Tryz.prog W 0 (fun _ => true) true fuel sh.T cs = some y → ∃ z : α, sh.enc (fun b => b < W.heap.size) W z cs)
  (h : DataW.trod enc Tryz.prog W 0 (fun _ => true) true fuel t [v] = some x) (hs : (x.1.weights Tryz.prog t).all (· ≤ reachBytes) = true) :
  ∃ xs, Zv sh (fun b => b < W.heap.size) W v xs ∧ xs.length * by_ ≤ 140737488351232 := by
 rcases open_slice ht h with ⟨hcs, _⟩ | ⟨a, len, cap, m, n, D, Pl, hcs, _, hl, hm, hmm, hx, hV⟩
 ·simp only [List.cons.injEq, and_true] at hcs;subst hcs;exact ⟨[], .inl ⟨none, 0, rfl, rfl, fun _ => rfl⟩, by simp⟩
 ·simp only [List.cons.injEq, and_true] at hcs;subst hcs;have hmc : m = cap := by simpa using hmm
  subst hmc;have hex : ∀ i, i < len → ∃ z : α, ∃ cs, sh.enc (fun b => b < W.heap.size) W z cs ∧ ∀ (j : Nat) (u : Value), cs[j]? = some u → W.cell? (a.add (i * sh.size + j)) = some u := by
   intro i hi;obtain ⟨cs, h1, h2⟩ := hV i (by omega);rw [hc] at h1;obtain ⟨_, hlen, hcell⟩ := World.cells?_some h1;obtain ⟨z, hz⟩ := hopen _ _ _ h2;refine ⟨z, cs, hz, fun j u hj => ?_⟩;have hjl := (List.getElem?_eq_some_iff.1 hj).1;have := hcell j (by omega);rw [add_add] at this;rw [this]; exact hj
  obtain ⟨f, hf⟩ := choose_lt hex;subst hx;have hw : len * by_ ≤ reachBytes := by
   have h3 := (List.all_eq_true.1 hs) ((((List.range len).map D).length + ((List.range (m - len)).map fun j => D (len + j)).length) * Tryz.prog.bytesOf sh.T) (by simp [DataW.weights, ht]);rw [hby] at h3;simp only [List.length_map, List.length_range, decide_eq_true_eq] at h3;exact Nat.le_trans (Nat.mul_le_mul_right _ (by omega)) h3
  refine ⟨(List.range len).map f, ?_, by simp [reachBytes] at hw ⊢; omega⟩;by_cases h0 : len = 0
  ·subst h0;exact .inl ⟨some a, m, rfl, by simp, fun h => by cases h⟩
  ·obtain ⟨cs0, e1, e2⟩ := hf 0 (by omega);have hl0 := sh.len e1;have e3 := e2 0 cs0[0] (List.getElem?_eq_getElem (by omega));rw [Nat.zero_mul, Nat.zero_add] at e3;obtain ⟨b, off, rfl⟩ := Zf6 e3;refine .inr ⟨b, off, m, ?_, by simp, by simpa using hl, fun i hi => ?_⟩
   ·rw [Zbu] at e3;exact Zr e3
   ·obtain ⟨cs, k1, k2⟩ := hf i (by simpa using hi);refine ⟨cs, by simpa using k1, fun j u hj => ?_⟩;have := k2 j u hj;rw [Zbu] at this;rw [Nat.add_assoc]; exact this
end
section
variable {H : Type} {enc : TypeId × Value → H} {W : World}
end
section
variable {H : Type} {enc : TypeId × Value → H} {W : World}
theorem Zfj {P : Program} {e : TypeId} : ∀ {l : List (DataW H)} {d : DataW H}, d ∈ l → ∀ n ∈ d.weights P e, n ∈ DataW.weightsAll P e l
 | c :: r, d, h, n, hn => by
  rw [DataW.weightsAll, List.mem_append];rcases List.mem_cons.1 h with rfl | h
  ·exact .inl hn
  ·exact .inr (Zfj h n hn)
theorem Zof {α : Type} (i0 : Inhabited α) (sh : Xz α) (Q : α → Prop) {t : TypeId} {fuel : Nat} {v : Value} {x : DataW H × List MemPlace} (ht : Tryz.prog.underlying t = some (.slice sh.T)) (hc : Tryz.prog.cellsOf sh.T = sh.size) (hz : 0 < sh.size) {by_ : Nat} (hby : Tryz.prog.bytesOf sh.T = by_)
  (hopen : ∀ (fuel : Nat) (cs : List Value) (y : DataW H × List MemPlace), DataW.trod enc Tryz.prog W 0 (fun _ => true) true fuel sh.T cs = some y → (y.1.weights Tryz.prog sh.T).all (· ≤ reachBytes) = true → ∃ z : α, sh.enc (fun b => b < W.heap.size) W z cs ∧ Q z)
  (h : DataW.trod enc Tryz.prog W 0 (fun _ => true) true fuel t [v] = some x) (hs : (x.1.weights Tryz.prog t).all (· ≤ reachBytes) = true) :
  ∃ xs, Zv sh (fun b => b < W.heap.size) W v xs ∧ xs.length * by_ ≤ 140737488351232 ∧ ∀ z ∈ xs, Q z := by
 rcases open_slice ht h with ⟨hcs, _⟩ | ⟨a, len, cap, m, n, D, Pl, hcs, _, hl, hm, hmm, hx, hV⟩
 ·simp only [List.cons.injEq, and_true] at hcs;subst hcs;exact ⟨[], .inl ⟨none, 0, rfl, rfl, fun _ => rfl⟩, by simp, by simp⟩
 ·simp only [List.cons.injEq, and_true] at hcs;subst hcs;have hmc : m = cap := by simpa using hmm
  subst hmc;subst hx;have hex : ∀ i, i < len → ∃ z : α, ∃ cs, (sh.enc (fun b => b < W.heap.size) W z cs ∧ Q z) ∧ ∀ (j : Nat) (u : Value), cs[j]? = some u → W.cell? (a.add (i * sh.size + j)) = some u := by
   intro i hi;obtain ⟨cs, h1, h2⟩ := hV i (by omega);rw [hc] at h1;obtain ⟨_, hlen, hcell⟩ := World.cells?_some h1;have hwt : ((D i).weights Tryz.prog sh.T).all (· ≤ reachBytes) = true := by
    rw [List.all_eq_true] at hs ⊢;intro k hk;refine hs k ?_;have := Zfj (P := Tryz.prog) (e := sh.T) (l := (List.range len).map D) (List.mem_map.2 ⟨i, List.mem_range.2 hi, rfl⟩) k hk;simp only [DataW.weights, ht];exact List.mem_cons_of_mem _ (List.mem_append_left _ this)
   obtain ⟨z, hz⟩ := hopen _ _ _ h2 hwt;refine ⟨z, cs, hz, fun j u hj => ?_⟩;have hjl := (List.getElem?_eq_some_iff.1 hj).1;have := hcell j (by omega);rw [add_add] at this;rw [this]; exact hj
  obtain ⟨f, hf⟩ := choose_lt hex;have hw : len * by_ ≤ reachBytes := by
   have h3 := (List.all_eq_true.1 hs) ((((List.range len).map D).length + ((List.range (m - len)).map fun j => D (len + j)).length) * Tryz.prog.bytesOf sh.T) (by simp [DataW.weights, ht]);rw [hby] at h3;simp only [List.length_map, List.length_range, decide_eq_true_eq] at h3;exact Nat.le_trans (Nat.mul_le_mul_right _ (by omega)) h3
  refine ⟨(List.range len).map f, ?_, by simp [reachBytes] at hw ⊢; omega, fun z hz => by
   obtain ⟨i, hi, rfl⟩ := List.mem_map.1 hz;obtain ⟨_, k1, _⟩ := hf i (List.mem_range.1 hi);exact k1.2⟩
  by_cases h0 : len = 0
  ·subst h0;exact .inl ⟨some a, m, rfl, by simp, fun h => by cases h⟩
  ·obtain ⟨cs0, e1, e2⟩ := hf 0 (by omega);have hl0 := sh.len e1.1;have e3 := e2 0 cs0[0] (List.getElem?_eq_getElem (by omega));rw [Nat.zero_mul, Nat.zero_add] at e3;obtain ⟨b, off, rfl⟩ := Zf6 e3;refine .inr ⟨b, off, m, ?_, by simp, by simpa using hl, fun i hi => ?_⟩
   ·rw [Zbu] at e3;exact Zr e3
   ·obtain ⟨cs, k1, k2⟩ := hf i (by simpa using hi);refine ⟨cs, by simpa using k1.1, fun j u hj => ?_⟩;have := k2 j u hj;rw [Zbu] at this;rw [Nat.add_assoc]; exact this
end
variable {fuel : Nat} {v : Value}
section
variable {H : Type} {enc : TypeId × Value → H} {W : World}
def Zg8 : Xz (List UInt8) where
 T := 38
 size := 1
 enc S w x cs := ∃ u, cs = [u] ∧ Z0 S w u x
 len := by rintro S w x cs ⟨u, rfl, _⟩; rfl
 keep := by rintro S w w' x cs ⟨u, rfl, h⟩ hk; exact ⟨u, rfl, h.keeps hk⟩
 mono := by rintro S S' w x cs ⟨u, rfl, h⟩ hS; exact ⟨u, rfl, h.mono hS⟩
 cap := by rintro S w x cs ⟨u, rfl, h⟩; exact ⟨u, rfl, h.caps⟩
 one := by
  rintro S w x cs ⟨u, rfl, h⟩ c hc;rw [List.mem_singleton.1 hc]; exact h.one
theorem Zwg {S : Nat → Prop} {l : List (List UInt8)} (h : Zv Zg8 S W v l) : Xc S W v l := by
 rcases h with h | ⟨b, off, cap, hS, rfl, h1, hc⟩
 ·exact .inl h
 ·refine .inr ⟨b, off, cap, hS, rfl, h1, fun i hi => ?_⟩;obtain ⟨cs, ⟨u, rfl, hu⟩, hcc⟩ := hc i hi;refine ⟨u, ?_, hu⟩;have := hcc 0 u rfl;rw [show off + i * Zg8.size + 0 = off + i from by show off + i * 1 + 0 = _; omega] at this;exact this
theorem Zrr {x : DataW H × List MemPlace} (h : DataW.trod enc Tryz.prog W 0 (fun _ => true) true fuel 24 [v] = some x) (hs : (x.1.weights Tryz.prog 24).all (· ≤ reachBytes) = true) : ∃ l, Xc (fun b => b < W.heap.size) W v l ∧ l.length ≤ 140737488351232 ∧ ∀ z ∈ l, z.length ≤ 140737488351232 := by
 obtain ⟨l, h1, h2, h3⟩ := Zof ⟨[]⟩ Zg8 (fun z => z.length ≤ 140737488351232) Tryz.underlying24 (by kernel_rfl) (by decide) (by_ := 24) (by kernel_rfl) (fun _ cs _ h hw => by
  have hl : ∃ c, cs = [c] := by
   rcases open_ints Tryz.underlying38 Tryz.underlying5 (by kernel_rfl) h with ⟨hcs, _⟩ | ⟨a, len, cap, zs, hcs, _⟩
   ·exact ⟨_, hcs⟩
   ·exact ⟨_, hcs⟩
  obtain ⟨c, rfl⟩ := hl;obtain ⟨e, hb, hle⟩ := Zgb h hw;exact ⟨e, ⟨c, rfl, Zdy hb⟩, hle⟩) h hs
 exact ⟨l, Zwg h1, by omega, h3⟩
theorem Zic {x : DataW H × List MemPlace} (h : DataW.trod enc Tryz.prog W 0 (fun _ => true) true fuel 22 [v] = some x) (hs : (x.1.weights Tryz.prog 22).all (· ≤ reachBytes) = true) : ∃ l, Zv Kh (fun b => b < W.heap.size) W v l ∧ l.length ≤ 140737488351232 := by
 obtain ⟨l, h1, h2⟩ := Zrq ⟨0⟩ Kh Tryz.underlying22 (by kernel_rfl) (by decide) (by_ := 8) (by kernel_rfl) (fun _ cs _ h => by
  obtain ⟨a, e, -, -⟩ := DataW.trod_int Tryz.underlying3 h;exact ⟨a, e⟩) h hs
 exact ⟨l, h1, by omega⟩
end
end Go.Proofs.YtpdnapbchcdhladGreatDoor
namespace Go.Proofs.YtpdnapbchcdhladGreatDoor
set_option maxRecDepth 100000
open Go.RowKit Go.ChangeShapes Go.WideShapes Go.ChangeAt
open Plain Reg
variable {W : World}
def Zg6 : DataW Unit → Array Value
 | .agg l => (l.flatMap fun
  | .lit (.int k z) => [Value.int k z]
  | .agg m => m.flatMap fun
   | .lit (.int k z) => [Value.int k z]
   | _ => []
  | _ => []).toArray
 | _ => #[]
def Zn8 (h : Array Obj) (g : Nat) (cs : Array Value) : Array Obj := h.modify g fun
 | .cells _ t frozen => .cells cs t frozen
 | o => o
def Vz (os : Os) (W : World) : Prop := W =
 (let N := (World.settled Tryz.prog os).heap.size; let w0 := World.holding Tryz.prog os ⟨#[.cells #[.string ⟨#[118, 97, 108, 117, 101, 32, 111, 117, 116, 32, 111, 102, 32, 114, 97, 110, 103, 101]⟩] 253, .cells #[.string ⟨#[105, 110, 118, 97, 108, 105, 100, 32, 115, 121, 110, 116, 97, 120]⟩] 253], #[], []⟩; let h0 := Zn8 (Zn8 w0.heap 4 #[.iface 251 (.pointer (some ⟨N, 0, none⟩))]) 3 #[.iface 251 (.pointer (some ⟨N + 1, 0, none⟩))]; let h1 := Zn8 (Zn8 h0 6 (Zg6 Rows.laid_math_bits_deBruijn32tab)) 7 (Zg6 Rows.laid_math_bits_deBruijn64tab); let h2 := Zn8 (Zn8 h1 5 (Zg6 Rows.laid_internal_strconv_uint64pow10)) 2 (Zg6 Rows.laid_unicode_utf8_acceptRanges); { w0 with heap := Zn8 h2 1 (Zg6 Rows.laid_unicode_utf8_first) })
theorem Zdl {os : Os} (h : Vz os W) (args : Array Value) : laidMet Tryz.prog Rows.topRotRow.laid (W.forCall (fun _ _ => 0) ⟨#[], args, []⟩).memory := by
 unfold Vz at h;subst h;exact laidMet_of_run' 8 (by kernel_rfl) (by kernel_rfl)
theorem Zyz : "*" ++ "errors.errorString" = "*errors.errorString" := by decide
theorem Z0n (u : TypeId) (h : Tryz.prog.typeName? 3 u = some "*errors.errorString") : u = 251 :=
 typeName_ptr_named (nm := "errors.errorString") (by rw [Zyz]; kernel_rfl) (by kernel_rfl) (by decide) u (by rw [Zyz]; exact h)
theorem Z1h : Tryz.prog.globalNamed "internal/strconv.uint64pow10" = some 5 := by kernel_rfl
theorem gER : Tryz.prog.globalNamed "strconv.ErrRange" = some 4 := by kernel_rfl
theorem gES : Tryz.prog.globalNamed "strconv.ErrSyntax" = some 3 := by kernel_rfl
theorem Zc3 (hL : laidMetH Tryz.prog Rows.topRotRow.laid W) : Vb W := by
 have hL' : laidMet Tryz.prog Rows.topRotRow.laid W := hL;obtain ⟨a0, s0, hv0, -, -, -⟩ := laid_sentinel hL'.tail.tail.tail.tail gER (by kernel_rfl) Tryz.underlying159 Z0n Tryz.underlying251 Tryz.underlying253 rfl rfl Tryz.underlying9 (by kernel_rfl) (by kernel_rfl);obtain ⟨a1, s1, hv1, -, -, -⟩ := laid_sentinel hL'.tail.tail.tail.tail.tail gES (by kernel_rfl) Tryz.underlying159 Z0n Tryz.underlying251 Tryz.underlying253 rfl rfl Tryz.underlying9 (by kernel_rfl) (by kernel_rfl);refine ⟨Lib.tabIs_of_head Z1h (by kernel_rfl) Tryz.underlying255 Tryz.underlying155 (by kernel_rfl) (by kernel_rfl) hL'.tail.tail, ⟨_, by have h0 := World.var?_cell gES hv1 0; simpa using h0, .inr ⟨_, _, rfl⟩⟩, _, by have h0 := World.var?_cell gER hv0 0; simpa using h0, .inr ⟨_, _, rfl⟩⟩
end Go.Proofs.YtpdnapbchcdhladGreatDoor
