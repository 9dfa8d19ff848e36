import Derived.Test.YtpdnapbchcdhlacGreatDk
import Derived.Laws.OwnMore
set_option maxHeartbeats 8000000
namespace Go.Proofs.YtpdnapbchcdhlacGreat
set_option maxRecDepth 100000
open Go.RowKit
open Plain Reg
end Go.Proofs.YtpdnapbchcdhlacGreat
namespace Go.Proofs.YtpdnapbchcdhlacGreat
set_option maxRecDepth 100000
open Go.RowKit
open Plain Reg
variable {S : Nat → Prop} {bs : List (List UInt8)} {g : Nat} {w : World}
theorem Zng {v : Value} (h : Y5 S w v bs) (h0 : 0 < bs.length) :
  ∃ (ad : Addr) (cap : Nat) (us : List Value), v = .slice (some ad) bs.length cap ∧ us.length = bs.length ∧ (∀ (j : Nat) u, us[j]? = some u → w.cell? (ad.add j) = some u) ∧ (∀ i (hi : i < bs.length), ∃ u, us[i]? = some u ∧ Z1 S w u bs[i]) := by
 rcases h with ⟨ao, cap, rfl, rfl, h1⟩ | ⟨b, off, cap, hSb, rfl, h1, hc⟩
 ·simp at h0
 ·have hex : ∃ f : Nat → Value, ∀ i (hi : i < bs.length), w.cell? ⟨b, off + i, none⟩ = some (f i) ∧ Z1 S w (f i) bs[i] := by
   refine ⟨fun i => if hi : i < bs.length then (hc i hi).choose else undef, fun i hi => ?_⟩;simp only [hi, dif_pos];exact (hc i hi).choose_spec
  obtain ⟨f, hf⟩ := hex;refine ⟨_, cap, (List.range bs.length).map f, rfl, by simp, fun j u hj => ?_, fun i hi => ⟨f i, by simp [hi], (hf i hi).2⟩⟩;have hjl : j < bs.length := by
   rcases Nat.lt_or_ge j bs.length with h | h
   ·exact h
   ·rw [List.getElem?_eq_none (by simpa using h)] at hj; cases hj
  have e : u = f j := by simp [hjl] at hj; exact hj.symm
  subst e;have e2 : ∀ m, (⟨b, off, none⟩ : Addr).add m = ⟨b, off + m, none⟩ := fun m => by simp [Addr.add]
  rw [e2]; exact (hf j hjl).1
theorem Ziv.put {S0 : Nat → Prop} {B q cap i : Nat} {lv u : Value} {us : List Value} {b : List UInt8} (h3 : w.heap[g]? = some (.cells #[.slice (some ⟨q, 0, none⟩) bs.length cap, lv] 26 (0, 0))) (h4 : us.length = bs.length)
  (h5 : ∀ i (hi : i < bs.length), ∃ u, us[i]? = some u ∧ Z1 (InS S0 B w) w u bs[i]) (h6 : w.ownsRow B 45 1 (.slice (some ⟨q, 0, none⟩) bs.length cap) bs.length us) (hS0 : ∀ b, S0 b → b < B) (hu : Z1 (InS S0 B w) w u b) (hi : i < bs.length) : Ziv S0 B g lv (bs.set i b) (w.setCell ⟨q, i, none⟩ u) := by
 have hq : ∃ cur, w.heap[q]? = some (.cells cur 45 (0, 0)) := by
  rcases h6.2 with ⟨e, _⟩ | ⟨q', cap', cur, e, _, hh, _⟩
  ·cases e
  ·cases e; exact ⟨cur, hh⟩
 obtain ⟨cur, hq⟩ := hq;have hqB : B ≤ q := (h6.lt q rfl).1;have keep : ∀ b, InS S0 B w b → (w.setCell ⟨q, i, none⟩ u).heap[b]? = w.heap[b]? := by
  intro b hSb;refine Below.heap_setCell _ _ _ _ ?_;rintro rfl;rcases hSb with h | ⟨_, c, f, h⟩
  ·have := hS0 _ h; omega
  ·rw [hq] at h; cases h
 have keep' : ∀ b, InS S0 B w b → InS S0 B (w.setCell ⟨q, i, none⟩ u) b := fun b h => Xk h (fun x => x) fun ⟨k1, c, f, k2⟩ => ⟨k1, c, f, (keep b h).trans k2⟩
 have hgq : g ≠ q := by rintro rfl; rw [h3] at hq; cases hq
 refine ⟨.slice (some ⟨q, 0, none⟩) bs.length cap, us.set i u, ?_, by simp [h4], fun j hj => ?_, ?_⟩
 ·rw [Below.heap_setCell _ _ _ _ hgq]; exact h3
 ·rw [List.length_set] at hj;by_cases e : i = j
  ·subst e;refine ⟨u, by rw [List.getElem?_set]; simp [h4, hi], ?_⟩;simp only [List.getElem_set_self];exact (hu.keep keep).mono keep'
  ·obtain ⟨x, e1, e2⟩ := h5 j hj;refine ⟨x, by rw [List.getElem?_set]; simp [e, e1], ?_⟩;rw [List.getElem_set_ne e];exact (e2.keep keep).mono keep'
 ·rw [List.length_set]; exact (h6.stored i u).1
def Zgd (S : Nat → Prop) (d : Dk) (bits : Int) (w : World) (g : Nat) (c : Array Value) (k : Nat) (wr : World) : Prop :=
 Zl w wr ∧ wr.heap[w.heap.size]? = some (.cells c 26 (0, 0)) ∧ wr.heap[w.heap.size + 1]? = some (.cells #[.slice none 0 0, .slice none 0 0] 26 (0, 0)) ∧
  Ziv S (w.heap.size + 1 + 1) g (.slice none 0 0) (d.keepTo (Xv bits) k) wr
theorem Zgd.grow {d : Dk} {bits : Int} {c : Array Value} {k : Nat} {wr w' : World} (h : Zgd S d bits w g c k wr) (hg : Zl wr w') : Zgd S d bits w g c k w' :=
 ⟨h.1.trans hg, (hg.block _ (Za h.2.1)).trans h.2.1, (hg.block _ (Za h.2.2.1)).trans h.2.2.1, h.2.2.2.grow hg⟩
theorem Zot (bits : Int) : Value.int .u64 (IntKind.u64.wrap bits) = .int .u64 (((bits % 18446744073709551616).toNat / 2 ^ 0 : Nat) : Int) := by
 rw [IntKind.wrap_u64, Nat.pow_zero, Nat.div_one]
 congr 1
 omega
theorem Zfz (bits : Int) (k U : Nat) (h : (bits % 18446744073709551616).toNat / 2 ^ k = U) : Value.int .u64 (IntKind.u64.wrap ((U : Int) / 2)) = .int .u64 (((bits % 18446744073709551616).toNat / 2 ^ (k + 1) : Nat) : Int) := by
 rw [Nat.pow_succ, ← Nat.div_div_eq_div_mul, h, IntKind.wrap_u64];have hle : U ≤ (bits % 18446744073709551616).toNat := by rw [← h]; exact Nat.div_le_self _ _
 congr 1
 omega
theorem Zs2 (S : Nat → Prop) (d : Dk) (bits : Int) (vb vl : Value) (w : World) (hS : ∀ b, S b → b < w.heap.size) (hb : Y5 S w vb d.blocks) (hl : Qk S w vl d.late) (h0 : 0 < d.blocks.length) (hlen : d.blocks.length ≤ 256) (hm : d.late.length ≤ 999990) (hp : ∀ x ∈ d.late, 0 ≤ x.1 ∧ x.1 < (d.blocks.length : Int)) :
  Calls Tryz.prog 57 #[.agg #[vb, vl], .int .i64 bits] w fun e w' => ∃ vb', e = .returned (.agg #[vb', .slice none 0 0]) ∧ Y5 (Z2 S w.heap.size) w' vb' (d.keep bits).blocks ∧ Zl w w' := by
 obtain ⟨ad, cb, us, rfl, hul, hcells, hus⟩ := Zng hb h0;obtain ⟨al, cl, rfl⟩ := hl.p.form;obtain ⟨i0, hif, hz0, hz1, hz2⟩ := info_parts Zcj;have hone : ∀ u ∈ us, u.oneCell' = true := by
  intro u hu;obtain ⟨i, hi, rfl⟩ := List.mem_iff_getElem.1 hu;obtain ⟨u', h2, h3⟩ := hus i (by omega);rw [List.getElem?_eq_getElem hi] at h2;cases h2;exact Zqk h3.p
 have hc1 : ∀ (j : Nat) u, us[j]? = some u → (((w.alloc (.cells #[.slice (some ad) d.blocks.length cb, .slice al d.late.length cl] 26)).alloc (.cells #[.slice none 0 0, .slice none 0 0] 26)).alloc (.cells #[] 45)).cell? (ad.add j) = some u := by
  intro j u hj;have h2 := hcells j u hj;rw [← h2];exact Below.cell ((Zq _ _ _).trans (Zb _ _)) (Zs h2)
 have hx := hx1 w #[.slice (some ad) d.blocks.length cb, .slice al d.late.length cl] #[.slice none 0 0, .slice none 0 0];have hy := hy1 w #[.slice (some ad) d.blocks.length cb, .slice al d.late.length cl] #[.slice none 0 0, .slice none 0 0];have gW := Zq w (.cells #[.slice (some ad) d.blocks.length cb, .slice al d.late.length cl] 26) (.cells #[.slice none 0 0, .slice none 0 0] 26);have ho : (((w.alloc (.cells #[.slice (some ad) d.blocks.length cb, .slice al d.late.length cl] 26)).alloc (.cells #[.slice none 0 0, .slice none 0 0] 26)).alloc (.cells #[] 45)).ownsRow (w.heap.size + 1 + 1) 45 1 (.slice (some ⟨w.heap.size + 1 + 1, 0, none⟩) 0 0) 0 [] :=
  ⟨rfl, .inr ⟨w.heap.size + 1 + 1, 0, #[], rfl, Nat.le_refl _, by have := Zk ((w.alloc (.cells #[.slice (some ad) d.blocks.length cb, .slice al d.late.length cl] 26)).alloc (.cells #[.slice none 0 0, .slice none 0 0] 26)) #[] 45; rw [World.size_alloc, World.size_alloc] at this; exact this, Nat.le_refl _, by unfold maxLen; omega, rfl, rfl⟩⟩
 clear hb hcells;go_enter Tryz.func57, Tryz.ntmps57;go_wp2_with (first
  | (at_builtin; refine wpList_append_own _ rfl (.tmp 9) (.tmp 11) 23 rfl (w.heap.size + 1 + 1) 45 i0 (.slice none 0 0) 1 24 Tryz.underlying23 hif hz0 hz1 hz2 rfl (by decide) (.slice (some ⟨w.heap.size + 1 + 1, 0, none⟩) 0 0) 0 [] rfl ho ad d.blocks.length cb us rfl (by omega) hc1 hone (by unfold maxLen; omega) (by omega) (by simp) ?_; intro v2 w2 hown2 hgrow2 _; simp only [Nat.zero_add, List.nil_append] at hown2; have hsl := X8 hown2; obtain ⟨a2, c2, hv2⟩ := hsl; subst hv2; have g2 : Zl _ w2 := Yj (Zb _ _) hgrow2 (fun k hk => by cases hk; simp); have hx2 := (g2.block _ (Za hx)).trans hx; have hy2 := (g2.block _ (Za hy)).trans hy; have g3 := Zb w2 (.cells #[.slice a2 d.blocks.length c2, .slice none 0 0] 26); have hx3 := (g3.block _ (Za hx2)).trans hx2; have hy3 := (g3.block _ (Za hy2)).trans hy2; have x1 := Zc hx3 1 _ rfl))
 have hstart : Zgd S d bits w w2.heap.size #[.slice (some ad) d.blocks.length cb, .slice al d.late.length cl] 0 (w2.alloc (.cells #[.slice a2 d.blocks.length c2, .slice none 0 0] 26)) :=
  ⟨gW.trans (g2.trans g3), hx3, hy3, _, us, Zk _ _ _, hul, fun i hi => (hus i hi).imp fun u hu => ⟨hu.1, (hu.2.grow (gW.trans (g2.trans g3))).mono (fun _ h => .inl h)⟩, Z7 hown2 g3⟩
 clear hx hy hx2 hy2 hx3 hy3 x1 ho hc1 hone hown2 hgrow2 hus hul g2 g3 gW;generalize w2.heap.size = g at *;generalize World.alloc w2 _ = W at *;go_loopw [6, 19] (fun u i wr => ∃ k : Nat, k ≤ d.late.length ∧ u = .int .u64 (((bits % 18446744073709551616).toNat / 2 ^ k : Nat) : Int) ∧ i = .int .i64 k ∧ Zgd S d bits w g #[.slice (some ad) d.blocks.length cb, .slice al d.late.length cl] k wr) (fun _ i _ => d.late.length - (intOf i).toNat)
 case atStart => exact ⟨0, Nat.zero_le _, Zot bits, rfl, hstart⟩
 case round =>
  clear hstart;obtain ⟨k, hk, rfl, rfl, hL⟩ := hrel;by_cases hlt : k < d.late.length
  ·obtain ⟨b, off, hvl, hc0, u, hc1, hu⟩ := (hl.grow hL.1).at k hlt;cases hvl;obtain ⟨au, cu, rfl, -, -⟩ := Yo hu.p;have hK : d.keepTo (Xv bits) (k + 1) = if Xv bits k = true then (d.keepTo (Xv bits) k).set d.late[k].1.toNat d.late[k].2 else d.keepTo (Xv bits) k := by
    show (if Xv bits k = true then _ else _) = _;rw [Q1 _ _ _ hlt]
   have HK : Hid _ := hK;have hpk := hp d.late[k] (List.getElem_mem _);clear hK;generalize d.late[k] = lk at *;obtain ⟨at_, data⟩ := lk;have HB : Hid (Xv bits k = (decide (k < 60) && ((bits % 18446744073709551616).toNat / 2 ^ k % 2 == 1))) := rfl;generalize hUU : (bits % 18446744073709551616).toNat / 2 ^ k = U at *;have HU : Hid _ := hUU;clear hUU;have g1 := Zb wr (.cells #[.int .i64 at_, .slice au data.length cu] 107);have hz := Zk wr #[.int .i64 at_, .slice au data.length cu] 107;have hL1 := hL.grow g1;have hu1 := hu.grow g1;by_cases hon : k < 60 ∧ U % 2 = 1
   ·have hb1 : Xv bits k = true := by rw [HB.out]; simp [hon.1, hon.2]
    have hK1 := HK.out;rw [if_pos hb1] at hK1;have HK1 : Hid _ := hK1;clear hK1 hb1 HK HB hu;obtain ⟨m, rfl⟩ := Int.eq_ofNat_of_zero_le hpk.1;obtain ⟨gL, hLd, hLr, v, us', h3, h4, h5, h6⟩ := hL1;have hbl : (d.keepTo (Xv bits) k).length = d.blocks.length := d.keepTo_length _ _;generalize d.keepTo (Xv bits) k = bs at *;have hrow : ∃ q cap, v = .slice (some ⟨q, 0, none⟩) bs.length cap := by
     rcases h6.2 with ⟨_, e⟩ | ⟨q, cap, cur, e, _⟩
     ·omega
     ·exact ⟨q, cap, e⟩
    obtain ⟨q, cap, rfl⟩ := hrow;have hm1 : m < bs.length := by have := hpk.2; simp only at this; omega
    have y0 := Zc h3 0 _ rfl;obtain ⟨z0, z1⟩ := X1 hz rfl rfl;have fq := h6.frozenAt m;have cq := h6.cellAt m (by omega);have hux : us'[m]? = some us'[m] := List.getElem?_eq_getElem (by omega);rw [hux] at cq;clear hux;generalize us'[m] = xm at cq;have hput := Ziv.put (i := m) h3 h4 h5 h6 (fun b h => by have := hS b h; omega) (hu1.mono (fun _ h => .inl h)) hm1;have hqB : w.heap.size + 1 + 1 ≤ q := (h6.lt q rfl).1;have hBe : Below (w.heap.size + 1 + 1) (wr.alloc (.cells #[.int .i64 (m : Int), .slice au data.length cu] 107)) ((wr.alloc (.cells #[.int .i64 (m : Int), .slice au data.length cu] 107)).setCell ⟨q, m, none⟩ (.slice au data.length cu)) := Below.setCell (Below.refl _ _) hqB _;have hend : Zgd S d bits w g #[.slice (some ad) d.blocks.length cb, .slice (some ⟨b, off, none⟩) d.late.length cl] (k + 1) ((wr.alloc (.cells #[.int .i64 (m : Int), .slice au data.length cu] 107)).setCell ⟨q, m, none⟩ (.slice au data.length cu)) :=
     ⟨Below.trans gL (hBe.mono (by omega)), (hBe.block _ (by omega)).trans hLd, (hBe.block _ (by omega)).trans hLr, by rw [HK1.out]; exact hput⟩
    have hU2 : (U : Int) % 2 = 1 := by omega
    have hk60 : k < 60 := hon.1;clear hput h3 h4 h5 h6 hLd hLr gL hL hBe hz hon hu1;go_wp2_with fail;go_roundw
    case rel => exact ⟨k + 1, by omega, Zfz bits k U HU.out, by simp, hend⟩
    case measure => simp [intOf]; omega
   ·have hb1 : ¬ Xv bits k = true := by
     rw [HB.out]; simp only [Bool.and_eq_true, decide_eq_true_eq, beq_iff_eq]; exact hon
    have hK1 := HK.out;rw [if_neg hb1] at hK1;have hend : Zgd S d bits w g #[.slice (some ad) d.blocks.length cb, .slice (some ⟨b, off, none⟩) d.late.length cl] (k + 1) (wr.alloc (.cells #[.int .i64 at_, .slice au data.length cu] 107)) :=
     ⟨hL1.1, hL1.2.1, hL1.2.2.1, by rw [hK1]; exact hL1.2.2.2⟩
    clear hK1 hb1 HK HB hu hu1 hL1 hL hz;by_cases hk60 : k < 60
    ·have hU2 : (U : Int) % 2 = 0 := by omega
     clear hon;go_wp2_with fail;go_roundw
     case rel => exact ⟨k + 1, by omega, Zfz bits k U HU.out, by simp, hend⟩
     case measure => simp [intOf]; omega
    ·have hk60' : 60 ≤ k := by omega
     clear hon;go_wp2_with fail;go_roundw
     case rel => exact ⟨k + 1, by omega, Zfz bits k U HU.out, by simp, hend⟩
     case measure => simp [intOf]; omega
  ·have hk' : k = d.late.length := by omega
   subst hk';obtain ⟨vo, hbo, hbs⟩ := hL.2.2.2.blocks;obtain ⟨ao, co, rfl⟩ := hbs.p.form;obtain ⟨x0, x1⟩ := X1 hbo rfl rfl;have y0 := Zc hL.2.2.1 0 _ rfl;have y1 := Zc hL.2.2.1 1 _ rfl;have f0 := Zo hL.2.2.1 0;have f1 := Zo hL.2.2.1 1;have cs := Zu;rename_i wr _;obtain ⟨hq1, hq2⟩ := Qa hL.2.2.1 (.slice ao (d.keepTo (Xv bits) d.late.length).length co) (.slice none 0 0);have gE := hq2.grow hL.1 (by omega);have hbE := (hbs.but hq2 (fun h => h.elim (fun h => by have := hS _ h; omega) (fun h => by omega))).mono (Z6 (B := w.heap.size) (by omega));clear hq1 hq2 hbs hbo hL hlt hl;go_wp2_with fail;exact bodyPost_ret (v := .agg #[.slice ao (d.keepTo (Xv bits) d.late.length).length co, .slice none 0 0]) (by simp [results, Tryz.results57, go_sem, y0, y1, cs]) rfl ⟨_, rfl, hbE, gE⟩
end Go.Proofs.YtpdnapbchcdhlacGreat
namespace Go.Proofs.YtpdnapbchcdhlacGreat
set_option maxRecDepth 100000
open Go.RowKit
open Plain Reg
theorem Zlg (l : List UInt8) (m : Nat) (y : Int) (hm : m < l.length) : (l.map bv).set m (.int .u8 ((l[m] ^^^ lo y).toNat : Int)) = (Qz l (m : Int) y).map bv := by
 unfold Qz;rw [if_pos (by omega), show ((m : Int)).toNat = m from by omega, Q1 _ _ _ hm, List.map_set]; rfl
theorem Zbw (l : List UInt8) (n y : Int) : (Qz l n y).length = l.length := by unfold Qz; split <;> simp
theorem Zrz {w : World} {base n : Nat} {e : TypeId} {v : Value} {xs : List Value} (h : w.ownsRow base e 1 v n xs) (hn : 0 < n) : ∃ q cap, v = .slice (some ⟨q, 0, none⟩) n cap := by
 rcases h.2 with ⟨_, e⟩ | ⟨q, cap, cur, e, _⟩
 ·omega
 ·exact ⟨q, cap, e⟩
end Go.Proofs.YtpdnapbchcdhlacGreat
