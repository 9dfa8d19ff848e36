import Derived.Test.YtljogbielflgdacDkLaw
import Derived.Laws.OwnMore
set_option maxHeartbeats 8000000
namespace Go.Proofs.Ytljogbielflgdac
set_option maxRecDepth 100000
open Go.RowKit
open Plain Reg
def Zev (S : Nat → Prop) (d : Dk) (w : World) (c : Array Value) (k : Nat) (wr : World) : Prop :=
 Zt w wr ∧ wr.heap[w.heap.size]? = some (.cells c 27 (0, 0)) ∧ wr.heap[w.heap.size + 1]? = some (.cells #[.slice none 0 0, .slice none 0 0] 27 (0, 0)) ∧
  Zay S (w.heap.size + 1 + 1 + 1) (w.heap.size + 1 + 1) (.slice none 0 0) ((List.range k).map fun (i : Nat) => (d.get (i : Int)).getD []) wr
theorem Zev.grow {S : Nat → Prop} {d : Dk} {w : World} {c : Array Value} {k : Nat} {wr w' : World} (h : Zev S d w c k wr) (hg : Zt wr w') : Zev S d w c k w' :=
 ⟨h.1.trans hg, (hg.block _ (Za h.2.1)).trans h.2.1, (hg.block _ (Za h.2.2.1)).trans h.2.2.1, h.2.2.2.grow hg⟩
theorem Zlz (S : Nat → Prop) (d : Dk) (vb vl : Value) (w : World) (hS : ∀ b, S b → b < w.heap.size) (hb : Yy S w vb d.blocks) (hl : Xb S w vl d.late) (hlen : d.blocks.length ≤ 256) (hm : d.late.length ≤ 999990) (hp : ∀ x ∈ d.late, 0 ≤ x.1) :
  Calls Try.prog 39 #[.agg #[vb, vl]] w fun e w' => ∃ vb', e = .returned (.agg #[vb', .slice none 0 0]) ∧ Yy (Yf S w.heap.size) w' vb' d.flush.blocks ∧ Zt w w' := by
 obtain ⟨ab, cb, rfl⟩ := hb.p.form;obtain ⟨al, cl, rfl⟩ := hl.p.form;have HF : Hid (d.flush.blocks = (List.range d.blocks.length).map fun (i : Nat) => (d.get (i : Int)).getD []) := d.flush_map hp;obtain ⟨i0, hif, hz0, hz1, hz2⟩ := info_parts Jl;go_enter Try.func39, Try.ntmps39;go_wp2_with fail;have hstart : Zev S d w #[.slice ab d.blocks.length cb, .slice al d.late.length cl] 0 (((w.alloc (.cells #[.slice ab d.blocks.length cb, .slice al d.late.length cl] 27)).alloc (.cells #[.slice none 0 0, .slice none 0 0] 27)).alloc (.cells #[.slice none 0 0, .slice none 0 0] 27)) := by
  refine ⟨(Zv _ _ _).trans (Zd _ _), ((Zd _ _).block _ (by simp; omega)).trans (hx1 _ _ _), ((Zd _ _).block _ (by simp)).trans (hy1 _ _ _), Zay.start ?_⟩;have h := Zq ((w.alloc (.cells #[.slice ab d.blocks.length cb, .slice al d.late.length cl] 27)).alloc (.cells #[.slice none 0 0, .slice none 0 0] 27)) #[.slice none 0 0, .slice none 0 0] 27;rw [World.size_alloc, World.size_alloc] at h;exact h
 generalize World.alloc (World.alloc (World.alloc w _) _) _ = W at *;go_loopw [11] (fun i wr => ∃ k : Nat, k ≤ d.blocks.length ∧ i = .int .i64 k ∧ Zev S d w #[.slice ab d.blocks.length cb, .slice al d.late.length cl] k wr) (fun i _ => d.blocks.length - (intOf i).toNat)
 case atStart => exact ⟨0, Nat.zero_le _, rfl, hstart⟩
 case round =>
  clear hstart;obtain ⟨k, hk, rfl, hL⟩ := hrel;by_cases hlt : k < d.blocks.length
  ·have x0 := Zf hL.2.1 0 _ rfl;have x1 := Zf hL.2.1 1 _ rfl;go_wp2_with fail;refine (Jm S d (k : Int) _ _ _ (hb.grow hL.1) (hl.grow hL.1) (by omega)).mono ?_;rintro e w1 ⟨v1, rfl, hv1, g1⟩;have hL1 := hL.grow g1;clear x0 x1 g1 hL;obtain ⟨gL, hLd, hLr, v, us, h3, h4, h5, h6⟩ := hL1;have hlr : ((List.range k).map fun (i : Nat) => (d.get (i : Int)).getD []).length = k := by simp
   have HBS : Hid (((List.range k).map fun (i : Nat) => (d.get (i : Int)).getD []) ++ [(d.get (k : Int)).getD []] = (List.range (k + 1)).map fun (i : Nat) => (d.get (i : Int)).getD []) := by show _ ++ _ = _; rw [List.range_succ]; simp
   generalize ((List.range k).map fun (i : Nat) => (d.get (i : Int)).getD []) = bs at *;subst hlr;generalize (d.get (bs.length : Int)).getD [] = b1 at *;obtain ⟨a1, c1, rfl, -, -⟩ := Z7 hv1.p;obtain ⟨av, cv, rfl⟩ := Y9 h6;have y0 := Zf h3 0 _ rfl;have hgs : w.heap.size + 1 + 1 < w1.heap.size := Za h3;go_wp2_with (first
    | (at_builtin; refine wpList_append_own _ rfl (.tmp 21) (.tmp 23) 24 rfl (w.heap.size + 1 + 1 + 1) 52 i0 (.slice none 0 0) 1 24 Try.underlying24 hif hz0 hz1 hz2 rfl (by decide) (.slice av bs.length cv) bs.length us rfl (h6.alloc _) ⟨w1.heap.size, 0, none⟩ 1 1 [.slice a1 b1.length c1] rfl rfl (fun j u hj => Znj w1 _ _ j u hj) (by intro u hu; simp at hu; subst hu; rfl) (by unfold maxLen; omega) (by omega) (by simp; omega) ?_; intro v3 w3 hown3 hgrow3 _; have hb3 := Zkv h6 (by decide) h3 hgrow3; have f0 := Zk hb3 0; have hst := Zay.step h3 h4 h5 h6 (fun b h => by have := hS b h; omega) (by omega) (hv1.mono (fun _ h => .inl h)) hgrow3 hown3; have hsl := Y9 hown3; obtain ⟨a3, c3, hv3⟩ := hsl; subst hv3; have y3 := Zf hb3 0 _ rfl; have cs := Zz; clear y0))
   go_roundw
   case rel =>
    have hBx := Zll hgs h6 hgrow3;have hB2 : Below (w.heap.size + 1 + 1) w1 (w3.setCell ⟨w.heap.size + 1 + 1, 0, none⟩ (.slice a3 (bs.length + 1) c3)) := Below.setCell (hBx.mono (by omega)) (by show w.heap.size + 1 + 1 ≤ w.heap.size + 1 + 1; omega) _;refine ⟨bs.length + 1, by omega, by simp, Below.trans gL (hB2.mono (by omega)), (hB2.block _ (by omega)).trans hLd, (hB2.block _ (by omega)).trans hLr, by rw [← HBS.out]; exact hst⟩
   case measure => simp [intOf]; omega
  ·have hk' : k = d.blocks.length := by omega
   subst hk';obtain ⟨vo, hbo, hbs⟩ := hL.2.2.2.blocks;obtain ⟨ao, co, rfl⟩ := hbs.p.form;obtain ⟨x0, x1⟩ := Yl hbo rfl rfl;have y0 := Zf hL.2.2.1 0 _ rfl;have y1 := Zf hL.2.2.1 1 _ rfl;have f0 := Zk hL.2.2.1 0;have f1 := Zk hL.2.2.1 1;have cs := Zz;rename_i wr _;obtain ⟨hq1, hq2⟩ := Xx hL.2.2.1 (.slice ao (((List.range d.blocks.length).map fun (i : Nat) => (d.get (i : Int)).getD []).length) co) (.slice none 0 0);have gE := hq2.grow hL.1 (by omega);have hbE := (hbs.but hq2 (fun h => h.elim (fun h => by have := hS _ h; omega) (fun h => by omega))).mono (Xk (B := w.heap.size) (by omega));rw [← HF.out, Dk.flush_length] at hbE gE;clear hq1 hq2 hbs hbo hL hlt hb hl;go_wp2_with fail;exact bodyPost_ret (v := .agg #[.slice ao d.blocks.length co, .slice none 0 0]) (by simp [results, Try.results39, go_sem, y0, y1, cs]) rfl ⟨_, rfl, hbE, gE⟩
end Go.Proofs.Ytljogbielflgdac
namespace Go.Proofs.Ytljogbielflgdac
set_option maxRecDepth 100000
open Go.RowKit
open Plain Reg
theorem Zj8 {S : Nat → Prop} {w : World} {v : Value} {bs : List (List UInt8)} (h : Yy S w v bs) (h0 : 0 < bs.length) :
  ∃ (ad : Addr) (cap : Nat) (us : List Value), v = .slice (some ad) bs.length cap ∧ us.length = bs.length ∧ (∀ (j : Nat) u, us[j]? = some u → w.cell? (ad.add j) = some u) ∧ (∀ i (hi : i < bs.length), ∃ u, us[i]? = some u ∧ Yb S w u bs[i]) := by
 rcases h with ⟨ao, cap, rfl, rfl, h1⟩ | ⟨b, off, cap, hSb, rfl, h1, hc⟩
 ·simp at h0
 ·have hex : ∃ f : Nat → Value, ∀ i (hi : i < bs.length), w.cell? ⟨b, off + i, none⟩ = some (f i) ∧ Yb S w (f i) bs[i] := by
   refine ⟨fun i => if hi : i < bs.length then (hc i hi).choose else undef, fun i hi => ?_⟩;simp only [hi, dif_pos];exact (hc i hi).choose_spec
  obtain ⟨f, hf⟩ := hex;refine ⟨_, cap, (List.range bs.length).map f, rfl, by simp, fun j u hj => ?_, fun i hi => ⟨f i, by simp [hi], (hf i hi).2⟩⟩;have hjl : j < bs.length := by
   rcases Nat.lt_or_ge j bs.length with h | h
   ·exact h
   ·rw [List.getElem?_eq_none (by simpa using h)] at hj; cases hj
  have e : u = f j := by simp [hjl] at hj; exact hj.symm
  subst e;have e2 : ∀ m, (⟨b, off, none⟩ : Addr).add m = ⟨b, off + m, none⟩ := fun m => by simp [Addr.add]
  rw [e2]; exact (hf j hjl).1
theorem Zay.put {S0 : Nat → Prop} {B g q cap i : Nat} {lv u : Value} {us : List Value} {bs : List (List UInt8)} {b : List UInt8} {w : World} (h3 : w.heap[g]? = some (.cells #[.slice (some ⟨q, 0, none⟩) bs.length cap, lv] 27 (0, 0))) (h4 : us.length = bs.length)
  (h5 : ∀ i (hi : i < bs.length), ∃ u, us[i]? = some u ∧ Yb (InS S0 B w) w u bs[i]) (h6 : w.ownsRow B 52 1 (.slice (some ⟨q, 0, none⟩) bs.length cap) bs.length us) (hS0 : ∀ b, S0 b → b < B) (hu : Yb (InS S0 B w) w u b) (hi : i < bs.length) : Zay S0 B g lv (bs.set i b) (w.setCell ⟨q, i, none⟩ u) := by
 have hq : ∃ cur, w.heap[q]? = some (.cells cur 52 (0, 0)) := by
  rcases h6.2 with ⟨e, _⟩ | ⟨q', cap', cur, e, _, hh, _⟩
  ·cases e
  ·cases e; exact ⟨cur, hh⟩
 obtain ⟨cur, hq⟩ := hq;have hqB : B ≤ q := (h6.lt q rfl).1;have keep : ∀ b, InS S0 B w b → (w.setCell ⟨q, i, none⟩ u).heap[b]? = w.heap[b]? := by
  intro b hSb;refine Below.heap_setCell _ _ _ _ ?_;rintro rfl;rcases hSb with h | ⟨_, c, f, h⟩
  ·have := hS0 _ h; omega
  ·rw [hq] at h; cases h
 have keep' : ∀ b, InS S0 B w b → InS S0 B (w.setCell ⟨q, i, none⟩ u) b := fun b h => X7 h (fun x => x) fun ⟨k1, c, f, k2⟩ => ⟨k1, c, f, (keep b h).trans k2⟩
 have hgq : g ≠ q := by rintro rfl; rw [h3] at hq; cases hq
 refine ⟨.slice (some ⟨q, 0, none⟩) bs.length cap, us.set i u, ?_, by simp [h4], fun j hj => ?_, ?_⟩
 ·rw [Below.heap_setCell _ _ _ _ hgq]; exact h3
 ·rw [List.length_set] at hj;by_cases e : i = j
  ·subst e;refine ⟨u, by rw [List.getElem?_set]; simp [h4, hi], ?_⟩;simp only [List.getElem_set_self];exact (hu.keep keep).mono keep'
  ·obtain ⟨x, e1, e2⟩ := h5 j hj;refine ⟨x, by rw [List.getElem?_set]; simp [e, e1], ?_⟩;rw [List.getElem_set_ne e];exact (e2.keep keep).mono keep'
 ·rw [List.length_set]; exact (h6.stored i u).1
def Zet (S : Nat → Prop) (d : Dk) (bits : Int) (w : World) (g : Nat) (c : Array Value) (k : Nat) (wr : World) : Prop :=
 Zt w wr ∧ wr.heap[w.heap.size]? = some (.cells c 27 (0, 0)) ∧ wr.heap[w.heap.size + 1]? = some (.cells #[.slice none 0 0, .slice none 0 0] 27 (0, 0)) ∧
  Zay S (w.heap.size + 1 + 1) g (.slice none 0 0) (d.keepTo (Q5 bits) k) wr
theorem Zet.grow {S : Nat → Prop} {d : Dk} {bits : Int} {w : World} {g : Nat} {c : Array Value} {k : Nat} {wr w' : World} (h : Zet S d bits w g c k wr) (hg : Zt wr w') : Zet S d bits w g c k w' :=
 ⟨h.1.trans hg, (hg.block _ (Za h.2.1)).trans h.2.1, (hg.block _ (Za h.2.2.1)).trans h.2.2.1, h.2.2.2.grow hg⟩
theorem Zlb (bits : Int) : Value.int .u64 (IntKind.u64.wrap bits) = .int .u64 (((bits % 18446744073709551616).toNat / 2 ^ 0 : Nat) : Int) := by
 rw [IntKind.wrap_u64, Nat.pow_zero, Nat.div_one]
 congr 1
 omega
theorem Zed (bits : Int) (k U : Nat) (h : (bits % 18446744073709551616).toNat / 2 ^ k = U) : Value.int .u64 (IntKind.u64.wrap ((U : Int) / 2)) = .int .u64 (((bits % 18446744073709551616).toNat / 2 ^ (k + 1) : Nat) : Int) := by
 rw [Nat.pow_succ, ← Nat.div_div_eq_div_mul, h, IntKind.wrap_u64];have hle : U ≤ (bits % 18446744073709551616).toNat := by rw [← h]; exact Nat.div_le_self _ _
 congr 1
 omega
theorem Znr (S : Nat → Prop) (d : Dk) (bits : Int) (vb vl : Value) (w : World) (hS : ∀ b, S b → b < w.heap.size) (hb : Yy S w vb d.blocks) (hl : Xb S w vl d.late) (h0 : 0 < d.blocks.length) (hlen : d.blocks.length ≤ 256) (hm : d.late.length ≤ 999990) (hp : ∀ x ∈ d.late, 0 ≤ x.1 ∧ x.1 < (d.blocks.length : Int)) :
  Calls Try.prog 24 #[.agg #[vb, vl], .int .i64 bits] w fun e w' => ∃ vb', e = .returned (.agg #[vb', .slice none 0 0]) ∧ Yy (Yf S w.heap.size) w' vb' (d.keep bits).blocks ∧ Zt w w' := by
 obtain ⟨ad, cb, us, rfl, hul, hcells, hus⟩ := Zj8 hb h0;obtain ⟨al, cl, rfl⟩ := hl.p.form;obtain ⟨i0, hif, hz0, hz1, hz2⟩ := info_parts Jl;have hone : ∀ u ∈ us, u.oneCell' = true := by
  intro u hu;obtain ⟨i, hi, rfl⟩ := List.mem_iff_getElem.1 hu;obtain ⟨u', h2, h3⟩ := hus i (by omega);rw [List.getElem?_eq_getElem hi] at h2;cases h2;exact Zfo h3.p
 have hc1 : ∀ (j : Nat) u, us[j]? = some u → (((w.alloc (.cells #[.slice (some ad) d.blocks.length cb, .slice al d.late.length cl] 27)).alloc (.cells #[.slice none 0 0, .slice none 0 0] 27)).alloc (.cells #[] 52)).cell? (ad.add j) = some u := by
  intro j u hj;have h2 := hcells j u hj;rw [← h2];exact Below.cell ((Zv _ _ _).trans (Zd _ _)) (Zo h2)
 have hx := hx1 w #[.slice (some ad) d.blocks.length cb, .slice al d.late.length cl] #[.slice none 0 0, .slice none 0 0];have hy := hy1 w #[.slice (some ad) d.blocks.length cb, .slice al d.late.length cl] #[.slice none 0 0, .slice none 0 0];have gW := Zv w (.cells #[.slice (some ad) d.blocks.length cb, .slice al d.late.length cl] 27) (.cells #[.slice none 0 0, .slice none 0 0] 27);have ho : (((w.alloc (.cells #[.slice (some ad) d.blocks.length cb, .slice al d.late.length cl] 27)).alloc (.cells #[.slice none 0 0, .slice none 0 0] 27)).alloc (.cells #[] 52)).ownsRow (w.heap.size + 1 + 1) 52 1 (.slice (some ⟨w.heap.size + 1 + 1, 0, none⟩) 0 0) 0 [] :=
  ⟨rfl, .inr ⟨w.heap.size + 1 + 1, 0, #[], rfl, Nat.le_refl _, by have := Zq ((w.alloc (.cells #[.slice (some ad) d.blocks.length cb, .slice al d.late.length cl] 27)).alloc (.cells #[.slice none 0 0, .slice none 0 0] 27)) #[] 52; rw [World.size_alloc, World.size_alloc] at this; exact this, Nat.le_refl _, by unfold maxLen; omega, rfl, rfl⟩⟩
 clear hb hcells;go_enter Try.func24, Try.ntmps24;go_wp2_with (first
  | (at_builtin; refine wpList_append_own _ rfl (.tmp 9) (.tmp 11) 24 rfl (w.heap.size + 1 + 1) 52 i0 (.slice none 0 0) 1 24 Try.underlying24 hif hz0 hz1 hz2 rfl (by decide) (.slice (some ⟨w.heap.size + 1 + 1, 0, none⟩) 0 0) 0 [] rfl ho ad d.blocks.length cb us rfl (by omega) hc1 hone (by unfold maxLen; omega) (by omega) (by simp) ?_; intro v2 w2 hown2 hgrow2 _; simp only [Nat.zero_add, List.nil_append] at hown2; have hsl := Y9 hown2; obtain ⟨a2, c2, hv2⟩ := hsl; subst hv2; have g2 : Zt _ w2 := Ye (Zd _ _) hgrow2 (fun k hk => by cases hk; simp); have hx2 := (g2.block _ (Za hx)).trans hx; have hy2 := (g2.block _ (Za hy)).trans hy; have g3 := Zd w2 (.cells #[.slice a2 d.blocks.length c2, .slice none 0 0] 27); have hx3 := (g3.block _ (Za hx2)).trans hx2; have hy3 := (g3.block _ (Za hy2)).trans hy2; have x1 := Zf hx3 1 _ rfl))
 have hstart : Zet S d bits w w2.heap.size #[.slice (some ad) d.blocks.length cb, .slice al d.late.length cl] 0 (w2.alloc (.cells #[.slice a2 d.blocks.length c2, .slice none 0 0] 27)) :=
  ⟨gW.trans (g2.trans g3), hx3, hy3, _, us, Zq _ _ _, hul, fun i hi => (hus i hi).imp fun u hu => ⟨hu.1, (hu.2.grow (gW.trans (g2.trans g3))).mono (fun _ h => .inl h)⟩, Ya hown2 g3⟩
 clear hx hy hx2 hy2 hx3 hy3 x1 ho hc1 hone hown2 hgrow2 hus hul g2 g3 gW;generalize w2.heap.size = g at *;generalize World.alloc w2 _ = W at *;go_loopw [6, 19] (fun u i wr => ∃ k : Nat, k ≤ d.late.length ∧ u = .int .u64 (((bits % 18446744073709551616).toNat / 2 ^ k : Nat) : Int) ∧ i = .int .i64 k ∧ Zet S d bits w g #[.slice (some ad) d.blocks.length cb, .slice al d.late.length cl] k wr) (fun _ i _ => d.late.length - (intOf i).toNat)
 case atStart => exact ⟨0, Nat.zero_le _, Zlb bits, rfl, hstart⟩
 case round =>
  clear hstart;obtain ⟨k, hk, rfl, rfl, hL⟩ := hrel;by_cases hlt : k < d.late.length
  ·obtain ⟨b, off, hvl, hc0, u, hc1, hu⟩ := (hl.grow hL.1).at k hlt;cases hvl;obtain ⟨au, cu, rfl, -, -⟩ := Z7 hu.p;have hK : d.keepTo (Q5 bits) (k + 1) = if Q5 bits k = true then (d.keepTo (Q5 bits) k).set d.late[k].1.toNat d.late[k].2 else d.keepTo (Q5 bits) k := by
    show (if Q5 bits k = true then _ else _) = _;rw [Vf _ _ _ hlt]
   have HK : Hid _ := hK;have hpk := hp d.late[k] (List.getElem_mem _);clear hK;generalize d.late[k] = lk at *;obtain ⟨at_, data⟩ := lk;have HB : Hid (Q5 bits k = (decide (k < 60) && ((bits % 18446744073709551616).toNat / 2 ^ k % 2 == 1))) := rfl;generalize hUU : (bits % 18446744073709551616).toNat / 2 ^ k = U at *;have HU : Hid _ := hUU;clear hUU;have g1 := Zd wr (.cells #[.int .i64 at_, .slice au data.length cu] 76);have hz := Zq wr #[.int .i64 at_, .slice au data.length cu] 76;have hL1 := hL.grow g1;have hu1 := hu.grow g1;by_cases hon : k < 60 ∧ U % 2 = 1
   ·have hb1 : Q5 bits k = true := by rw [HB.out]; simp [hon.1, hon.2]
    have hK1 := HK.out;rw [if_pos hb1] at hK1;have HK1 : Hid _ := hK1;clear hK1 hb1 HK HB hu;obtain ⟨m, rfl⟩ := Int.eq_ofNat_of_zero_le hpk.1;obtain ⟨gL, hLd, hLr, v, us', h3, h4, h5, h6⟩ := hL1;have hbl : (d.keepTo (Q5 bits) k).length = d.blocks.length := d.keepTo_length _ _;generalize d.keepTo (Q5 bits) k = bs at *;have hrow : ∃ q cap, v = .slice (some ⟨q, 0, none⟩) bs.length cap := by
     rcases h6.2 with ⟨_, e⟩ | ⟨q, cap, cur, e, _⟩
     ·omega
     ·exact ⟨q, cap, e⟩
    obtain ⟨q, cap, rfl⟩ := hrow;have hm1 : m < bs.length := by have := hpk.2; simp only at this; omega
    have y0 := Zf h3 0 _ rfl;obtain ⟨z0, z1⟩ := Yl hz rfl rfl;have fq := h6.frozenAt m;have cq := h6.cellAt m (by omega);have hux : us'[m]? = some us'[m] := List.getElem?_eq_getElem (by omega);rw [hux] at cq;clear hux;generalize us'[m] = xm at cq;have hput := Zay.put (i := m) h3 h4 h5 h6 (fun b h => by have := hS b h; omega) (hu1.mono (fun _ h => .inl h)) hm1;have hqB : w.heap.size + 1 + 1 ≤ q := (h6.lt q rfl).1;have hBe : Below (w.heap.size + 1 + 1) (wr.alloc (.cells #[.int .i64 (m : Int), .slice au data.length cu] 76)) ((wr.alloc (.cells #[.int .i64 (m : Int), .slice au data.length cu] 76)).setCell ⟨q, m, none⟩ (.slice au data.length cu)) := Below.setCell (Below.refl _ _) hqB _;have hend : Zet S d bits w g #[.slice (some ad) d.blocks.length cb, .slice (some ⟨b, off, none⟩) d.late.length cl] (k + 1) ((wr.alloc (.cells #[.int .i64 (m : Int), .slice au data.length cu] 76)).setCell ⟨q, m, none⟩ (.slice au data.length cu)) :=
     ⟨Below.trans gL (hBe.mono (by omega)), (hBe.block _ (by omega)).trans hLd, (hBe.block _ (by omega)).trans hLr, by rw [HK1.out]; exact hput⟩
    have hU2 : (U : Int) % 2 = 1 := by omega
    have hk60 : k < 60 := hon.1;clear hput h3 h4 h5 h6 hLd hLr gL hL hBe hz hon hu1;go_wp2_with fail;go_roundw
    case rel => exact ⟨k + 1, by omega, Zed bits k U HU.out, by simp, hend⟩
    case measure => simp [intOf]; omega
   ·have hb1 : ¬ Q5 bits k = true := by
     rw [HB.out]; simp only [Bool.and_eq_true, decide_eq_true_eq, beq_iff_eq]; exact hon
    have hK1 := HK.out;rw [if_neg hb1] at hK1;have hend : Zet S d bits w g #[.slice (some ad) d.blocks.length cb, .slice (some ⟨b, off, none⟩) d.late.length cl] (k + 1) (wr.alloc (.cells #[.int .i64 at_, .slice au data.length cu] 76)) :=
     ⟨hL1.1, hL1.2.1, hL1.2.2.1, by rw [hK1]; exact hL1.2.2.2⟩
    clear hK1 hb1 HK HB hu hu1 hL1 hL hz;by_cases hk60 : k < 60
    ·have hU2 : (U : Int) % 2 = 0 := by omega
     clear hon;go_wp2_with fail;go_roundw
     case rel => exact ⟨k + 1, by omega, Zed bits k U HU.out, by simp, hend⟩
     case measure => simp [intOf]; omega
    ·have hk60' : 60 ≤ k := by omega
     clear hon;go_wp2_with fail;go_roundw
     case rel => exact ⟨k + 1, by omega, Zed bits k U HU.out, by simp, hend⟩
     case measure => simp [intOf]; omega
  ·have hk' : k = d.late.length := by omega
   subst hk';obtain ⟨vo, hbo, hbs⟩ := hL.2.2.2.blocks;obtain ⟨ao, co, rfl⟩ := hbs.p.form;obtain ⟨x0, x1⟩ := Yl hbo rfl rfl;have y0 := Zf hL.2.2.1 0 _ rfl;have y1 := Zf hL.2.2.1 1 _ rfl;have f0 := Zk hL.2.2.1 0;have f1 := Zk hL.2.2.1 1;have cs := Zz;rename_i wr _;obtain ⟨hq1, hq2⟩ := Xx hL.2.2.1 (.slice ao (d.keepTo (Q5 bits) d.late.length).length co) (.slice none 0 0);have gE := hq2.grow hL.1 (by omega);have hbE := (hbs.but hq2 (fun h => h.elim (fun h => by have := hS _ h; omega) (fun h => by omega))).mono (Xk (B := w.heap.size) (by omega));clear hq1 hq2 hbs hbo hL hlt hl;go_wp2_with fail;exact bodyPost_ret (v := .agg #[.slice ao (d.keepTo (Q5 bits) d.late.length).length co, .slice none 0 0]) (by simp [results, Try.results24, go_sem, y0, y1, cs]) rfl ⟨_, rfl, hbE, gE⟩
end Go.Proofs.Ytljogbielflgdac
namespace Go.Proofs.Ytljogbielflgdac
set_option maxRecDepth 100000
open Go.RowKit
open Plain Reg
end Go.Proofs.Ytljogbielflgdac
