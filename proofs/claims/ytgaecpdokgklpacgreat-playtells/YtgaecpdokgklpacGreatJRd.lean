import Derived.Test.YtgaecpdokgklpacGreatDkLaw
import Derived.Laws.OwnMore
set_option maxHeartbeats 8000000
namespace Go.Proofs.YtgaecpdokgklpacGreat
set_option maxRecDepth 100000
open Go.RowKit
open Plain Reg
def Zgj (S : Nat → Prop) (d : Dk) (w : World) (c : Array Value) (k : Nat) (wr : World) : Prop :=
 Zo w wr ∧ wr.heap[w.heap.size]? = some (.cells c 26 (0, 0)) ∧ wr.heap[w.heap.size + 1]? = some (.cells #[.slice none 0 0, .slice none 0 0] 26 (0, 0)) ∧
  Zac S (w.heap.size + 1 + 1 + 1) (w.heap.size + 1 + 1) (.slice none 0 0) ((List.range k).map fun (i : Nat) => (d.get (i : Int)).getD []) wr
theorem Zgj.grow {S : Nat → Prop} {d : Dk} {w : World} {c : Array Value} {k : Nat} {wr w' : World} (h : Zgj S d w c k wr) (hg : Zo wr w') : Zgj S d w c k w' :=
 ⟨h.1.trans hg, (hg.block _ (Za h.2.1)).trans h.2.1, (hg.block _ (Za h.2.2.1)).trans h.2.2.1, h.2.2.2.grow hg⟩
theorem Zpx (S : Nat → Prop) (d : Dk) (vb vl : Value) (w : World) (hS : ∀ b, S b → b < w.heap.size) (hb : Y2 S w vb d.blocks) (hl : Xk S w vl d.late) (hlen : d.blocks.length ≤ 256) (hm : d.late.length ≤ 999990) (hp : ∀ x ∈ d.late, 0 ≤ x.1) :
  Calls Tryz.prog 32 #[.agg #[vb, vl]] w fun e w' => ∃ vb', e = .returned (.agg #[vb', .slice none 0 0]) ∧ Y2 (Zw S w.heap.size) w' vb' d.flush.blocks ∧ Zo w w' := by
 obtain ⟨ab, cb, rfl⟩ := hb.p.form;obtain ⟨al, cl, rfl⟩ := hl.p.form;have HF : Hid (d.flush.blocks = (List.range d.blocks.length).map fun (i : Nat) => (d.get (i : Int)).getD []) := d.flush_map hp;obtain ⟨i0, hif, hz0, hz1, hz2⟩ := info_parts K3;go_enter Tryz.func32, Tryz.ntmps32;go_wp2_with fail;have hstart : Zgj S d w #[.slice ab d.blocks.length cb, .slice al d.late.length cl] 0 (((w.alloc (.cells #[.slice ab d.blocks.length cb, .slice al d.late.length cl] 26)).alloc (.cells #[.slice none 0 0, .slice none 0 0] 26)).alloc (.cells #[.slice none 0 0, .slice none 0 0] 26)) := by
  refine ⟨(Zs _ _ _).trans (Zc _ _), ((Zc _ _).block _ (by simp; omega)).trans (hx1 _ _ _), ((Zc _ _).block _ (by simp)).trans (hy1 _ _ _), Zac.start ?_⟩;have h := Zj ((w.alloc (.cells #[.slice ab d.blocks.length cb, .slice al d.late.length cl] 26)).alloc (.cells #[.slice none 0 0, .slice none 0 0] 26)) #[.slice none 0 0, .slice none 0 0] 26;rw [World.size_alloc, World.size_alloc] at h;exact h
 generalize World.alloc (World.alloc (World.alloc w _) _) _ = W at *;go_loopw [11] (fun i wr => ∃ k : Nat, k ≤ d.blocks.length ∧ i = .int .i64 k ∧ Zgj S d w #[.slice ab d.blocks.length cb, .slice al d.late.length cl] k wr) (fun i _ => d.blocks.length - (intOf i).toNat)
 case atStart => exact ⟨0, Nat.zero_le _, rfl, hstart⟩
 case round =>
  clear hstart;obtain ⟨k, hk, rfl, hL⟩ := hrel;by_cases hlt : k < d.blocks.length
  ·have x0 := Zd hL.2.1 0 _ rfl;have x1 := Zd hL.2.1 1 _ rfl;go_wp2_with fail;refine (Zao S d (k : Int) _ _ _ (hb.grow hL.1) (hl.grow hL.1) (by omega)).mono ?_;rintro e w1 ⟨v1, rfl, hv1, g1⟩;have hL1 := hL.grow g1;clear x0 x1 g1 hL;obtain ⟨gL, hLd, hLr, v, us, h3, h4, h5, h6⟩ := hL1;have hlr : ((List.range k).map fun (i : Nat) => (d.get (i : Int)).getD []).length = k := by simp
   have HBS : Hid (((List.range k).map fun (i : Nat) => (d.get (i : Int)).getD []) ++ [(d.get (k : Int)).getD []] = (List.range (k + 1)).map fun (i : Nat) => (d.get (i : Int)).getD []) := by show _ ++ _ = _; rw [List.range_succ]; simp
   generalize ((List.range k).map fun (i : Nat) => (d.get (i : Int)).getD []) = bs at *;subst hlr;generalize (d.get (bs.length : Int)).getD [] = b1 at *;obtain ⟨a1, c1, rfl, -, -⟩ := Yl hv1.p;obtain ⟨av, cv, rfl⟩ := Y4 h6;have y0 := Zd h3 0 _ rfl;have hgs : w.heap.size + 1 + 1 < w1.heap.size := Za h3;go_wp2_with (first
    | (at_builtin; refine wpList_append_own _ rfl (.tmp 21) (.tmp 23) 23 rfl (w.heap.size + 1 + 1 + 1) 45 i0 (.slice none 0 0) 1 24 Tryz.underlying23 hif hz0 hz1 hz2 rfl (by decide) (.slice av bs.length cv) bs.length us rfl (h6.alloc _) ⟨w1.heap.size, 0, none⟩ 1 1 [.slice a1 b1.length c1] rfl rfl (fun j u hj => Zfk w1 _ _ j u hj) (by intro u hu; simp at hu; subst hu; rfl) (by unfold maxLen; omega) (by omega) (by simp; omega) ?_; intro v3 w3 hown3 hgrow3 _; have hb3 := Zep h6 (by decide) h3 hgrow3; have f0 := Zl hb3 0; have hst := Zac.step h3 h4 h5 h6 (fun b h => by have := hS b h; omega) (by omega) (hv1.mono (fun _ h => .inl h)) hgrow3 hown3; have hsl := Y4 hown3; obtain ⟨a3, c3, hv3⟩ := hsl; subst hv3; have y3 := Zd hb3 0 _ rfl; have cs := Zv; clear y0))
   go_roundw
   case rel =>
    have hBx := Zdp hgs h6 hgrow3;have hB2 : Below (w.heap.size + 1 + 1) w1 (w3.setCell ⟨w.heap.size + 1 + 1, 0, none⟩ (.slice a3 (bs.length + 1) c3)) := Below.setCell (hBx.mono (by omega)) (by show w.heap.size + 1 + 1 ≤ w.heap.size + 1 + 1; omega) _;refine ⟨bs.length + 1, by omega, by simp, Below.trans gL (hB2.mono (by omega)), (hB2.block _ (by omega)).trans hLd, (hB2.block _ (by omega)).trans hLr, by rw [← HBS.out]; exact hst⟩
   case measure => simp [intOf]; omega
  ·have hk' : k = d.blocks.length := by omega
   subst hk';obtain ⟨vo, hbo, hbs⟩ := hL.2.2.2.blocks;obtain ⟨ao, co, rfl⟩ := hbs.p.form;obtain ⟨x0, x1⟩ := Xb hbo rfl rfl;have y0 := Zd hL.2.2.1 0 _ rfl;have y1 := Zd hL.2.2.1 1 _ rfl;have f0 := Zl hL.2.2.1 0;have f1 := Zl hL.2.2.1 1;have cs := Zv;rename_i wr _;obtain ⟨hq1, hq2⟩ := Xq hL.2.2.1 (.slice ao (((List.range d.blocks.length).map fun (i : Nat) => (d.get (i : Int)).getD []).length) co) (.slice none 0 0);have gE := hq2.grow hL.1 (by omega);have hbE := (hbs.but hq2 (fun h => h.elim (fun h => by have := hS _ h; omega) (fun h => by omega))).mono (Z0 (B := w.heap.size) (by omega));rw [← HF.out, Dk.flush_length] at hbE gE;clear hq1 hq2 hbs hbo hL hlt hb hl;go_wp2_with fail;exact bodyPost_ret (v := .agg #[.slice ao d.blocks.length co, .slice none 0 0]) (by simp [results, Tryz.results32, go_sem, y0, y1, cs]) rfl ⟨_, rfl, hbE, gE⟩
end Go.Proofs.YtgaecpdokgklpacGreat
namespace Go.Proofs.YtgaecpdokgklpacGreat
set_option maxRecDepth 100000
open Go.RowKit
open Plain Reg
theorem Zm5 {S : Nat → Prop} {w : World} {v : Value} {bs : List (List UInt8)} (h : Y2 S w v bs) (h0 : 0 < bs.length) :
  ∃ (ad : Addr) (cap : Nat) (us : List Value), v = .slice (some ad) bs.length cap ∧ us.length = bs.length ∧ (∀ (j : Nat) u, us[j]? = some u → w.cell? (ad.add j) = some u) ∧ (∀ i (hi : i < bs.length), ∃ u, us[i]? = some u ∧ Z3 S w u bs[i]) := by
 rcases h with ⟨ao, cap, rfl, rfl, h1⟩ | ⟨b, off, cap, hSb, rfl, h1, hc⟩
 ·simp at h0
 ·have hex : ∃ f : Nat → Value, ∀ i (hi : i < bs.length), w.cell? ⟨b, off + i, none⟩ = some (f i) ∧ Z3 S w (f i) bs[i] := by
   refine ⟨fun i => if hi : i < bs.length then (hc i hi).choose else undef, fun i hi => ?_⟩;simp only [hi, dif_pos];exact (hc i hi).choose_spec
  obtain ⟨f, hf⟩ := hex;refine ⟨_, cap, (List.range bs.length).map f, rfl, by simp, fun j u hj => ?_, fun i hi => ⟨f i, by simp [hi], (hf i hi).2⟩⟩;have hjl : j < bs.length := by
   rcases Nat.lt_or_ge j bs.length with h | h
   ·exact h
   ·rw [List.getElem?_eq_none (by simpa using h)] at hj; cases hj
  have e : u = f j := by simp [hjl] at hj; exact hj.symm
  subst e;have e2 : ∀ m, (⟨b, off, none⟩ : Addr).add m = ⟨b, off + m, none⟩ := fun m => by simp [Addr.add]
  rw [e2]; exact (hf j hjl).1
theorem Zac.put {S0 : Nat → Prop} {B g q cap i : Nat} {lv u : Value} {us : List Value} {bs : List (List UInt8)} {b : List UInt8} {w : World} (h3 : w.heap[g]? = some (.cells #[.slice (some ⟨q, 0, none⟩) bs.length cap, lv] 26 (0, 0))) (h4 : us.length = bs.length)
  (h5 : ∀ i (hi : i < bs.length), ∃ u, us[i]? = some u ∧ Z3 (InS S0 B w) w u bs[i]) (h6 : w.ownsRow B 45 1 (.slice (some ⟨q, 0, none⟩) bs.length cap) bs.length us) (hS0 : ∀ b, S0 b → b < B) (hu : Z3 (InS S0 B w) w u b) (hi : i < bs.length) : Zac S0 B g lv (bs.set i b) (w.setCell ⟨q, i, none⟩ u) := by
 have hq : ∃ cur, w.heap[q]? = some (.cells cur 45 (0, 0)) := by
  rcases h6.2 with ⟨e, _⟩ | ⟨q', cap', cur, e, _, hh, _⟩
  ·cases e
  ·cases e; exact ⟨cur, hh⟩
 obtain ⟨cur, hq⟩ := hq;have hqB : B ≤ q := (h6.lt q rfl).1;have keep : ∀ b, InS S0 B w b → (w.setCell ⟨q, i, none⟩ u).heap[b]? = w.heap[b]? := by
  intro b hSb;refine Below.heap_setCell _ _ _ _ ?_;rintro rfl;rcases hSb with h | ⟨_, c, f, h⟩
  ·have := hS0 _ h; omega
  ·rw [hq] at h; cases h
 have keep' : ∀ b, InS S0 B w b → InS S0 B (w.setCell ⟨q, i, none⟩ u) b := fun b h => Xm h (fun x => x) fun ⟨k1, c, f, k2⟩ => ⟨k1, c, f, (keep b h).trans k2⟩
 have hgq : g ≠ q := by rintro rfl; rw [h3] at hq; cases hq
 refine ⟨.slice (some ⟨q, 0, none⟩) bs.length cap, us.set i u, ?_, by simp [h4], fun j hj => ?_, ?_⟩
 ·rw [Below.heap_setCell _ _ _ _ hgq]; exact h3
 ·rw [List.length_set] at hj;by_cases e : i = j
  ·subst e;refine ⟨u, by rw [List.getElem?_set]; simp [h4, hi], ?_⟩;simp only [List.getElem_set_self];exact (hu.keep keep).mono keep'
  ·obtain ⟨x, e1, e2⟩ := h5 j hj;refine ⟨x, by rw [List.getElem?_set]; simp [e, e1], ?_⟩;rw [List.getElem_set_ne e];exact (e2.keep keep).mono keep'
 ·rw [List.length_set]; exact (h6.stored i u).1
def Zgi (S : Nat → Prop) (d : Dk) (bits : Int) (w : World) (g : Nat) (c : Array Value) (k : Nat) (wr : World) : Prop :=
 Zo w wr ∧ wr.heap[w.heap.size]? = some (.cells c 26 (0, 0)) ∧ wr.heap[w.heap.size + 1]? = some (.cells #[.slice none 0 0, .slice none 0 0] 26 (0, 0)) ∧
  Zac S (w.heap.size + 1 + 1) g (.slice none 0 0) (d.keepTo (Vo bits) k) wr
theorem Zgi.grow {S : Nat → Prop} {d : Dk} {bits : Int} {w : World} {g : Nat} {c : Array Value} {k : Nat} {wr w' : World} (h : Zgi S d bits w g c k wr) (hg : Zo wr w') : Zgi S d bits w g c k w' :=
 ⟨h.1.trans hg, (hg.block _ (Za h.2.1)).trans h.2.1, (hg.block _ (Za h.2.2.1)).trans h.2.2.1, h.2.2.2.grow hg⟩
theorem Zop (bits : Int) : Value.int .u64 (IntKind.u64.wrap bits) = .int .u64 (((bits % 18446744073709551616).toNat / 2 ^ 0 : Nat) : Int) := by
 rw [IntKind.wrap_u64, Nat.pow_zero, Nat.div_one]
 congr 1
 omega
theorem Zf3 (bits : Int) (k U : Nat) (h : (bits % 18446744073709551616).toNat / 2 ^ k = U) : Value.int .u64 (IntKind.u64.wrap ((U : Int) / 2)) = .int .u64 (((bits % 18446744073709551616).toNat / 2 ^ (k + 1) : Nat) : Int) := by
 rw [Nat.pow_succ, ← Nat.div_div_eq_div_mul, h, IntKind.wrap_u64];have hle : U ≤ (bits % 18446744073709551616).toNat := by rw [← h]; exact Nat.div_le_self _ _
 congr 1
 omega
theorem Zsl (S : Nat → Prop) (d : Dk) (bits : Int) (vb vl : Value) (w : World) (hS : ∀ b, S b → b < w.heap.size) (hb : Y2 S w vb d.blocks) (hl : Xk S w vl d.late) (h0 : 0 < d.blocks.length) (hlen : d.blocks.length ≤ 256) (hm : d.late.length ≤ 999990) (hp : ∀ x ∈ d.late, 0 ≤ x.1 ∧ x.1 < (d.blocks.length : Int)) :
  Calls Tryz.prog 47 #[.agg #[vb, vl], .int .i64 bits] w fun e w' => ∃ vb', e = .returned (.agg #[vb', .slice none 0 0]) ∧ Y2 (Zw S w.heap.size) w' vb' (d.keep bits).blocks ∧ Zo w w' := by
 obtain ⟨ad, cb, us, rfl, hul, hcells, hus⟩ := Zm5 hb h0;obtain ⟨al, cl, rfl⟩ := hl.p.form;obtain ⟨i0, hif, hz0, hz1, hz2⟩ := info_parts K3;have hone : ∀ u ∈ us, u.oneCell' = true := by
  intro u hu;obtain ⟨i, hi, rfl⟩ := List.mem_iff_getElem.1 hu;obtain ⟨u', h2, h3⟩ := hus i (by omega);rw [List.getElem?_eq_getElem hi] at h2;cases h2;exact Zhp h3.p
 have hc1 : ∀ (j : Nat) u, us[j]? = some u → (((w.alloc (.cells #[.slice (some ad) d.blocks.length cb, .slice al d.late.length cl] 26)).alloc (.cells #[.slice none 0 0, .slice none 0 0] 26)).alloc (.cells #[] 45)).cell? (ad.add j) = some u := by
  intro j u hj;have h2 := hcells j u hj;rw [← h2];exact Below.cell ((Zs _ _ _).trans (Zc _ _)) (Zu h2)
 have hx := hx1 w #[.slice (some ad) d.blocks.length cb, .slice al d.late.length cl] #[.slice none 0 0, .slice none 0 0];have hy := hy1 w #[.slice (some ad) d.blocks.length cb, .slice al d.late.length cl] #[.slice none 0 0, .slice none 0 0];have gW := Zs w (.cells #[.slice (some ad) d.blocks.length cb, .slice al d.late.length cl] 26) (.cells #[.slice none 0 0, .slice none 0 0] 26);have ho : (((w.alloc (.cells #[.slice (some ad) d.blocks.length cb, .slice al d.late.length cl] 26)).alloc (.cells #[.slice none 0 0, .slice none 0 0] 26)).alloc (.cells #[] 45)).ownsRow (w.heap.size + 1 + 1) 45 1 (.slice (some ⟨w.heap.size + 1 + 1, 0, none⟩) 0 0) 0 [] :=
  ⟨rfl, .inr ⟨w.heap.size + 1 + 1, 0, #[], rfl, Nat.le_refl _, by have := Zj ((w.alloc (.cells #[.slice (some ad) d.blocks.length cb, .slice al d.late.length cl] 26)).alloc (.cells #[.slice none 0 0, .slice none 0 0] 26)) #[] 45; rw [World.size_alloc, World.size_alloc] at this; exact this, Nat.le_refl _, by unfold maxLen; omega, rfl, rfl⟩⟩
 clear hb hcells;go_enter Tryz.func47, Tryz.ntmps47;go_wp2_with (first
  | (at_builtin; refine wpList_append_own _ rfl (.tmp 9) (.tmp 11) 23 rfl (w.heap.size + 1 + 1) 45 i0 (.slice none 0 0) 1 24 Tryz.underlying23 hif hz0 hz1 hz2 rfl (by decide) (.slice (some ⟨w.heap.size + 1 + 1, 0, none⟩) 0 0) 0 [] rfl ho ad d.blocks.length cb us rfl (by omega) hc1 hone (by unfold maxLen; omega) (by omega) (by simp) ?_; intro v2 w2 hown2 hgrow2 _; simp only [Nat.zero_add, List.nil_append] at hown2; have hsl := Y4 hown2; obtain ⟨a2, c2, hv2⟩ := hsl; subst hv2; have g2 : Zo _ w2 := Yb (Zc _ _) hgrow2 (fun k hk => by cases hk; simp); have hx2 := (g2.block _ (Za hx)).trans hx; have hy2 := (g2.block _ (Za hy)).trans hy; have g3 := Zc w2 (.cells #[.slice a2 d.blocks.length c2, .slice none 0 0] 26); have hx3 := (g3.block _ (Za hx2)).trans hx2; have hy3 := (g3.block _ (Za hy2)).trans hy2; have x1 := Zd hx3 1 _ rfl))
 have hstart : Zgi S d bits w w2.heap.size #[.slice (some ad) d.blocks.length cb, .slice al d.late.length cl] 0 (w2.alloc (.cells #[.slice a2 d.blocks.length c2, .slice none 0 0] 26)) :=
  ⟨gW.trans (g2.trans g3), hx3, hy3, _, us, Zj _ _ _, hul, fun i hi => (hus i hi).imp fun u hu => ⟨hu.1, (hu.2.grow (gW.trans (g2.trans g3))).mono (fun _ h => .inl h)⟩, Z5 hown2 g3⟩
 clear hx hy hx2 hy2 hx3 hy3 x1 ho hc1 hone hown2 hgrow2 hus hul g2 g3 gW;generalize w2.heap.size = g at *;generalize World.alloc w2 _ = W at *;go_loopw [6, 19] (fun u i wr => ∃ k : Nat, k ≤ d.late.length ∧ u = .int .u64 (((bits % 18446744073709551616).toNat / 2 ^ k : Nat) : Int) ∧ i = .int .i64 k ∧ Zgi S d bits w g #[.slice (some ad) d.blocks.length cb, .slice al d.late.length cl] k wr) (fun _ i _ => d.late.length - (intOf i).toNat)
 case atStart => exact ⟨0, Nat.zero_le _, Zop bits, rfl, hstart⟩
 case round =>
  clear hstart;obtain ⟨k, hk, rfl, rfl, hL⟩ := hrel;by_cases hlt : k < d.late.length
  ·obtain ⟨b, off, hvl, hc0, u, hc1, hu⟩ := (hl.grow hL.1).at k hlt;cases hvl;obtain ⟨au, cu, rfl, -, -⟩ := Yl hu.p;have hK : d.keepTo (Vo bits) (k + 1) = if Vo bits k = true then (d.keepTo (Vo bits) k).set d.late[k].1.toNat d.late[k].2 else d.keepTo (Vo bits) k := by
    show (if Vo bits k = true then _ else _) = _;rw [Qv _ _ _ hlt]
   have HK : Hid _ := hK;have hpk := hp d.late[k] (List.getElem_mem _);clear hK;generalize d.late[k] = lk at *;obtain ⟨at_, data⟩ := lk;have HB : Hid (Vo bits k = (decide (k < 60) && ((bits % 18446744073709551616).toNat / 2 ^ k % 2 == 1))) := rfl;generalize hUU : (bits % 18446744073709551616).toNat / 2 ^ k = U at *;have HU : Hid _ := hUU;clear hUU;have g1 := Zc wr (.cells #[.int .i64 at_, .slice au data.length cu] 92);have hz := Zj wr #[.int .i64 at_, .slice au data.length cu] 92;have hL1 := hL.grow g1;have hu1 := hu.grow g1;by_cases hon : k < 60 ∧ U % 2 = 1
   ·have hb1 : Vo bits k = true := by rw [HB.out]; simp [hon.1, hon.2]
    have hK1 := HK.out;rw [if_pos hb1] at hK1;have HK1 : Hid _ := hK1;clear hK1 hb1 HK HB hu;obtain ⟨m, rfl⟩ := Int.eq_ofNat_of_zero_le hpk.1;obtain ⟨gL, hLd, hLr, v, us', h3, h4, h5, h6⟩ := hL1;have hbl : (d.keepTo (Vo bits) k).length = d.blocks.length := d.keepTo_length _ _;generalize d.keepTo (Vo bits) k = bs at *;have hrow : ∃ q cap, v = .slice (some ⟨q, 0, none⟩) bs.length cap := by
     rcases h6.2 with ⟨_, e⟩ | ⟨q, cap, cur, e, _⟩
     ·omega
     ·exact ⟨q, cap, e⟩
    obtain ⟨q, cap, rfl⟩ := hrow;have hm1 : m < bs.length := by have := hpk.2; simp only at this; omega
    have y0 := Zd h3 0 _ rfl;obtain ⟨z0, z1⟩ := Xb hz rfl rfl;have fq := h6.frozenAt m;have cq := h6.cellAt m (by omega);have hux : us'[m]? = some us'[m] := List.getElem?_eq_getElem (by omega);rw [hux] at cq;clear hux;generalize us'[m] = xm at cq;have hput := Zac.put (i := m) h3 h4 h5 h6 (fun b h => by have := hS b h; omega) (hu1.mono (fun _ h => .inl h)) hm1;have hqB : w.heap.size + 1 + 1 ≤ q := (h6.lt q rfl).1;have hBe : Below (w.heap.size + 1 + 1) (wr.alloc (.cells #[.int .i64 (m : Int), .slice au data.length cu] 92)) ((wr.alloc (.cells #[.int .i64 (m : Int), .slice au data.length cu] 92)).setCell ⟨q, m, none⟩ (.slice au data.length cu)) := Below.setCell (Below.refl _ _) hqB _;have hend : Zgi S d bits w g #[.slice (some ad) d.blocks.length cb, .slice (some ⟨b, off, none⟩) d.late.length cl] (k + 1) ((wr.alloc (.cells #[.int .i64 (m : Int), .slice au data.length cu] 92)).setCell ⟨q, m, none⟩ (.slice au data.length cu)) :=
     ⟨Below.trans gL (hBe.mono (by omega)), (hBe.block _ (by omega)).trans hLd, (hBe.block _ (by omega)).trans hLr, by rw [HK1.out]; exact hput⟩
    have hU2 : (U : Int) % 2 = 1 := by omega
    have hk60 : k < 60 := hon.1;clear hput h3 h4 h5 h6 hLd hLr gL hL hBe hz hon hu1;go_wp2_with fail;go_roundw
    case rel => exact ⟨k + 1, by omega, Zf3 bits k U HU.out, by simp, hend⟩
    case measure => simp [intOf]; omega
   ·have hb1 : ¬ Vo bits k = true := by
     rw [HB.out]; simp only [Bool.and_eq_true, decide_eq_true_eq, beq_iff_eq]; exact hon
    have hK1 := HK.out;rw [if_neg hb1] at hK1;have hend : Zgi S d bits w g #[.slice (some ad) d.blocks.length cb, .slice (some ⟨b, off, none⟩) d.late.length cl] (k + 1) (wr.alloc (.cells #[.int .i64 at_, .slice au data.length cu] 92)) :=
     ⟨hL1.1, hL1.2.1, hL1.2.2.1, by rw [hK1]; exact hL1.2.2.2⟩
    clear hK1 hb1 HK HB hu hu1 hL1 hL hz;by_cases hk60 : k < 60
    ·have hU2 : (U : Int) % 2 = 0 := by omega
     clear hon;go_wp2_with fail;go_roundw
     case rel => exact ⟨k + 1, by omega, Zf3 bits k U HU.out, by simp, hend⟩
     case measure => simp [intOf]; omega
    ·have hk60' : 60 ≤ k := by omega
     clear hon;go_wp2_with fail;go_roundw
     case rel => exact ⟨k + 1, by omega, Zf3 bits k U HU.out, by simp, hend⟩
     case measure => simp [intOf]; omega
  ·have hk' : k = d.late.length := by omega
   subst hk';obtain ⟨vo, hbo, hbs⟩ := hL.2.2.2.blocks;obtain ⟨ao, co, rfl⟩ := hbs.p.form;obtain ⟨x0, x1⟩ := Xb hbo rfl rfl;have y0 := Zd hL.2.2.1 0 _ rfl;have y1 := Zd hL.2.2.1 1 _ rfl;have f0 := Zl hL.2.2.1 0;have f1 := Zl hL.2.2.1 1;have cs := Zv;rename_i wr _;obtain ⟨hq1, hq2⟩ := Xq hL.2.2.1 (.slice ao (d.keepTo (Vo bits) d.late.length).length co) (.slice none 0 0);have gE := hq2.grow hL.1 (by omega);have hbE := (hbs.but hq2 (fun h => h.elim (fun h => by have := hS _ h; omega) (fun h => by omega))).mono (Z0 (B := w.heap.size) (by omega));clear hq1 hq2 hbs hbo hL hlt hl;go_wp2_with fail;exact bodyPost_ret (v := .agg #[.slice ao (d.keepTo (Vo bits) d.late.length).length co, .slice none 0 0]) (by simp [results, Tryz.results47, go_sem, y0, y1, cs]) rfl ⟨_, rfl, hbE, gE⟩
end Go.Proofs.YtgaecpdokgklpacGreat
namespace Go.Proofs.YtgaecpdokgklpacGreat
set_option maxRecDepth 100000
open Go.RowKit
open Plain Reg
theorem Zu4 (y : Int) : bits .and .i64 y 255 = y % 256 := by
 have e1 : (BitVec.ofInt 64 y).toNat = (y % 18446744073709551616).toNat := by simp [BitVec.toNat_ofInt]
 have e2 : (BitVec.ofInt 64 255).toNat = 255 := by decide
 show IntKind.i64.wrap ((BitVec.ofInt 64 y &&& BitVec.ofInt 64 255).toNat : Int) = _;rw [BitVec.toNat_and, e1, e2, Nat.and_two_pow_sub_one_eq_mod _ 8, IntKind.wrap_i64];omega
theorem Ztm (a b : Nat) (ha : a < 256) (hb : b < 256) : bits .xor .i64 (a : Int) (b : Int) = ((a ^^^ b : Nat) : Int) := by
 have hx : a ^^^ b < 2 ^ 8 := Nat.xor_lt_two_pow (by omega) (by omega);have e1 : (BitVec.ofInt 64 (a : Int)).toNat = a := by
  rw [BitVec.ofInt_natCast, BitVec.toNat_ofNat]; exact Nat.mod_eq_of_lt (by omega)
 have e2 : (BitVec.ofInt 64 (b : Int)).toNat = b := by
  rw [BitVec.ofInt_natCast, BitVec.toNat_ofNat]; exact Nat.mod_eq_of_lt (by omega)
 show IntKind.i64.wrap ((BitVec.ofInt 64 (a : Int) ^^^ BitVec.ofInt 64 (b : Int)).toNat : Int) = _;rw [BitVec.toNat_xor, e1, e2, IntKind.wrap_i64];omega
theorem Dk.spoil_map (d : Dk) (a n y : Int) : (d.spoil a n y).blocks = (List.range d.blocks.length).map fun (i : Nat) => if (i : Int) = a then Qe (d.blocks.getD i []) n y else d.blocks.getD i [] := by
 unfold Dk.spoil;refine List.ext_getElem (by split <;> simp) fun i h1 h2 => ?_;have hi : i < d.blocks.length := by simpa using h2
 rw [List.getElem_map, List.getElem_range];by_cases ha : 0 ≤ a ∧ a < (d.blocks.length : Int)
 ·simp only [if_pos ha];by_cases e : (i : Int) = a
  ·subst e; simp
  ·rw [List.getElem_set_ne (by omega), if_neg e, Qv _ _ _ hi]
 ·have e : ¬ (i : Int) = a := by omega
  simp only [if_neg ha, if_neg e];rw [Qv _ _ _ hi]
def Zs7 (S : Nat → Prop) (d : Dk) (a n y : Int) (w : World) (c : Array Value) (lv : Value) (k : Nat) (wr : World) : Prop :=
 Zo w wr ∧ wr.heap[w.heap.size]? = some (.cells c 26 (0, 0)) ∧ wr.heap[w.heap.size + 1]? = some (.cells #[.slice none 0 0, .slice none 0 0] 26 (0, 0)) ∧
  Zac S (w.heap.size + 1 + 1 + 1) (w.heap.size + 1 + 1) lv ((List.range k).map fun (i : Nat) => if (i : Int) = a then Qe (d.blocks.getD i []) n y else d.blocks.getD i []) wr
theorem Zev (l : List UInt8) (m : Nat) (y : Int) (hm : m < l.length) : (l.map bv).set m (.int .u8 ((l[m] ^^^ lo y).toNat : Int)) = (Qe l (m : Int) y).map bv := by
 unfold Qe;rw [if_pos (by omega), show ((m : Int)).toNat = m from by omega, Qv _ _ _ hm, List.map_set]; rfl
theorem Jn (l : List UInt8) (n y : Int) : (Qe l n y).length = l.length := by unfold Qe; split <;> simp
theorem Zla (c : UInt8) (y : Int) : bits .xor .i64 (c.toNat : Int) (bits .and .i64 y 255) % 256 = ((c ^^^ lo y).toNat : Int) := by
 rw [Zu4, ← K1 y, Ztm _ _ (UInt8.toNat_lt _) (UInt8.toNat_lt _), UInt8.toNat_xor];have hx : c.toNat ^^^ (lo y).toNat < 2 ^ 8 := Nat.xor_lt_two_pow (UInt8.toNat_lt _) (UInt8.toNat_lt _);omega
theorem Zor {w : World} {base m : Nat} {v : Value} {lb lt : List UInt8} {x c : Int} (hL : lt.length = lb.length) (hM : (lb.map bv).set m (.int .u8 c) = lt.map bv) (hx : x = c) (h : w.ownsRow base 5 1 v lb.length ((lb.map bv).set m (.int .u8 x))) : w.ownsRow base 5 1 v lt.length (lt.map bv) := by
 rw [hL, ← hM, ← hx]; exact h
theorem Zjo {w : World} {base n : Nat} {e : TypeId} {v : Value} {xs : List Value} (h : w.ownsRow base e 1 v n xs) (hn : 0 < n) : ∃ q cap, v = .slice (some ⟨q, 0, none⟩) n cap := by
 rcases h.2 with ⟨_, e⟩ | ⟨q, cap, cur, e, _⟩
 ·omega
 ·exact ⟨q, cap, e⟩
theorem Zos (S : Nat → Prop) (d : Dk) (a n y : Int) (vb vl : Value) (w : World) (hS : ∀ b, S b → b < w.heap.size) (hb : Y2 S w vb d.blocks) (hl : Xk S w vl d.late) (hlen : d.blocks.length ≤ 256) (h16 : ∀ x ∈ d.blocks, x.length ≤ 1000) :
  Calls Tryz.prog 37 #[.agg #[vb, vl], .int .i64 a, .int .i64 n, .int .i64 y] w fun e w' => ∃ vb', e = .returned (.agg #[vb', vl]) ∧ Y2 (Zw S w.heap.size) w' vb' (d.spoil a n y).blocks ∧ Zo w w' := by
 obtain ⟨ab, cb, rfl⟩ := hb.p.form;obtain ⟨al, cl, rfl⟩ := hl.p.form;clear hl;have HF : Hid _ := d.spoil_map a n y;obtain ⟨i0, hif, hz0, hz1, hz2⟩ := info_parts K3;obtain ⟨j0, hjf, hj0, hj1, hj2⟩ := info_parts Vx;go_enter Tryz.func37, Tryz.ntmps37;go_wp2_with fail;have hstart : Zs7 S d a n y w #[.slice ab d.blocks.length cb, .slice al d.late.length cl] (.slice al d.late.length cl) 0 (((w.alloc (.cells #[.slice ab d.blocks.length cb, .slice al d.late.length cl] 26)).alloc (.cells #[.slice none 0 0, .slice none 0 0] 26)).alloc (.cells #[.slice none 0 0, .slice al d.late.length cl] 26)) := by
  refine ⟨(Zs _ _ _).trans (Zc _ _), ((Zc _ _).block _ (by simp; omega)).trans (hx1 _ _ _), ((Zc _ _).block _ (by simp)).trans (hy1 _ _ _), Zac.start ?_⟩;have h := Zj ((w.alloc (.cells #[.slice ab d.blocks.length cb, .slice al d.late.length cl] 26)).alloc (.cells #[.slice none 0 0, .slice none 0 0] 26)) #[.slice none 0 0, .slice al d.late.length cl] 26;rw [World.size_alloc, World.size_alloc] at h;exact h
 generalize World.alloc (World.alloc (World.alloc w _) _) _ = W at *;go_loopw [18] (fun i wr => ∃ k : Nat, k ≤ d.blocks.length ∧ i = .int .i64 k ∧ Zs7 S d a n y w #[.slice ab d.blocks.length cb, .slice al d.late.length cl] (.slice al d.late.length cl) k wr) (fun i _ => d.blocks.length - (intOf i).toNat)
 case atStart => exact ⟨0, Nat.zero_le _, rfl, hstart⟩
 case round =>
  clear hstart;obtain ⟨k, hk, rfl, hL⟩ := hrel;by_cases hlt : k < d.blocks.length
  ·obtain ⟨b, off, hvb, u, hc0, hu⟩ := (hb.grow hL.1).at k hlt;cases hvb;have hx16 := h16 d.blocks[k] (List.getElem_mem _);have HBS : Hid (((List.range k).map fun (i : Nat) => if (i : Int) = a then Qe (d.blocks.getD i []) n y else d.blocks.getD i []) ++ [if (k : Int) = a then Qe d.blocks[k] n y else d.blocks[k]] = (List.range (k + 1)).map fun (i : Nat) => if (i : Int) = a then Qe (d.blocks.getD i []) n y else d.blocks.getD i []) := by
    show _ ++ _ = _; rw [List.range_succ, List.map_append, ← Qv d.blocks k [] hlt]; rfl
   generalize d.blocks[k] = bk at *;obtain ⟨au, cu, rfl, hnone, hcells⟩ := Yl hu.p;by_cases hon : (k : Int) = a ∧ 0 ≤ n ∧ n < (bk.length : Int)
   ·obtain ⟨rfl, hn0, hn1⟩ := hon;rw [if_pos rfl] at HBS;obtain ⟨m, rfl⟩ := Int.eq_ofNat_of_zero_le hn0;have hm1 : m < bk.length := by omega
    cases au with
    | none => exact absurd (hnone rfl).1 (by omega)
    | some ad =>
     have ho := Zbo wr;have hc1 : ∀ (j : Nat) u, (bk.map bv)[j]? = some u → (wr.alloc (.cells #[] 5)).cell? (ad.add j) = some u := by
      intro j u hj;have h2 := hcells ad rfl j u hj;rw [← h2];exact Below.cell (Zc wr _) (Zu h2)
     have hlr : ((List.range k).map fun (i : Nat) => if (i : Int) = (k : Int) then Qe (d.blocks.getD i []) (m : Int) y else d.blocks.getD i []).length = k := by simp
     obtain ⟨gL0, hLd0, hLr0, hO0⟩ := hL;generalize ((List.range k).map fun (i : Nat) => if (i : Int) = (k : Int) then Qe (d.blocks.getD i []) (m : Int) y else d.blocks.getD i []) = bs at *;subst hlr;have hbm : (bk.map bv)[m]? = some (.int .u8 (bk[m].toNat : Int)) := by simp [hm1, bv]
     have HTM : Hid _ := Zev bk m y hm1;have HTL : Hid _ := Jn bk (m : Int) y;have HX : Hid _ := Zla bk[m] y;have hcb : bk[m].toNat < 256 := UInt8.toNat_lt _;have hgs0 : w.heap.size + 1 + 1 < wr.heap.size := by obtain ⟨v, us, h3, _⟩ := hO0; exact Za h3
     clear hcells hnone hu hn0 hn1;generalize bk[m] = cm at *;go_wp2_with (first
      | (at_builtin; refine wpList_append_own _ rfl (.tmp 36) (.tmp 37) 45 rfl wr.heap.size 5 j0 (.int .u8 0) 1 1 Tryz.underlying45 hjf hj0 hj1 hj2 rfl (by decide) (.slice (some ⟨wr.heap.size, 0, none⟩) 0 0) 0 [] rfl ho ad bk.length cu (bk.map bv) rfl (by simp) hc1 (K5 bk) (by unfold maxLen; omega) (by omega) (by simp) ?_; intro v2 w2 hown2 hgrow2 _; simp only [Nat.zero_add, List.nil_append] at hown2; have hrow := Zjo hown2 (by omega); obtain ⟨q, c2, hv2⟩ := hrow; subst hv2; have cq := (hown2.cellAt m (by omega)).trans hbm; have fq := hown2.frozenAt m; have hqw := (hown2.lt q rfl).1; have g2 : Zo wr w2 := Yb (Zc wr _) hgrow2 (fun k hk => by cases hk; simp); have g2' := Z2 g2 (a := ⟨q, m, none⟩) hqw (.int .u8 (bits .xor .i64 (cm.toNat : Int) (bits .and .i64 y 255) % 256)); have hst2 := Zor (lt := Qe bk (m : Int) y) HTL.out HTM.out HX.out (hown2.stored m (.int .u8 (bits .xor .i64 (cm.toNat : Int) (bits .and .i64 y 255) % 256))).1; have hO2 := hO0.grow g2'; obtain ⟨v, us, h3, h4, h5, h6⟩ := hO2; have hsv := Y4 h6; obtain ⟨av, cv, hvv⟩ := hsv; subst hvv; have y0 := Zd h3 0 _ rfl; have hsz2 : (w2.setCell ⟨q, m, none⟩ (.int .u8 (bits .xor .i64 (cm.toNat : Int) (bits .and .i64 y 255) % 256))).heap.size = w2.heap.size := World.size_setCell _ _ _; have hgz := g2.size; clear hown2 hgrow2 hc1 ho)
      | (at_builtin; refine wpList_append_own _ rfl (.tmp 52) (.tmp 54) 23 rfl (w.heap.size + 1 + 1 + 1) 45 i0 (.slice none 0 0) 1 24 Tryz.underlying23 hif hz0 hz1 hz2 rfl (by decide) (.slice av bs.length cv) bs.length us rfl (h6.alloc _) ⟨w2.heap.size, 0, none⟩ 1 1 [.slice (some ⟨q, 0, none⟩) bk.length c2] rfl rfl (fun j u hj => by have := Zfk (w2.setCell ⟨q, m, none⟩ (.int .u8 (bits .xor .i64 (cm.toNat : Int) (bits .and .i64 y 255) % 256))) _ 45 j u hj; rw [hsz2] at this; exact this) (by intro u hu; simp at hu; subst hu; rfl) (by unfold maxLen; omega) (by omega) (by simp; omega) ?_; intro v3 w3 hown3 hgrow3 _; have hb3 := Zep h6 (by decide) h3 hgrow3; have f0 := Zl hb3 0; have hst := Zac.step h3 h4 h5 h6 (fun b h => by have := hS b h; omega) (by omega) (Zdo S (by omega) hst2) hgrow3 hown3; have hsl := Y4 hown3; obtain ⟨a3, c3, hv3⟩ := hsl; subst hv3; have y3 := Zd hb3 0 _ rfl; have cs := Zv; clear y0))
     go_roundw
     case rel =>
      have hBx := Zdp (B := w.heap.size + 1 + 1 + 1) (o := .cells #[.slice (some ⟨q, 0, none⟩) bk.length c2] 45) (by omega) h6 hgrow3;have hB2 : Below (w.heap.size + 1 + 1) (w2.setCell ⟨q, m, none⟩ (.int .u8 (bits .xor .i64 (cm.toNat : Int) (bits .and .i64 y 255) % 256))) (w3.setCell ⟨w.heap.size + 1 + 1, 0, none⟩ (.slice a3 (bs.length + 1) c3)) := Below.setCell (hBx.mono (by omega)) (by show w.heap.size + 1 + 1 ≤ w.heap.size + 1 + 1; omega) _;exact ⟨bs.length + 1, by omega, by simp, Below.trans (gL0.trans g2') (hB2.mono (by omega)), (hB2.block _ (by omega)).trans ((g2'.block _ (Za hLd0)).trans hLd0), (hB2.block _ (by omega)).trans ((g2'.block _ (Za hLr0)).trans hLr0), by rw [← HBS.out]; exact hst⟩
     case measure => simp [intOf]; omega
   ·have hoff : (if (k : Int) = a then Qe bk n y else bk) = bk := by
     by_cases e : (k : Int) = a
     ·rw [if_pos e]; unfold Qe; rw [if_neg (by omega)]
     ·rw [if_neg e]
    rw [hoff] at HBS;clear hoff hcells hnone;obtain ⟨gL, hLd, hLr, v, us, h3, h4, h5, h6⟩ := hL;have hlr : ((List.range k).map fun (i : Nat) => if (i : Int) = a then Qe (d.blocks.getD i []) n y else d.blocks.getD i []).length = k := by simp
    generalize ((List.range k).map fun (i : Nat) => if (i : Int) = a then Qe (d.blocks.getD i []) n y else d.blocks.getD i []) = bs at *;subst hlr;obtain ⟨av, cv, rfl⟩ := Y4 h6;have y0 := Zd h3 0 _ rfl;have hgs : w.heap.size + 1 + 1 < wr.heap.size := Za h3;have hcase : (bs.length : Int) ≠ a ∨ ((bs.length : Int) = a ∧ n < 0) ∨ ((bs.length : Int) = a ∧ 0 ≤ n ∧ (bk.length : Int) ≤ n) := by omega
    clear hon;rcases hcase with hn1 | ⟨rfl, hn2⟩ | ⟨rfl, hn2, hn3⟩
    all_goals
     first | (have hd0 : ((bs.length : Int) == a) = false := by simpa using hn1) | skip
     go_wp2_with (first
      | (at_builtin; refine wpList_append_own _ rfl (.tmp 52) (.tmp 54) 23 rfl (w.heap.size + 1 + 1 + 1) 45 i0 (.slice none 0 0) 1 24 Tryz.underlying23 hif hz0 hz1 hz2 rfl (by decide) (.slice av bs.length cv) bs.length us rfl (h6.alloc _) ⟨wr.heap.size, 0, none⟩ 1 1 [.slice au bk.length cu] rfl rfl (fun j u hj => Zfk wr _ _ j u hj) (by intro u hu; simp at hu; subst hu; rfl) (by unfold maxLen; omega) (by omega) (by simp; omega) ?_; intro v3 w3 hown3 hgrow3 _; have hb3 := Zep h6 (by decide) h3 hgrow3; have f0 := Zl hb3 0; have hst := Zac.step h3 h4 h5 h6 (fun b h => by have := hS b h; omega) (by omega) (hu.mono (fun _ h => .inl h)) hgrow3 hown3; have hsl := Y4 hown3; obtain ⟨a3, c3, hv3⟩ := hsl; subst hv3; have y3 := Zd hb3 0 _ rfl; have cs := Zv; clear y0))
     go_roundw
     case rel =>
      have hBx := Zdp (o := .cells #[.slice au bk.length cu] 45) hgs h6 hgrow3;have hB2 : Below (w.heap.size + 1 + 1) wr (w3.setCell ⟨w.heap.size + 1 + 1, 0, none⟩ (.slice a3 (bs.length + 1) c3)) := Below.setCell (hBx.mono (by omega)) (by show w.heap.size + 1 + 1 ≤ w.heap.size + 1 + 1; omega) _;exact ⟨bs.length + 1, by omega, by simp, Below.trans gL (hB2.mono (by omega)), (hB2.block _ (by omega)).trans hLd, (hB2.block _ (by omega)).trans hLr, by rw [← HBS.out]; exact hst⟩
     case measure => simp [intOf]; omega
  ·have hk' : k = d.blocks.length := by omega
   subst hk';obtain ⟨vo, hbo, hbs⟩ := hL.2.2.2.blocks;rw [← HF.out] at hbs;obtain ⟨ao, co, rfl⟩ := hbs.p.form;obtain ⟨x0, x1⟩ := Xb hbo rfl rfl;have y0 := Zd hL.2.2.1 0 _ rfl;have y1 := Zd hL.2.2.1 1 _ rfl;have f0 := Zl hL.2.2.1 0;have f1 := Zl hL.2.2.1 1;have cs := Zv;rename_i wr _;obtain ⟨hq1, hq2⟩ := Xq hL.2.2.1 (.slice ao (d.spoil a n y).blocks.length co) (.slice al d.late.length cl);have gE := hq2.grow hL.1 (by omega);have hbE := (hbs.but hq2 (fun h => h.elim (fun h => by have := hS _ h; omega) (fun h => by omega))).mono (Z0 (B := w.heap.size) (by omega));clear hq1 hq2 hbs hbo hL hlt hb HF;generalize hls : (d.spoil a n y).blocks = ls at *;have HLS : Hid _ := hls;clear hls;go_wp2_with fail;exact bodyPost_ret (v := .agg #[.slice ao ls.length co, .slice al d.late.length cl]) (by simp [results, Tryz.results37, go_sem, y0, y1, cs]) rfl ⟨_, rfl, by rw [HLS.out]; exact hbE, gE⟩
end Go.Proofs.YtgaecpdokgklpacGreat
