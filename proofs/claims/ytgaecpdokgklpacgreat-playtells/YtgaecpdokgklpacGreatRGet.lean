import Derived.Test.YtgaecpdokgklpacGreatRDisk
set_option maxHeartbeats 8000000
namespace Go.Proofs.YtgaecpdokgklpacGreat
set_option maxRecDepth 100000
open Go.RowKit
open Plain Reg
def Qu (ws : List Wr) (a : Int) : Option (List UInt8) := ws.foldl (fun r x => if x.1 = a then some x.2 else r) none
theorem Zce (ws : List Wr) (x : Wr) (a : Int) : Qu (ws ++ [x]) a = if x.1 = a then some x.2 else Qu ws a := by simp [Qu, List.foldl_append]
theorem Zcd (ws : List Wr) (a : Int) (k : Nat) (h : k < ws.length) : Qu (ws.take (k + 1)) a = if ws[k].1 = a then some ws[k].2 else Qu (ws.take k) a := by
 rw [List.take_succ_eq_append_getElem h, Zce]
def Dk.get (d : Dk) (a : Int) : Option (List UInt8) := if a < 0 ∨ (d.blocks.length : Int) ≤ a then none else some ((Qu d.late a).getD (d.blocks.getD a.toNat []))
def Dk.getE (d : Dk) (a : Int) : Int := if a < 0 ∨ (d.blocks.length : Int) ≤ a then 3 else 0
def Dk.put (d : Dk) (a : Int) (b : List UInt8) : Dk := ⟨d.blocks, d.late ++ [(a, b)]⟩
theorem Zao (S : Nat → Prop) (d : Dk) (a : Int) (vb vl : Value) (w : World) (hb : Y2 S w vb d.blocks) (hl : Xk S w vl d.late) (hm2 : d.late.length ≤ 140737488355328) :
  Calls Tryz.prog 59 #[.agg #[vb, vl], .int .i64 a] w fun e w' => ∃ v, e = .returned (.tuple #[v, .int .i64 (d.getE a)]) ∧ Z3 S w' v ((d.get a).getD []) ∧ Zo w w' := by
 obtain ⟨ab, cb, rfl⟩ := hb.p.form;obtain ⟨al, cl, rfl⟩ := hl.p.form;by_cases hout : a < 0 ∨ (d.blocks.length : Int) ≤ a
 ·have HE : Hid (d.getE a = 3) := by show d.getE a = 3; unfold Dk.getE; rw [if_pos hout]
  have HG : Hid (d.get a = none) := by show d.get a = none; unfold Dk.get; rw [if_pos hout]
  rw [HE.out, HG.out];by_cases h0 : a < 0
  ·go_enter Tryz.func59, Tryz.ntmps59;go_wp2_with fail
   go_ret2
   exact ⟨_, rfl, .inl ⟨none, 0, rfl, rfl, fun _ => rfl⟩, Zc _ _⟩
  ·have h1 : (d.blocks.length : Int) ≤ a := by omega
   clear hout;go_enter Tryz.func59, Tryz.ntmps59;go_wp2_with fail
   go_ret2
   exact ⟨_, rfl, .inl ⟨none, 0, rfl, rfl, fun _ => rfl⟩, Zc _ _⟩
 ·have HE : Hid (d.getE a = 0) := by show d.getE a = 0; unfold Dk.getE; rw [if_neg hout]
  have HG : Hid (d.get a = some ((Qu d.late a).getD (d.blocks.getD a.toNat []))) := by show d.get a = _; unfold Dk.get; rw [if_neg hout]
  rw [HE.out, HG.out, Option.getD_some];obtain ⟨p, rfl⟩ := Int.eq_ofNat_of_zero_le (by omega : 0 ≤ a);have hp : p < d.blocks.length := by omega
  clear hout;rw [Int.toNat_natCast];have gW := Zc w (.cells #[.slice ab d.blocks.length cb, .slice al d.late.length cl] 26);have hx := Zj w #[.slice ab d.blocks.length cb, .slice al d.late.length cl] 26;have hbW := hb.grow gW;have hlW := hl.grow gW;clear hb hl;go_enter Tryz.func59, Tryz.ntmps59;go_wp2_with fail;generalize World.alloc w _ = W at *;obtain ⟨x0, x1⟩ := Xb hx rfl rfl
  go_loop [6] (fun i => ∃ k : Nat, k ≤ d.late.length ∧ i = .int .i64 ((k : Int) - 1) ∧ Qu d.late p = Qu (d.late.take k) p) (fun i => (intOf i + 1).toNat)
  case atStart => exact ⟨d.late.length, Nat.le_refl _, rfl, by rw [List.take_length]⟩
  case round =>
   obtain ⟨k, hk, rfl, hla⟩ := hrel;have HLA : Hid (Qu d.late p = Qu (d.late.take k) p) := hla;clear hla
   match k, hk, HLA with
   | 0, hk, HLA =>
    have HB : Hid (Qu d.late p = none) := HLA;obtain ⟨b, off, rfl, u, hu, hub⟩ := hbW.at p hp;obtain ⟨au, cu, rfl, -, -⟩ := Yl hub.p;clear HLA;go_wp2_with fail
    go_ret2
    refine ⟨_, rfl, ?_, gW⟩;rw [HB.out, Option.getD_none];exact hub
   | k + 1, hk, HLA =>
    have hkl : k < d.late.length := by omega
    obtain ⟨b, off, rfl, hc0, u, hu, hub⟩ := hlW.at k hkl;obtain ⟨au, cu, rfl, -, -⟩ := Yl hub.p;have hst := Zcd d.late p k hkl;by_cases he : d.late[k].1 = (p : Int)
    ·rw [he] at hc0;rw [if_pos he] at hst;have HV : Hid (Qu d.late p = some d.late[k].2) := HLA.out.trans hst;clear HLA hst he;have e1 : ((k + 1 : Nat) : Int) - 1 = (k : Int) := by omega
     rw [e1];clear e1;go_wp2_with fail
     go_ret2
     refine ⟨_, rfl, ?_, gW⟩;rw [HV.out, Option.getD_some];exact hub
    ·rw [if_neg he] at hst;have HV : Hid (Qu d.late p = Qu (d.late.take k) p) := HLA.out.trans hst;have d2 : (d.late[k].1 == (p : Int)) = false := X6 he;clear HLA hst he hub;generalize d.late[k].1 = q at *;have e1 : ((k + 1 : Nat) : Int) - 1 = (k : Int) := by omega
     rw [e1];clear e1;go_wp2_with fail
     go_round
     case rel => exact ⟨k, by omega, by go_num, HV.out⟩
     case measure => simp [intOf]
def Vd : List Wr → List Value → List Value
 | x :: ws, u :: us => .int .i64 x.1 :: u :: Vd ws us
 | _, _ => []
theorem Zbb : ∀ (ws : List Wr) (us : List Value), us.length = ws.length → (Vd ws us).length = ws.length * 2
 | [], us, _ => by simp [Vd]
 | x :: ws, [], h => by simp at h
 | x :: ws, u :: us, h => by simp [Vd, Zbb ws us (by simpa using h)]; omega
theorem Zdx : ∀ (ws : List Wr) (us : List Value) (i : Nat), us.length = ws.length → (h : i < ws.length) → (Vd ws us)[i * 2]? = some (.int .i64 ws[i].1)
 | [], us, i, _, h => by simp at h
 | x :: ws, [], i, h, _ => by simp at h
 | x :: ws, u :: us, 0, _, _ => by simp [Vd]
 | x :: ws, u :: us, i + 1, h, hi => by
  have := Zdx ws us i (by simpa using h) (by simpa using hi);rw [show (i + 1) * 2 = i * 2 + 1 + 1 from by omega];simpa [Vd] using this
theorem Zf6 : ∀ (ws : List Wr) (us : List Value) (i : Nat), us.length = ws.length → i < ws.length → (Vd ws us)[i * 2 + 1]? = us[i]?
 | [], us, i, _, h => by simp at h
 | x :: ws, [], i, h, _ => by simp at h
 | x :: ws, u :: us, 0, _, _ => by simp [Vd]
 | x :: ws, u :: us, i + 1, h, hi => by
  have := Zf6 ws us i (by simpa using h) (by simpa using hi);rw [show (i + 1) * 2 + 1 = i * 2 + 1 + 1 + 1 from by omega];simpa [Vd] using this
theorem Zf7 : ∀ (ws : List Wr) (us : List Value) (x : Wr) (u : Value), us.length = ws.length → Vd (ws ++ [x]) (us ++ [u]) = Vd ws us ++ [.int .i64 x.1, u]
 | [], [], x, u, _ => by simp [Vd]
 | [], _ :: _, x, u, h => by simp at h
 | _ :: _, [], x, u, h => by simp at h
 | y :: ws, v :: us, x, u, h => by simp [Vd, Zf7 ws us x u (by simpa using h)]
theorem Zkh : ∀ (ws : List Wr) (us : List Value) (c : Value), c ∈ Vd ws us → (∃ n, c = .int .i64 n) ∨ c ∈ us
 | [], us, c, h => by simp [Vd] at h
 | x :: ws, [], c, h => by simp [Vd] at h
 | x :: ws, u :: us, c, h => by
  simp only [Vd, List.mem_cons] at h;rcases h with h | h | h
  ·exact .inl ⟨_, h⟩
  ·exact .inr (by simp [h])
  ·rcases Zkh ws us c h with h | h
   ·exact .inl h
   ·exact .inr (by simp [h])
theorem Zsj {S : Nat → Prop} {w : World} {v : Value} {ws : List Wr} (h : Xk S w v ws) :
  ∃ ao cap us, v = .slice ao ws.length cap ∧ us.length = ws.length ∧ (ao = none → ws.length = 0 ∧ cap = 0) ∧ (∀ ad, ao = some ad → ∀ (j : Nat) u, (Vd ws us)[j]? = some u → w.cell? (ad.add j) = some u) ∧ (∀ i (hi : i < ws.length), ∃ u, us[i]? = some u ∧ Z3 S w u ws[i].2) := by
 rcases h with ⟨ao, cap, rfl, rfl, h0⟩ | ⟨b, off, cap, hSb, rfl, h1, hc⟩
 ·exact ⟨ao, cap, [], rfl, rfl, fun h => ⟨rfl, h0 h⟩, fun ad _ j u hj => by simp [Vd] at hj, fun i hi => by simp at hi⟩
 ·have hex : ∃ f : Nat → Value, ∀ i (hi : i < ws.length), w.cell? ⟨b, off + i * 2 + 1, none⟩ = some (f i) ∧ Z3 S w (f i) ws[i].2 := by
   refine ⟨fun i => if hi : i < ws.length then (hc i hi).2.choose else undef, fun i hi => ?_⟩;simp only [hi, dif_pos];exact (hc i hi).2.choose_spec
  obtain ⟨f, hf⟩ := hex;have hul : ((List.range ws.length).map f).length = ws.length := by simp
  refine ⟨_, cap, (List.range ws.length).map f, rfl, hul, fun h => (by cases h), fun ad had j u hj => ?_, fun i hi => ⟨f i, by simp [hi], (hf i hi).2⟩⟩;cases had;have hjl : j < ws.length * 2 := by
   rw [← Zbb ws _ hul];rcases Nat.lt_or_ge j (Vd ws ((List.range ws.length).map f)).length with h | h
   ·exact h
   ·rw [List.getElem?_eq_none h] at hj; cases hj
  have e : ∀ m, (⟨b, off, none⟩ : Addr).add m = ⟨b, off + m, none⟩ := fun m => by simp [Addr.add]
  rcases Nat.mod_two_eq_zero_or_one j with hm | hm
  ·obtain ⟨i, rfl⟩ : ∃ i, j = i * 2 := ⟨j / 2, by omega⟩;rw [Zdx ws _ i hul (by omega)] at hj;cases hj;rw [e];exact (hc i (by omega)).1
  ·obtain ⟨i, rfl⟩ : ∃ i, j = i * 2 + 1 := ⟨j / 2, by omega⟩;rw [Zf6 ws _ i hul (by omega)] at hj;have : u = f i := by simp [show i < ws.length from by omega] at hj; exact hj.symm
   subst this;rw [e];exact (hf i (by omega)).1
theorem Zfu {S : Nat → Prop} {w : World} {base : Nat} {v : Value} {ws : List Wr} {us : List Value} (h : w.ownsRow base 92 2 v ws.length (Vd ws us)) (hl : us.length = ws.length) (hu : ∀ i (hi : i < ws.length), ∃ u, us[i]? = some u ∧ Z3 S w u ws[i].2) : Xk (Zw S base) w v ws := by
 rcases h.2 with ⟨rfl, h0⟩ | ⟨g, cap, cur, rfl, hb, hh, h1, h2, h3, h4⟩
 ·exact .inl ⟨none, 0, rfl, List.eq_nil_of_length_eq_zero h0, fun _ => rfl⟩
 ·refine .inr ⟨g, 0, cap, .inr hb, rfl, h1, fun i hi => ?_⟩;have k0 := h.cellAt (i * 2) (by omega);have k1 := h.cellAt (i * 2 + 1) (by omega);rw [Zdx ws us i hl hi] at k0;rw [Zf6 ws us i hl hi] at k1;obtain ⟨u, hu1, hu2⟩ := hu i hi;rw [hu1] at k1;refine ⟨by rw [Nat.zero_add]; exact k0, u, by rw [Nat.zero_add]; exact k1, hu2.mono Vr⟩
theorem Zam : (Tryz.prog.info? 92).map (fun i => (i.zero, i.size, i.bytes)) = some (some (.agg #[.int .i64 0, .slice none 0 0]), 2, 32) := by kernel_rfl
theorem Zl9 (w : World) : (w.alloc (.cells #[] 92)).ownsRow w.heap.size 92 2 (.slice (some ⟨w.heap.size, 0, none⟩) 0 0) 0 [] :=
 ⟨rfl, .inr ⟨w.heap.size, 0, #[], rfl, Nat.le_refl _, by show (w.heap.push _)[w.heap.size]? = _; simp, Nat.le_refl _, by unfold maxLen; omega, rfl, rfl⟩⟩
theorem Zhp {w : World} {v : Value} {l : List UInt8} (h : Bytes w v l) : v.oneCell' = true := by
 obtain ⟨ao, cap, rfl, -, -⟩ := Yl h; rfl
theorem hx1 (w : World) (c e : Array Value) : ((w.alloc (.cells c 26)).alloc (.cells e 26)).heap[w.heap.size]? = some (.cells c 26 (0, 0)) :=
 ((Zc (w.alloc (.cells c 26)) _).block _ (by simp)).trans (Zj _ _ _)
theorem hy1 (w : World) (c e : Array Value) : ((w.alloc (.cells c 26)).alloc (.cells e 26)).heap[w.heap.size + 1]? = some (.cells e 26 (0, 0)) := by
 have h := Zj (w.alloc (.cells c 26)) e 26;rw [World.size_alloc] at h;exact h
theorem Y4 {w : World} {base n size : Nat} {e : TypeId} {v : Value} {xs : List Value} (h : w.ownsRow base e size v n xs) : ∃ ao cap, v = .slice ao n cap := by
 rcases h.2 with ⟨h1, h0⟩ | ⟨g, cap, cur, rfl, hb, _⟩
 ·subst h0; exact ⟨none, 0, h1⟩
 ·exact ⟨_, cap, rfl⟩
theorem Zrr {W w2 w3 : World} {o p : Obj} {r : Option Nat} {v : Value} {e : TypeId} {size n B : Nat} {xs : List Value} (hB : W.heap.size = B) (h2 : (W.alloc o).grownBy w2 r) (h3 : (w2.alloc p).grownBy w3 v.ownBlock) (hr : r = some B) (hown : w2.ownsRow B e size v n xs) : Zo W w3 := by
 have g2 : Zo W w2 := Yb (Zc W _) h2 (fun k hk => by rw [hr] at hk; cases hk; omega);exact Yb (g2.trans (Zc w2 _)) h3 (fun k hk => by have := (hown.lt k hk).1; omega)
theorem Zo2 {W w3 : World} {o p : Obj} {r : Option Nat} {B : Nat} (hB : W.heap.size = B) (h3 : ((W.alloc o).alloc p).grownBy w3 r) (hr : r = some B) : Zo W w3 :=
 Yb ((Zc W _).trans (Zc _ _)) h3 (fun k hk => by rw [hr] at hk; cases hk; omega)
theorem Zjs {S : Nat → Prop} {w : World} {base : Nat} {v u : Value} {ws : List Wr} {us : List Value} {a : Int} {l : List UInt8} (hl : us.length = ws.length) (h : w.ownsRow base 92 2 v (ws.length + 1) (Vd ws us ++ [.int .i64 a, u])) (hu : ∀ i (hi : i < ws.length), ∃ u, us[i]? = some u ∧ Z3 S w u ws[i].2) (hb : Z3 S w u l) : Xk (Zw S base) w v (ws ++ [(a, l)]) := by
 rw [← Zf7 ws us (a, l) u hl] at h;refine Zfu (us := us ++ [u]) (by simpa using h) (by simp [hl]) fun i hi => ?_;by_cases hi2 : i < ws.length
 ·obtain ⟨x, h1, h2⟩ := hu i hi2;refine ⟨x, by rw [List.getElem?_append_left (by omega)]; exact h1, ?_⟩;rw [List.getElem_append_left hi2]; exact h2
 ·have e : i = ws.length := by simp at hi; omega
  subst e;exact ⟨u, by rw [← hl]; simp, by simpa using hb⟩
theorem Zcq (S : Nat → Prop) (d : Dk) (a : Int) (l : List UInt8) (vb vl v : Value) (w : World) (hb : Xl w vb d.blocks) (hl : Xk S w vl d.late) (hv : Z3 S w v l) (h0 : 0 ≤ a) (h1 : a < (d.blocks.length : Int)) (h16 : l.length = 16) (hm : d.late.length ≤ 1000000) :
  Calls Tryz.prog 93 #[.agg #[vb, vl], .int .i64 a, v] w fun e w' => ∃ vl', e = .returned (.tuple #[.agg #[vb, vl'], .int .i64 0]) ∧ Xk (Zw S w.heap.size) w' vl' (d.late ++ [(a, l)]) ∧ Zo w w' := by
 obtain ⟨ab, cb, rfl⟩ := hb.form;obtain ⟨al, cl, us, rfl, hul, hnone, hcells, hus⟩ := Zsj hl;obtain ⟨av, cv, rfl, -, -⟩ := Yl hv.p;have d0 : ((l.length : Int) != 16) = false := by simp [h16]
 have HL16 : Hid (l.length = 16) := h16;obtain ⟨i0, hif, hz0, hz1, hz2⟩ := info_parts Zam;clear hb hl h16;have hx := hx1 w #[.slice ab d.blocks.length cb, .slice al d.late.length cl] #[.slice none 0 0, .slice none 0 0];have hy := hy1 w #[.slice ab d.blocks.length cb, .slice al d.late.length cl] #[.slice none 0 0, .slice none 0 0];have gW := Zs w (.cells #[.slice ab d.blocks.length cb, .slice al d.late.length cl] 26) (.cells #[.slice none 0 0, .slice none 0 0] 26);have ho := Zl9 ((w.alloc (.cells #[.slice ab d.blocks.length cb, .slice al d.late.length cl] 26)).alloc (.cells #[.slice none 0 0, .slice none 0 0] 26));have hone : ∀ u ∈ Vd d.late us, u.oneCell' = true := by
  intro u hu;rcases Zkh _ _ _ hu with ⟨n, rfl⟩ | hu
  ·rfl
  ·obtain ⟨i, hi, rfl⟩ := List.mem_iff_getElem.1 hu;obtain ⟨u', h2, h3⟩ := hus i (by omega);rw [List.getElem?_eq_getElem hi] at h2;cases h2;exact Zhp h3.p
 simp only [World.size_alloc] at ho;cases al with
 | some ad =>
  have hc1 : ∀ (j : Nat) u, (Vd d.late us)[j]? = some u → (((w.alloc (.cells #[.slice ab d.blocks.length cb, .slice (some ad) d.late.length cl] 26)).alloc (.cells #[.slice none 0 0, .slice none 0 0] 26)).alloc (.cells #[] 92)).cell? (ad.add j) = some u := by
   intro j u hj;have h2 := hcells ad rfl j u hj;rw [← h2];exact Below.cell (gW.trans (Zc _ _)) (Zu h2)
  clear hcells hnone;go_enter Tryz.func93, Tryz.ntmps93;go_wp2_with (first
   | (at_builtin; refine wpList_append_own _ rfl (.tmp 22) (.tmp 24) 24 rfl (w.heap.size + 1 + 1) 92 i0 (.agg #[.int .i64 0, .slice none 0 0]) 2 32 Tryz.underlying24 hif hz0 hz1 hz2 rfl (by decide) (.slice (some ⟨w.heap.size + 1 + 1, 0, none⟩) 0 0) 0 [] rfl ho ad d.late.length cl (Vd d.late us) rfl (Zbb _ _ hul) hc1 hone (by unfold maxLen; omega) (by omega) (by simp) ?_; intro v2 w2 hown2 hgrow2 _; simp only [Nat.zero_add, List.nil_append] at hown2; clear hc1; have hsl := Y4 hown2; obtain ⟨a2, c2, hv2⟩ := hsl; subst hv2)
   | (at_builtin; refine wpList_append_own _ rfl (.tmp 25) (.tmp 29) 24 rfl (w.heap.size + 1 + 1) 92 i0 (.agg #[.int .i64 0, .slice none 0 0]) 2 32 Tryz.underlying24 hif hz0 hz1 hz2 rfl (by decide) (.slice a2 d.late.length c2) d.late.length (Vd d.late us) rfl (hown2.alloc _) ⟨w2.heap.size, 0, none⟩ 1 1 [.int .i64 a, .slice av l.length cv] rfl rfl (fun j u hj => J0 w2 _ _ _ j u hj) (by intro u hu; simp at hu; rcases hu with rfl | rfl <;> rfl) (by unfold maxLen; omega) (by omega) (by have := hgrow2.size; simp at this ⊢; omega) ?_; intro v3 w3 hown3 hgrow3 _; have hsl := Y4 hown3; obtain ⟨a3, c3, hv3⟩ := hsl; subst hv3; have gB := Zrr (by simp) hgrow2 hgrow3 rfl hown2; have hbx := (gB.block _ (Za hx)).trans hx; have hby := (gB.block _ (Za hy)).trans hy; have x0 := Zd hbx 0 _ rfl; have x1 := Zd hbx 1 _ rfl; have y0 := Zd hby 0 _ rfl; have y1 := Zd hby 1 _ rfl; have f0 := Zl hby 0; have f1 := Zl hby 1; have e1 := Zl hbx 1; have cs := Zv))
  have hown4 := Xi (Xi (Xi hown3 (a := ⟨w.heap.size, 1, none⟩) (by show w.heap.size < _; omega) (.slice a3 (d.late.length + 1) c3)) (a := ⟨w.heap.size + 1, 0, none⟩) (by show w.heap.size + 1 < _; omega) (.slice ab d.blocks.length cb)) (a := ⟨w.heap.size + 1, 1, none⟩) (by show w.heap.size + 1 < _; omega) (.slice a3 (d.late.length + 1) c3);have gE := Z2 (Z2 (Z2 (gW.trans gB) (a := ⟨w.heap.size, 1, none⟩) (by simp) (.slice a3 (d.late.length + 1) c3)) (a := ⟨w.heap.size + 1, 0, none⟩) (by simp) (.slice ab d.blocks.length cb)) (a := ⟨w.heap.size + 1, 1, none⟩) (by simp) (.slice a3 (d.late.length + 1) c3);refine bodyPost_ret (v := .tuple #[.agg #[.slice ab d.blocks.length cb, .slice a3 (d.late.length + 1) c3], .int .i64 0]) (by simp [results, Tryz.results93, go_sem, y0, y1, cs]) rfl ⟨_, rfl, (Zjs hul hown4 (fun i hi => ?_) (hv.grow gE)).mono (Z0 (by omega)), gE⟩;obtain ⟨u, hu1, hu2⟩ := hus i hi;exact ⟨u, hu1, hu2.grow gE⟩
 | none =>
  obtain ⟨hz, rfl⟩ := hnone rfl;have hle := List.eq_nil_of_length_eq_zero hz;have hue : us = [] := List.eq_nil_of_length_eq_zero (by omega);subst hue;have HLE : Hid (d.late = []) := hle;rw [hz] at hx hy gW ho ⊢;clear hcells hnone hone;go_enter Tryz.func93, Tryz.ntmps93;go_wp2_with (first
   | (at_builtin; refine wpList_append_own_none rfl (.tmp 22) (.tmp 24) 24 rfl (w.heap.size + 1 + 1) 92 i0 2 Tryz.underlying24 hif (.slice (some ⟨w.heap.size + 1 + 1, 0, none⟩) 0 0) 0 [] rfl ho rfl ?_)
   | (at_builtin; refine wpList_append_own _ rfl (.tmp 25) (.tmp 29) 24 rfl (w.heap.size + 1 + 1) 92 i0 (.agg #[.int .i64 0, .slice none 0 0]) 2 32 Tryz.underlying24 hif hz0 hz1 hz2 rfl (by decide) (.slice (some ⟨w.heap.size + 1 + 1, 0, none⟩) 0 0) 0 [] rfl (ho.alloc _) ⟨w.heap.size + 1 + 1 + 1, 0, none⟩ 1 1 [.int .i64 a, .slice av l.length cv] rfl rfl (fun j u hj => by have := J0 (((w.alloc (.cells #[.slice ab d.blocks.length cb, .slice none 0 0] 26)).alloc (.cells #[.slice none 0 0, .slice none 0 0] 26)).alloc (.cells #[] 92)) (.int .i64 a) (.slice av l.length cv) 92 j u hj; simpa using this) (by intro u hu; simp at hu; rcases hu with rfl | rfl <;> rfl) (by unfold maxLen; omega) (by omega) (by simp) ?_; intro v3 w3 hown3 hgrow3 _; have hsl := Y4 hown3; obtain ⟨a3, c3, hv3⟩ := hsl; subst hv3; have gB := Zo2 (by simp) hgrow3 rfl; have hbx := (gB.block _ (Za hx)).trans hx; have hby := (gB.block _ (Za hy)).trans hy; have x0 := Zd hbx 0 _ rfl; have x1 := Zd hbx 1 _ rfl; have y0 := Zd hby 0 _ rfl; have y1 := Zd hby 1 _ rfl; have f0 := Zl hby 0; have f1 := Zl hby 1; have e1 := Zl hbx 1; have cs := Zv))
  have hown4 := Xi (Xi (Xi hown3 (a := ⟨w.heap.size, 1, none⟩) (by show w.heap.size < _; omega) (.slice a3 1 c3)) (a := ⟨w.heap.size + 1, 0, none⟩) (by show w.heap.size + 1 < _; omega) (.slice ab d.blocks.length cb)) (a := ⟨w.heap.size + 1, 1, none⟩) (by show w.heap.size + 1 < _; omega) (.slice a3 1 c3);have gE := Z2 (Z2 (Z2 (gW.trans gB) (a := ⟨w.heap.size, 1, none⟩) (by simp) (.slice a3 1 c3)) (a := ⟨w.heap.size + 1, 0, none⟩) (by simp) (.slice ab d.blocks.length cb)) (a := ⟨w.heap.size + 1, 1, none⟩) (by simp) (.slice a3 1 c3);refine bodyPost_ret (v := .tuple #[.agg #[.slice ab d.blocks.length cb, .slice a3 1 c3], .int .i64 0]) (by simp [results, Tryz.results93, go_sem, y0, y1, cs]) rfl ⟨_, rfl, ?_, gE⟩;rw [HLE.out];exact (Zjs (S := S) (ws := []) (us := []) rfl hown4 (fun i hi => by simp at hi) (hv.grow gE)).mono (Z0 (by omega))
end Go.Proofs.YtgaecpdokgklpacGreat
