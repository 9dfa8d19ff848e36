import Derived.Test.YtpdnapbchcdhlacGreatDk
set_option maxHeartbeats 8000000
namespace Go.Proofs.YtpdnapbchcdhlacGreat
set_option maxRecDepth 100000
open Go.RowKit
open Plain Reg
variable {B base n : Nat} {S : Nat → Prop} {W w w3 : World} {e : TypeId} {l : List UInt8} {o : Obj} {r : Option Nat} {us xs : List Value} {v : Value} {ws : List Wr}
def Qx (ws : List Wr) (a : Int) : Option (List UInt8) := ws.foldl (fun r x => if x.1 = a then some x.2 else r) none
theorem Zc8 (ws : List Wr) (x : Wr) (a : Int) : Qx (ws ++ [x]) a = if x.1 = a then some x.2 else Qx ws a := by simp [Qx, List.foldl_append]
theorem Zc7 (ws : List Wr) (a : Int) (k : Nat) (h : k < ws.length) : Qx (ws.take (k + 1)) a = if ws[k].1 = a then some ws[k].2 else Qx (ws.take k) a := by
 rw [List.take_succ_eq_append_getElem h, Zc8]
def Dk.get (d : Dk) (a : Int) : Option (List UInt8) := if a < 0 ∨ (d.blocks.length : Int) ≤ a then none else some ((Qx d.late a).getD (d.blocks.getD a.toNat []))
def Dk.getE (d : Dk) (a : Int) : Int := if a < 0 ∨ (d.blocks.length : Int) ≤ a then 3 else 0
def Dk.put (d : Dk) (a : Int) (b : List UInt8) : Dk := ⟨d.blocks, d.late ++ [(a, b)]⟩
theorem Zbf (S : Nat → Prop) (d : Dk) (a : Int) (vb vl : Value) (w : World) (hb : Y2 S w vb d.blocks) (hl : Xm S w vl d.late) (hm2 : d.late.length ≤ 140737488355328) :
  Calls Tryz.prog 76 #[.agg #[vb, vl], .int .i64 a] w fun e w' => ∃ v, e = .returned (.tuple #[v, .int .i64 (d.getE a)]) ∧ Z3 S w' v ((d.get a).getD []) ∧ Zp w w' := by
 obtain ⟨ab, cb, rfl⟩ := hb.p.form;obtain ⟨al, cl, rfl⟩ := hl.p.form;by_cases hout : a < 0 ∨ (d.blocks.length : Int) ≤ a
 ·have HE : Hid (d.getE a = 3) := by show d.getE a = 3; unfold Dk.getE; rw [if_pos hout]
  have HG : Hid (d.get a = none) := by show d.get a = none; unfold Dk.get; rw [if_pos hout]
  rw [HE.out, HG.out];by_cases h0 : a < 0
  ·go_enter Tryz.func76, Tryz.ntmps76;go_wp2_with fail
   go_ret2
   exact ⟨_, rfl, .inl ⟨none, 0, rfl, rfl, fun _ => rfl⟩, Zc _ _⟩
  ·have h1 : (d.blocks.length : Int) ≤ a := by omega
   clear hout;go_enter Tryz.func76, Tryz.ntmps76;go_wp2_with fail
   go_ret2
   exact ⟨_, rfl, .inl ⟨none, 0, rfl, rfl, fun _ => rfl⟩, Zc _ _⟩
 ·have HE : Hid (d.getE a = 0) := by show d.getE a = 0; unfold Dk.getE; rw [if_neg hout]
  have HG : Hid (d.get a = some ((Qx d.late a).getD (d.blocks.getD a.toNat []))) := by show d.get a = _; unfold Dk.get; rw [if_neg hout]
  rw [HE.out, HG.out, Option.getD_some];obtain ⟨p, rfl⟩ := Int.eq_ofNat_of_zero_le (by omega : 0 ≤ a);have hp : p < d.blocks.length := by omega
  clear hout;rw [Int.toNat_natCast];have gW := Zc w (.cells #[.slice ab d.blocks.length cb, .slice al d.late.length cl] 26);have hx := Zj w #[.slice ab d.blocks.length cb, .slice al d.late.length cl] 26;have hbW := hb.grow gW;have hlW := hl.grow gW;clear hb hl;go_enter Tryz.func76, Tryz.ntmps76;go_wp2_with fail;generalize World.alloc w _ = W at *;obtain ⟨x0, x1⟩ := Xb hx rfl rfl
  go_loop [6] (fun i => ∃ k : Nat, k ≤ d.late.length ∧ i = .int .i64 ((k : Int) - 1) ∧ Qx d.late p = Qx (d.late.take k) p) (fun i => (intOf i + 1).toNat)
  case atStart => exact ⟨d.late.length, Nat.le_refl _, rfl, by rw [List.take_length]⟩
  case round =>
   obtain ⟨k, hk, rfl, hla⟩ := hrel;have HLA : Hid (Qx d.late p = Qx (d.late.take k) p) := hla;clear hla
   match k, hk, HLA with
   | 0, hk, HLA =>
    have HB : Hid (Qx d.late p = none) := HLA;obtain ⟨b, off, rfl, u, hu, hub⟩ := hbW.at p hp;obtain ⟨au, cu, rfl, -, -⟩ := Yk hub.p;clear HLA;go_wp2_with fail
    go_ret2
    refine ⟨_, rfl, ?_, gW⟩;rw [HB.out, Option.getD_none];exact hub
   | k + 1, hk, HLA =>
    have hkl : k < d.late.length := by omega
    obtain ⟨b, off, rfl, hc0, u, hu, hub⟩ := hlW.at k hkl;obtain ⟨au, cu, rfl, -, -⟩ := Yk hub.p;have hst := Zc7 d.late p k hkl;by_cases he : d.late[k].1 = (p : Int)
    ·rw [he] at hc0;rw [if_pos he] at hst;have HV : Hid (Qx d.late p = some d.late[k].2) := HLA.out.trans hst;clear HLA hst he;have e1 : ((k + 1 : Nat) : Int) - 1 = (k : Int) := by omega
     rw [e1];clear e1;go_wp2_with fail
     go_ret2
     refine ⟨_, rfl, ?_, gW⟩;rw [HV.out, Option.getD_some];exact hub
    ·rw [if_neg he] at hst;have HV : Hid (Qx d.late p = Qx (d.late.take k) p) := HLA.out.trans hst;have d2 : (d.late[k].1 == (p : Int)) = false := Qh he;clear HLA hst he hub;generalize d.late[k].1 = q at *;have e1 : ((k + 1 : Nat) : Int) - 1 = (k : Int) := by omega
     rw [e1];clear e1;go_wp2_with fail
     go_round
     case rel => exact ⟨k, by omega, by go_num, HV.out⟩
     case measure => simp [intOf]
def Vn : List Wr → List Value → List Value
 | x :: ws, u :: us => .int .i64 x.1 :: u :: Vn ws us
 | _, _ => []
theorem Zb0 : ∀ (ws : List Wr) (us : List Value), us.length = ws.length → (Vn ws us).length = ws.length * 2
 | [], us, _ => by simp [Vn]
 | x :: ws, [], h => by simp at h
 | x :: ws, u :: us, h => by simp [Vn, Zb0 ws us (by simpa using h)]; omega
theorem Zer : ∀ (ws : List Wr) (us : List Value) (i : Nat), us.length = ws.length → (h : i < ws.length) → (Vn ws us)[i * 2]? = some (.int .i64 ws[i].1)
 | [], us, i, _, h => by simp at h
 | x :: ws, [], i, h, _ => by simp at h
 | x :: ws, u :: us, 0, _, _ => by simp [Vn]
 | x :: ws, u :: us, i + 1, h, hi => by
  have := Zer ws us i (by simpa using h) (by simpa using hi);rw [show (i + 1) * 2 = i * 2 + 1 + 1 from by omega];simpa [Vn] using this
theorem Zg7 : ∀ (ws : List Wr) (us : List Value) (i : Nat), us.length = ws.length → i < ws.length → (Vn ws us)[i * 2 + 1]? = us[i]?
 | [], us, i, _, h => by simp at h
 | x :: ws, [], i, h, _ => by simp at h
 | x :: ws, u :: us, 0, _, _ => by simp [Vn]
 | x :: ws, u :: us, i + 1, h, hi => by
  have := Zg7 ws us i (by simpa using h) (by simpa using hi);rw [show (i + 1) * 2 + 1 = i * 2 + 1 + 1 + 1 from by omega];simpa [Vn] using this
theorem Zg8 : ∀ (ws : List Wr) (us : List Value) (x : Wr) (u : Value), us.length = ws.length → Vn (ws ++ [x]) (us ++ [u]) = Vn ws us ++ [.int .i64 x.1, u]
 | [], [], x, u, _ => by simp [Vn]
 | [], _ :: _, x, u, h => by simp at h
 | _ :: _, [], x, u, h => by simp at h
 | y :: ws, v :: us, x, u, h => by simp [Vn, Zg8 ws us x u (by simpa using h)]
theorem Zlu : ∀ (ws : List Wr) (us : List Value) (c : Value), c ∈ Vn ws us → (∃ n, c = .int .i64 n) ∨ c ∈ us
 | [], us, c, h => by simp [Vn] at h
 | x :: ws, [], c, h => by simp [Vn] at h
 | x :: ws, u :: us, c, h => by
  simp only [Vn, List.mem_cons] at h;rcases h with h | h | h
  ·exact .inl ⟨_, h⟩
  ·exact .inr (by simp [h])
  ·rcases Zlu ws us c h with h | h
   ·exact .inl h
   ·exact .inr (by simp [h])
theorem Zt9 (h : Xm S w v ws) :
  ∃ ao cap us, v = .slice ao ws.length cap ∧ us.length = ws.length ∧ (ao = none → ws.length = 0 ∧ cap = 0) ∧ (∀ ad, ao = some ad → ∀ (j : Nat) u, (Vn ws us)[j]? = some u → w.cell? (ad.add j) = some u) ∧ (∀ i (hi : i < ws.length), ∃ u, us[i]? = some u ∧ Z3 S w u ws[i].2) := by
 rcases h with ⟨ao, cap, rfl, rfl, h0⟩ | ⟨b, off, cap, hSb, rfl, h1, hc⟩
 ·exact ⟨ao, cap, [], rfl, rfl, fun h => ⟨rfl, h0 h⟩, fun ad _ j u hj => by simp [Vn] at hj, fun i hi => by simp at hi⟩
 ·have hex : ∃ f : Nat → Value, ∀ i (hi : i < ws.length), w.cell? ⟨b, off + i * 2 + 1, none⟩ = some (f i) ∧ Z3 S w (f i) ws[i].2 := by
   refine ⟨fun i => if hi : i < ws.length then (hc i hi).2.choose else undef, fun i hi => ?_⟩;simp only [hi, dif_pos];exact (hc i hi).2.choose_spec
  obtain ⟨f, hf⟩ := hex;have hul : ((List.range ws.length).map f).length = ws.length := by simp
  refine ⟨_, cap, (List.range ws.length).map f, rfl, hul, fun h => (by cases h), fun ad had j u hj => ?_, fun i hi => ⟨f i, by simp [hi], (hf i hi).2⟩⟩;cases had;have hjl : j < ws.length * 2 := by
   rw [← Zb0 ws _ hul];rcases Nat.lt_or_ge j (Vn ws ((List.range ws.length).map f)).length with h | h
   ·exact h
   ·rw [List.getElem?_eq_none h] at hj; cases hj
  have e : ∀ m, (⟨b, off, none⟩ : Addr).add m = ⟨b, off + m, none⟩ := fun m => by simp [Addr.add]
  rcases Nat.mod_two_eq_zero_or_one j with hm | hm
  ·obtain ⟨i, rfl⟩ : ∃ i, j = i * 2 := ⟨j / 2, by omega⟩;rw [Zer ws _ i hul (by omega)] at hj;cases hj;rw [e];exact (hc i (by omega)).1
  ·obtain ⟨i, rfl⟩ : ∃ i, j = i * 2 + 1 := ⟨j / 2, by omega⟩;rw [Zg7 ws _ i hul (by omega)] at hj;have : u = f i := by simp [show i < ws.length from by omega] at hj; exact hj.symm
   subst this;rw [e];exact (hf i (by omega)).1
theorem Zgw (h : w.ownsRow base 107 2 v ws.length (Vn ws us)) (hl : us.length = ws.length) (hu : ∀ i (hi : i < ws.length), ∃ u, us[i]? = some u ∧ Z3 S w u ws[i].2) : Xm (Zw S base) w v ws := by
 rcases h.2 with ⟨rfl, h0⟩ | ⟨g, cap, cur, rfl, hb, hh, h1, h2, h3, h4⟩
 ·exact .inl ⟨none, 0, rfl, List.eq_nil_of_length_eq_zero h0, fun _ => rfl⟩
 ·refine .inr ⟨g, 0, cap, .inr hb, rfl, h1, fun i hi => ?_⟩;have k0 := h.cellAt (i * 2) (by omega);have k1 := h.cellAt (i * 2 + 1) (by omega);rw [Zer ws us i hl hi] at k0;rw [Zg7 ws us i hl hi] at k1;obtain ⟨u, hu1, hu2⟩ := hu i hi;rw [hu1] at k1;refine ⟨by rw [Nat.zero_add]; exact k0, u, by rw [Nat.zero_add]; exact k1, hu2.mono V3⟩
theorem Zbd : (Tryz.prog.info? 107).map (fun i => (i.zero, i.size, i.bytes)) = some (some (.agg #[.int .i64 0, .slice none 0 0]), 2, 32) := by kernel_rfl
theorem Znn (w : World) : (w.alloc (.cells #[] 107)).ownsRow w.heap.size 107 2 (.slice (some ⟨w.heap.size, 0, none⟩) 0 0) 0 [] :=
 ⟨rfl, .inr ⟨w.heap.size, 0, #[], rfl, Nat.le_refl _, by show (w.heap.push _)[w.heap.size]? = _; simp, Nat.le_refl _, by unfold maxLen; omega, rfl, rfl⟩⟩
theorem Zit (h : Bytes w v l) : v.oneCell' = true := by
 obtain ⟨ao, cap, rfl, -, -⟩ := Yk h; rfl
theorem hx1 (w : World) (c e : Array Value) : ((w.alloc (.cells c 26)).alloc (.cells e 26)).heap[w.heap.size]? = some (.cells c 26 (0, 0)) :=
 ((Zc (w.alloc (.cells c 26)) _).block _ (by simp)).trans (Zj _ _ _)
theorem hy1 (w : World) (c e : Array Value) : ((w.alloc (.cells c 26)).alloc (.cells e 26)).heap[w.heap.size + 1]? = some (.cells e 26 (0, 0)) := by
 have h := Zj (w.alloc (.cells c 26)) e 26;rw [World.size_alloc] at h;exact h
theorem Y7 {size : Nat} (h : w.ownsRow base e size v n xs) : ∃ ao cap, v = .slice ao n cap := by
 rcases h.2 with ⟨h1, h0⟩ | ⟨g, cap, cur, rfl, hb, _⟩
 ·subst h0; exact ⟨none, 0, h1⟩
 ·exact ⟨_, cap, rfl⟩
theorem Ztd {w2 : World} {p : Obj} {size : Nat} (hB : W.heap.size = B) (h2 : (W.alloc o).grownBy w2 r) (h3 : (w2.alloc p).grownBy w3 v.ownBlock) (hr : r = some B) (hown : w2.ownsRow B e size v n xs) : Zp W w3 := by
 have g2 : Zp W w2 := Yc (Zc W _) h2 (fun k hk => by rw [hr] at hk; cases hk; omega);exact Yc (g2.trans (Zc w2 _)) h3 (fun k hk => by have := (hown.lt k hk).1; omega)
theorem Zqh {p : Obj} (hB : W.heap.size = B) (h3 : ((W.alloc o).alloc p).grownBy w3 r) (hr : r = some B) : Zp W w3 :=
 Yc ((Zc W _).trans (Zc _ _)) h3 (fun k hk => by rw [hr] at hk; cases hk; omega)
theorem Zk1 {u : Value} {a : Int} (hl : us.length = ws.length) (h : w.ownsRow base 107 2 v (ws.length + 1) (Vn ws us ++ [.int .i64 a, u])) (hu : ∀ i (hi : i < ws.length), ∃ u, us[i]? = some u ∧ Z3 S w u ws[i].2) (hb : Z3 S w u l) : Xm (Zw S base) w v (ws ++ [(a, l)]) := by
 rw [← Zg8 ws us (a, l) u hl] at h;refine Zgw (us := us ++ [u]) (by simpa using h) (by simp [hl]) fun i hi => ?_;by_cases hi2 : i < ws.length
 ·obtain ⟨x, h1, h2⟩ := hu i hi2;refine ⟨x, by rw [List.getElem?_append_left (by omega)]; exact h1, ?_⟩;rw [List.getElem_append_left hi2]; exact h2
 ·have e : i = ws.length := by simp at hi; omega
  subst e;exact ⟨u, by rw [← hl]; simp, by simpa using hb⟩
theorem Zdh (S : Nat → Prop) (d : Dk) (a : Int) (l : List UInt8) (vb vl v : Value) (w : World) (hb : Xo w vb d.blocks) (hl : Xm S w vl d.late) (hv : Z3 S w v l) (h0 : 0 ≤ a) (h1 : a < (d.blocks.length : Int)) (h16 : l.length = 16) (hm : d.late.length ≤ 1000000) :
  Calls Tryz.prog 114 #[.agg #[vb, vl], .int .i64 a, v] w fun e w' => ∃ vl', e = .returned (.tuple #[.agg #[vb, vl'], .int .i64 0]) ∧ Xm (Zw S w.heap.size) w' vl' (d.late ++ [(a, l)]) ∧ Zp w w' := by
 obtain ⟨ab, cb, rfl⟩ := hb.form;obtain ⟨al, cl, us, rfl, hul, hnone, hcells, hus⟩ := Zt9 hl;obtain ⟨av, cv, rfl, -, -⟩ := Yk hv.p;have d0 : ((l.length : Int) != 16) = false := by simp [h16]
 have HL16 : Hid (l.length = 16) := h16;obtain ⟨i0, hif, hz0, hz1, hz2⟩ := info_parts Zbd;clear hb hl h16;have hx := hx1 w #[.slice ab d.blocks.length cb, .slice al d.late.length cl] #[.slice none 0 0, .slice none 0 0];have hy := hy1 w #[.slice ab d.blocks.length cb, .slice al d.late.length cl] #[.slice none 0 0, .slice none 0 0];have gW := Zr w (.cells #[.slice ab d.blocks.length cb, .slice al d.late.length cl] 26) (.cells #[.slice none 0 0, .slice none 0 0] 26);have ho := Znn ((w.alloc (.cells #[.slice ab d.blocks.length cb, .slice al d.late.length cl] 26)).alloc (.cells #[.slice none 0 0, .slice none 0 0] 26));have hone : ∀ u ∈ Vn d.late us, u.oneCell' = true := by
  intro u hu;rcases Zlu _ _ _ hu with ⟨n, rfl⟩ | hu
  ·rfl
  ·obtain ⟨i, hi, rfl⟩ := List.mem_iff_getElem.1 hu;obtain ⟨u', h2, h3⟩ := hus i (by omega);rw [List.getElem?_eq_getElem hi] at h2;cases h2;exact Zit h3.p
 simp only [World.size_alloc] at ho;cases al with
 | some ad =>
  have hc1 : ∀ (j : Nat) u, (Vn d.late us)[j]? = some u → (((w.alloc (.cells #[.slice ab d.blocks.length cb, .slice (some ad) d.late.length cl] 26)).alloc (.cells #[.slice none 0 0, .slice none 0 0] 26)).alloc (.cells #[] 107)).cell? (ad.add j) = some u := by
   intro j u hj;have h2 := hcells ad rfl j u hj;rw [← h2];exact Below.cell (gW.trans (Zc _ _)) (Zu h2)
  clear hcells hnone;go_enter Tryz.func114, Tryz.ntmps114;go_wp2_with (first
   | (at_builtin; refine wpList_append_own _ rfl (.tmp 22) (.tmp 24) 24 rfl (w.heap.size + 1 + 1) 107 i0 (.agg #[.int .i64 0, .slice none 0 0]) 2 32 Tryz.underlying24 hif hz0 hz1 hz2 rfl (by decide) (.slice (some ⟨w.heap.size + 1 + 1, 0, none⟩) 0 0) 0 [] rfl ho ad d.late.length cl (Vn d.late us) rfl (Zb0 _ _ hul) hc1 hone (by unfold maxLen; omega) (by omega) (by simp) ?_; intro v2 w2 hown2 hgrow2 _; simp only [Nat.zero_add, List.nil_append] at hown2; clear hc1; have hsl := Y7 hown2; obtain ⟨a2, c2, hv2⟩ := hsl; subst hv2)
   | (at_builtin; refine wpList_append_own _ rfl (.tmp 25) (.tmp 29) 24 rfl (w.heap.size + 1 + 1) 107 i0 (.agg #[.int .i64 0, .slice none 0 0]) 2 32 Tryz.underlying24 hif hz0 hz1 hz2 rfl (by decide) (.slice a2 d.late.length c2) d.late.length (Vn d.late us) rfl (hown2.alloc _) ⟨w2.heap.size, 0, none⟩ 1 1 [.int .i64 a, .slice av l.length cv] rfl rfl (fun j u hj => Zao w2 _ _ _ j u hj) (by intro u hu; simp at hu; rcases hu with rfl | rfl <;> rfl) (by unfold maxLen; omega) (by omega) (by have := hgrow2.size; simp at this ⊢; omega) ?_; intro v3 w3 hown3 hgrow3 _; have hsl := Y7 hown3; obtain ⟨a3, c3, hv3⟩ := hsl; subst hv3; have gB := Ztd (by simp) hgrow2 hgrow3 rfl hown2; have hbx := (gB.block _ (Za hx)).trans hx; have hby := (gB.block _ (Za hy)).trans hy; have x0 := Zd hbx 0 _ rfl; have x1 := Zd hbx 1 _ rfl; have y0 := Zd hby 0 _ rfl; have y1 := Zd hby 1 _ rfl; have f0 := Zl hby 0; have f1 := Zl hby 1; have e1 := Zl hbx 1; have cs := Zt))
  have hown4 := Xl (Xl (Xl hown3 (a := ⟨w.heap.size, 1, none⟩) (by show w.heap.size < _; omega) (.slice a3 (d.late.length + 1) c3)) (a := ⟨w.heap.size + 1, 0, none⟩) (by show w.heap.size + 1 < _; omega) (.slice ab d.blocks.length cb)) (a := ⟨w.heap.size + 1, 1, none⟩) (by show w.heap.size + 1 < _; omega) (.slice a3 (d.late.length + 1) c3);have gE := Z1 (Z1 (Z1 (gW.trans gB) (a := ⟨w.heap.size, 1, none⟩) (by simp) (.slice a3 (d.late.length + 1) c3)) (a := ⟨w.heap.size + 1, 0, none⟩) (by simp) (.slice ab d.blocks.length cb)) (a := ⟨w.heap.size + 1, 1, none⟩) (by simp) (.slice a3 (d.late.length + 1) c3);refine bodyPost_ret (v := .tuple #[.agg #[.slice ab d.blocks.length cb, .slice a3 (d.late.length + 1) c3], .int .i64 0]) (by simp [results, Tryz.results114, go_sem, y0, y1, cs]) rfl ⟨_, rfl, (Zk1 hul hown4 (fun i hi => ?_) (hv.grow gE)).mono (Zz (by omega)), gE⟩;obtain ⟨u, hu1, hu2⟩ := hus i hi;exact ⟨u, hu1, hu2.grow gE⟩
 | none =>
  obtain ⟨hz, rfl⟩ := hnone rfl;have hle := List.eq_nil_of_length_eq_zero hz;have hue : us = [] := List.eq_nil_of_length_eq_zero (by omega);subst hue;have HLE : Hid (d.late = []) := hle;rw [hz] at hx hy gW ho ⊢;clear hcells hnone hone;go_enter Tryz.func114, Tryz.ntmps114;go_wp2_with (first
   | (at_builtin; refine wpList_append_own_none rfl (.tmp 22) (.tmp 24) 24 rfl (w.heap.size + 1 + 1) 107 i0 2 Tryz.underlying24 hif (.slice (some ⟨w.heap.size + 1 + 1, 0, none⟩) 0 0) 0 [] rfl ho rfl ?_)
   | (at_builtin; refine wpList_append_own _ rfl (.tmp 25) (.tmp 29) 24 rfl (w.heap.size + 1 + 1) 107 i0 (.agg #[.int .i64 0, .slice none 0 0]) 2 32 Tryz.underlying24 hif hz0 hz1 hz2 rfl (by decide) (.slice (some ⟨w.heap.size + 1 + 1, 0, none⟩) 0 0) 0 [] rfl (ho.alloc _) ⟨w.heap.size + 1 + 1 + 1, 0, none⟩ 1 1 [.int .i64 a, .slice av l.length cv] rfl rfl (fun j u hj => by have := Zao (((w.alloc (.cells #[.slice ab d.blocks.length cb, .slice none 0 0] 26)).alloc (.cells #[.slice none 0 0, .slice none 0 0] 26)).alloc (.cells #[] 107)) (.int .i64 a) (.slice av l.length cv) 107 j u hj; simpa using this) (by intro u hu; simp at hu; rcases hu with rfl | rfl <;> rfl) (by unfold maxLen; omega) (by omega) (by simp) ?_; intro v3 w3 hown3 hgrow3 _; have hsl := Y7 hown3; obtain ⟨a3, c3, hv3⟩ := hsl; subst hv3; have gB := Zqh (by simp) hgrow3 rfl; have hbx := (gB.block _ (Za hx)).trans hx; have hby := (gB.block _ (Za hy)).trans hy; have x0 := Zd hbx 0 _ rfl; have x1 := Zd hbx 1 _ rfl; have y0 := Zd hby 0 _ rfl; have y1 := Zd hby 1 _ rfl; have f0 := Zl hby 0; have f1 := Zl hby 1; have e1 := Zl hbx 1; have cs := Zt))
  have hown4 := Xl (Xl (Xl hown3 (a := ⟨w.heap.size, 1, none⟩) (by show w.heap.size < _; omega) (.slice a3 1 c3)) (a := ⟨w.heap.size + 1, 0, none⟩) (by show w.heap.size + 1 < _; omega) (.slice ab d.blocks.length cb)) (a := ⟨w.heap.size + 1, 1, none⟩) (by show w.heap.size + 1 < _; omega) (.slice a3 1 c3);have gE := Z1 (Z1 (Z1 (gW.trans gB) (a := ⟨w.heap.size, 1, none⟩) (by simp) (.slice a3 1 c3)) (a := ⟨w.heap.size + 1, 0, none⟩) (by simp) (.slice ab d.blocks.length cb)) (a := ⟨w.heap.size + 1, 1, none⟩) (by simp) (.slice a3 1 c3);refine bodyPost_ret (v := .tuple #[.agg #[.slice ab d.blocks.length cb, .slice a3 1 c3], .int .i64 0]) (by simp [results, Tryz.results114, go_sem, y0, y1, cs]) rfl ⟨_, rfl, ?_, gE⟩;rw [HLE.out];exact (Zk1 (S := S) (ws := []) (us := []) rfl hown4 (fun i hi => by simp at hi) (hv.grow gE)).mono (Zz (by omega))
variable {S : Nat → Prop} {c rc zc : Array Value} {dn : Nat → Bool} {g i : Nat} {v vb vl : Value} {w w' : World} {ws : List Wr}
theorem Zbz (w : World) : Calls Tryz.prog 83 #[] w fun e w' => e = .returned (.agg #[.int .i64 1, .int .i64 0, .int .i64 0, .slice none 0 0]) ∧ Zp w w' := by
 go_enter Tryz.func83, Tryz.ntmps83;go_wp2;exact bodyPost_ret (v := .agg #[.int .i64 1, .int .i64 0, .int .i64 0, .slice none 0 0]) (by simp [results, Tryz.results83, go_sem]) rfl ⟨rfl, Zc _ _⟩
def Dk.pairE (d : Dk) (p : Int) (r : Rec) : Int := if p < 0 ∨ ((d.blocks.length / 2 : Nat) : Int) ≤ p then 3 else Yd r
def Dk.pairW (d : Dk) (p : Int) (r : Rec) : Dk := ⟨d.blocks, d.late ++ [(2 * p, blk r (2 * p)), (2 * p + 1, blk r (2 * p + 1))]⟩
def Dk.pairD (d : Dk) (p : Int) (r : Rec) : Dk := if d.pairE p r = 0 then d.pairW p r else d
def Jr (w : World) (g i : Nat) (c rc zc : Array Value) (S : Nat → Prop) (vl : Value) (ws : List Wr) (dn : Nat → Bool) (w' : World) : Prop :=
 Zp w w' ∧ w'.heap[g + 1]? = some (.cells rc 61 (0, 0)) ∧ w'.heap[g + 1 + 1]? = some (.cells zc 26 (0, 0)) ∧ Xm S w' vl ws ∧ (dn i = false → w'.heap[g]? = some (.cells c 26 (0, 0)))
theorem Jr.grow {w'' : World} (h : Jr w g i c rc zc S vl ws dn w') (hg : Zp w' w'') : Jr w g i c rc zc S vl ws dn w'' :=
 ⟨h.1.trans hg, (hg.block _ (Za h.2.1)).trans h.2.1, (hg.block _ (Za h.2.2.1)).trans h.2.2.1, h.2.2.2.1.grow hg, fun hd => (hg.block _ (Za (h.2.2.2.2 hd))).trans (h.2.2.2.2 hd)⟩
def Zb3 (S : Nat → Prop) (vb : Value) (e : Int) (ws : List Wr) (v : Value) (w : World) : Prop := ∃ vl, v = .tuple #[.agg #[vb, vl], .int .i64 e] ∧ Xm S w vl ws
def Zj8 (S : Nat → Prop) (vb : Value) (ws : List Wr) (v : Value) (w : World) : Prop := ∃ vl, v = .agg #[vb, vl] ∧ Xm S w vl ws
def Zu1 (S : Nat → Prop) (g : Nat) (vb : Value) (ws : List Wr) (v : Value) (w : World) : Prop := ∃ vl, v = .agg #[vb, vl] ∧ w.heap[g]? = some (.cells #[vb, vl] 26 (0, 0)) ∧ Xm S w vl ws
theorem Zi4 (S : Nat → Prop) (vb : Value) (e : Int) (ws : List Wr) : Xw (Zb3 S vb e ws) := by
 rintro v w w' hg ⟨vl, h1, h2⟩; exact ⟨vl, h1, h2.grow hg⟩
theorem Zo3 (S : Nat → Prop) (vb : Value) (ws : List Wr) : Xw (Zj8 S vb ws) := by
 rintro v w w' hg ⟨vl, h1, h2⟩; exact ⟨vl, h1, h2.grow hg⟩
theorem Zoz (S : Nat → Prop) (g : Nat) (vb : Value) (ws : List Wr) (i : Nat) : V2 (pl1 i (fun _ v w => Zu1 S g vb ws v w)) := by
 rintro v ds w w' hg ⟨vl, h1, h2, h3⟩;exact ⟨vl, h1, (hg.block _ (Za h2)).trans h2, h3.grow hg⟩
theorem Zi7 {e : Int} (hn : ¬ S g) (hs : Zq g w w') (h : Zb3 S vb e ws v w) : Zb3 S vb e ws v w' := by
 obtain ⟨vl, h1, h2⟩ := h; exact ⟨vl, h1, h2.but hs hn⟩
theorem Zo6 (hn : ¬ S g) (hs : Zq g w w') (h : Zj8 S vb ws v w) : Zj8 S vb ws v w' := by
 obtain ⟨vl, h1, h2⟩ := h; exact ⟨vl, h1, h2.but hs hn⟩
theorem Xt {T : TypeId} {f} {c0 c1 : Value} (h : w.heap[g]? = some (.cells #[c0, c1] T f)) (x0 x1 : Value) :
  ((w.setCell ⟨g, 0, none⟩ x0).setCell ⟨g, 1, none⟩ x1).heap[g]? = some (.cells #[x0, x1] T f) ∧ Zq g w ((w.setCell ⟨g, 0, none⟩ x0).setCell ⟨g, 1, none⟩ x1) := by
 refine ⟨?_, ((Zq.refl g w).set _ _ _).set _ _ _⟩;have h1 := Yg (Yg h 0 x0) 1 x1;simpa using h1
theorem Jr.size {B : Nat} (hB : B ≤ g + 1 + 1 + 1) (h : Jr w g i c rc zc S vl ws dn w') : B ≤ w'.heap.size := by
 have := Za h.2.2.1; omega
theorem Zk3 (S : Nat → Prop) (d : Dk) (p : Int) (k y n : Int) (l : List UInt8) (vb vl v : Value) (w : World) (hS : ∀ b, S b → b < w.heap.size) (hb : Xo w vb d.blocks) (hl : Xm S w vl d.late) (hv : Bytes w v l)
  (h0 : 0 ≤ p) (h1 : p < ((d.blocks.length / 2 : Nat) : Int)) (hw : Yd ⟨k, y, n, l⟩ = 0) (hlen : d.blocks.length ≤ 256) (hm : d.late.length ≤ 999990) :
  Calls Tryz.prog 75 #[.agg #[vb, vl], .int .i64 p, .agg #[.int .i64 k, .int .i64 y, .int .i64 n, v]] w fun e w' => ∃ vl', e = .returned (.tuple #[.agg #[vb, vl'], .int .i64 0]) ∧ Xm (Zw S w.heap.size) w' vl' (d.pairW p ⟨k, y, n, l⟩).late ∧ Zp w w' := by
 obtain ⟨ab, cb, rfl⟩ := hb.form;obtain ⟨al, cl, rfl⟩ := hl.p.form;obtain ⟨ao, cp, rfl, -, -⟩ := Yk hv;have HR : Hid (Yd ⟨k, y, n, l⟩ = 0) := hw;have HL : Hid (l.length ≤ 8) := (Vr hw).2.2.2.2.2.2;clear hw;have hq : (d.blocks.length : Int).tdiv 2 = ((d.blocks.length / 2 : Nat) : Int) := by rw [Int.tdiv_eq_ediv_of_nonneg (by omega)]; omega
 have h2p : 2 * p + 1 < (d.blocks.length : Int) := by omega
 go_enter Tryz.func75, Tryz.ntmps75;go_wp2_with fail;refine (Zc1 k y n l _ _ (by exact Z0 hv ((Zr _ _ _).trans (Zc _ _)))).mono ?_;rw [HR.out];rintro e w1 ⟨rfl, g1⟩;have gw : Zp w w1 := ((Zr _ _ _).trans (Zc _ _)).trans g1;have hbD : w1.heap[w.heap.size]? = some (.cells #[.slice ab d.blocks.length cb, .slice al d.late.length cl] 26 (0, 0)) :=
  (((Zr _ _ _).trans g1).block _ (by simp)).trans (Zj _ _ _)
 have hbR : w1.heap[w.heap.size + 1]? = some (.cells #[.int .i64 k, .int .i64 y, .int .i64 n, .slice ao l.length cp] 61 (0, 0)) := by
  have h := Zj (w.alloc (.cells #[.slice ab d.blocks.length cb, .slice al d.late.length cl] 26)) #[.int .i64 k, .int .i64 y, .int .i64 n, .slice ao l.length cp] 61;rw [World.size_alloc] at h;exact (((Zc _ _).trans g1).block _ (by simp)).trans h
 have hbZ : w1.heap[w.heap.size + 1 + 1]? = some (.cells #[.slice none 0 0, .slice none 0 0] 26 (0, 0)) := by
  have h := Zj ((w.alloc (.cells #[.slice ab d.blocks.length cb, .slice al d.late.length cl] 26)).alloc (.cells #[.int .i64 k, .int .i64 y, .int .i64 n, .slice ao l.length cp] 61)) #[.slice none 0 0, .slice none 0 0] 26;rw [World.size_alloc, World.size_alloc] at h;exact (g1.block _ (by simp)).trans h
 clear g1;obtain ⟨B, hBe⟩ : ∃ B, B = w.heap.size + 1 + 1 + 1 := ⟨_, rfl⟩;have hB : B ≤ w.heap.size + 1 + 1 + 1 := by omega
 have hnB : ¬ Zw S B w.heap.size := by
  rintro (h | h)
  ·have := hS _ h; omega
  ·omega
 have hnZ : ¬ Zw S B (w.heap.size + 1 + 1) := by
  rintro (h | h)
  ·have := hS _ h; omega
  ·omega
 have hBw : w.heap.size ≤ B := by omega
 clear hBe;have hlate : Xm (Zw S B) w1 (.slice al d.late.length cl) d.late := (hl.mono V3).grow gw;go_wp2_with fail
 refine Yz [px (.agg #[.slice ab d.blocks.length cb, .slice al d.late.length cl]), px (.int .i64 p), px (.int .i64 (2 * p)), px (.agg #[.int .i64 k, .int .i64 y, .int .i64 n, .slice ao l.length cp]), px (.int .i64 p), px (.int .i64 (2 * p)), pl ((fun v w => Z3 (Zw S B) w v (blk ⟨k, y, n, l⟩ (2 * p)))), pl (Zb3 (Zw S B) (.slice ab d.blocks.length cb) 0 (d.late ++ [(2 * p, blk ⟨k, y, n, l⟩ (2 * p))])), pl (Zb3 (Zw S B) (.slice ab d.blocks.length cb) 0 (d.late ++ [(2 * p, blk ⟨k, y, n, l⟩ (2 * p))])), pl (Zj8 (Zw S B) (.slice ab d.blocks.length cb) (d.late ++ [(2 * p, blk ⟨k, y, n, l⟩ (2 * p))])), px (.int .i64 0), pl1 9 ((fun _ v w' => Zu1 (Zw S B) w.heap.size (.slice ab d.blocks.length cb) (d.late ++ [(2 * p, blk ⟨k, y, n, l⟩ (2 * p))]) v w'))] [none, none, none, none, none, none, none, none, none, none, none, some ((fun w1 w2 => Zq w.heap.size w1 w2))] (Jr w w.heap.size 11 #[.slice ab d.blocks.length cb, .slice al d.late.length cl] #[.int .i64 k, .int .i64 y, .int .i64 n, .slice ao l.length cp] #[.slice none 0 0, .slice none 0 0] (Zw S B) (.slice al d.late.length cl) d.late) (by kernel_rfl) (by kernel_rfl) ⟨se, se, se, se, se, se, Yl (Zh2 _ _), Yl (Zi4 _ _ _ _), Yl (Zi4 _ _ _ _), Yl (Zo3 _ _ _), se, Zoz _ _ _ _ _, trivial⟩ ⟨⟨(fun w1 => Zq.refl _ w1), ⟨x5, x5, x5, x5, x5, x5, .inr ((fun v _ w w' hs hq => hq.but hs hnB)), .inr ((fun v _ w w' hs hq => Zi7 hnB hs hq)), .inr ((fun v _ w w' hs hq => Zi7 hnB hs hq)), .inr ((fun v _ w w' hs hq => Zo6 hnB hs hq)), x5, .inl (by kernel_rfl), trivial⟩⟩, trivial⟩ ⟨n5, n5, n5, n5, n5, n5, n5, n5, n5, n5, n5, fun _ _ _ _ h => h, trivial⟩ ⟨gw.drew, hbR, hbZ, hlate, fun _ => hbD⟩ ?_ ?_
 ·refine ⟨?_, ?_, ?_, ?_, ?_, ?_, ?_, ?_, ?_, ?_, ?_, ?_, trivial⟩
  ·refine Ze rfl fun a _ _ _ _ C B A => ?_;have e3 : a (.tmp 3) = .pointer (some ⟨w.heap.size, 0, none⟩) := Zn A 3 rfl;have na := C.not1 7 (by kernel_rfl);have nb := C.notBy 11 7 na (by kernel_rfl);have z0 := Zd (B.2.2.2.2 nb) 0 _ rfl;have z1 := Zd (B.2.2.2.2 nb) 1 _ rfl;refine Zk ?_ B rfl;clear A B C;go_simp;all_goals go_arith
  ·exact Ze rfl fun a _ _ _ _ _ B A => Z8 rfl B (Zn A 1 rfl)
  ·refine Ze rfl fun a _ _ _ _ _ B A => ?_;have e28 : a (.tmp 28) = _ := Zg A 1 rfl;refine Zk ?_ B rfl;clear A B;go_simp;all_goals go_arith
  ·refine Ze rfl fun a _ _ _ _ C B A => ?_;have e5 : a (.tmp 5) = .pointer (some ⟨w.heap.size + 1, 0, none⟩) := Zn A 5 rfl;have z0 := Zd B.2.1 0 _ rfl;have z1 := Zd B.2.1 1 _ rfl;have z2 := Zd B.2.1 2 _ rfl;have z3 := Zd B.2.1 3 _ rfl;refine Zk ?_ B rfl;clear A B C;go_simp;all_goals go_arith
  ·exact Ze rfl fun a _ _ _ _ _ B A => Z8 rfl B (Zn A 1 rfl)
  ·refine Ze rfl fun a _ _ _ _ _ B A => ?_;have e31 : a (.tmp 31) = _ := Zg A 4 rfl;refine Zk ?_ B rfl;clear A B;go_simp;all_goals go_arith
  ·refine Ze rfl fun a C _ _ _ E D A => ?_;have e30 : a (.tmp 30) = _ := Zg A 3 rfl;have e32 : a (.tmp 32) = _ := Zg A 5 rfl;refine Yh (f := 95) (args := #[.agg #[.int .i64 k, .int .i64 y, .int .i64 n, .slice ao l.length cp], .int .i64 (2 * p)]) ?_ ((Zee k y n (2 * p) l _ C (Z0 hv D.1) HR.out (by omega) (by omega)).mono ?_)
   ·clear A D E;go_simp;all_goals go_arith
   ·rintro e w2 ⟨v', rfl, ho, g2⟩;rw [← Qn ⟨k, y, n, l⟩ (2 * p) HL.out] at ho;have hz : B ≤ C.heap.size := Jr.size hB D;exact ⟨_, rfl, g2, Jr.grow D g2, (Zcr S ho).mono (Zz hz)⟩
  ·refine Ze rfl fun a C _ _ _ E D A => ?_;have e27 : a (.tmp 27) = _ := Zg A 0 rfl;have e29 : a (.tmp 29) = _ := Zg A 2 rfl;have e33 : ((fun v w => Z3 (Zw S B) w v (blk ⟨k, y, n, l⟩ (2 * p)))) (a (.tmp 33)) C := Zg A 6 rfl;obtain ⟨av, cv, hev, -, -⟩ := Yk e33.p;rw [hev] at e33;have hz : B ≤ C.heap.size := Jr.size hB D;refine Yh (f := 114) (args := #[.agg #[.slice ab d.blocks.length cb, .slice al d.late.length cl], .int .i64 (2 * p), .slice av (blk ⟨k, y, n, l⟩ (2 * p)).length cv]) ?_ ((Zdh (Zw S B) ⟨d.blocks, d.late⟩ (2 * p) (blk ⟨k, y, n, l⟩ (2 * p)) _ _ _ C (hb.grow D.1) D.2.2.2.1 e33 (by omega) (by show (2 * p) < (d.blocks.length : Int); omega) (Qn _ _ HL.out) (by show d.late.length ≤ _; omega)).mono ?_)
   ·clear A D E e33;generalize (blk ⟨k, y, n, l⟩ (2 * p)).length = bl at *;go_simp;all_goals go_arith
   ·rintro e w2 ⟨vl', rfl, hlt, g2⟩;exact ⟨_, rfl, g2, Jr.grow D g2, vl', rfl, hlt.mono (fun b hb => hb.elim (fun x => x) (fun x => .inr (Nat.le_trans hz x)))⟩
  ·refine Ze rfl fun a C _ _ _ _ D A => ?_;have e : (Zb3 (Zw S B) (.slice ab d.blocks.length cb) 0 (d.late ++ [(2 * p, blk ⟨k, y, n, l⟩ (2 * p))])) (a (.tmp 34)) C := Zg A 7 rfl;exact Z8 rfl D e
  ·refine Ze rfl fun a C _ _ _ E D A => ?_;have e26 : (Zb3 (Zw S B) (.slice ab d.blocks.length cb) 0 (d.late ++ [(2 * p, blk ⟨k, y, n, l⟩ (2 * p))])) (a (.tmp 26)) C := Zg A 8 rfl;obtain ⟨vl', hvl, hlt⟩ := e26;refine Zk (v := .agg #[.slice ab d.blocks.length cb, vl']) ?_ D ⟨vl', rfl, hlt⟩;clear A D E hlt;go_simp;all_goals go_arith
  ·refine Ze rfl fun a C _ _ _ E D A => ?_;have e26 : (Zb3 (Zw S B) (.slice ab d.blocks.length cb) 0 (d.late ++ [(2 * p, blk ⟨k, y, n, l⟩ (2 * p))])) (a (.tmp 26)) C := Zg A 8 rfl;obtain ⟨vl', hvl, hlt⟩ := e26;refine Zk ?_ D rfl;clear A D E hlt;go_simp;all_goals go_arith
  ·refine Ze rfl fun a w' _ _ _ D C A => ?_;have e3 : a (.tmp 3) = .pointer (some ⟨w.heap.size, 0, none⟩) := Zn A 3 rfl;have e35 : (Zj8 (Zw S B) (.slice ab d.blocks.length cb) (d.late ++ [(2 * p, blk ⟨k, y, n, l⟩ (2 * p))])) (a (.tmp 35)) w' := Zg A 9 rfl;obtain ⟨vl', hvl, hlt⟩ := e35;obtain ⟨a2, c2, rfl⟩ := hlt.p.form;have hh := C.2.2.2.2 D.un;obtain ⟨hp1, hp2⟩ := Xt hh (.slice ab d.blocks.length cb) (.slice a2 (d.late ++ [(2 * p, blk ⟨k, y, n, l⟩ (2 * p))]).length c2);obtain ⟨y0, y1⟩ := Xb hh rfl rfl;have f0 := Zl hh 0;have f1 := Zl hh 1;have cs := Zt;refine Yj (w' := _) ?_ hp2 ⟨hp2.grow C.1 (Nat.le_refl _), (hp2.block _ (Za C.2.1) (by omega)).trans C.2.1, (hp2.block _ (Za C.2.2.1) (by omega)).trans C.2.2.1, C.2.2.2.1.but hp2 hnB, fun h => by simp [upd] at h⟩ ⟨_, hvl, hp1, hlt.but hp2 hnB⟩;clear A C D hp1 hp2 hlt hh;generalize (d.late ++ [(2 * p, blk ⟨k, y, n, l⟩ (2 * p))]).length = nl at *;go_simp;all_goals go_arith
 ·intro vs w' dn hdn hg ht;obtain ⟨q27, q28, q29, q30, q31, q32, q33, q34, q26, q35, q36, qo11, -⟩ := ht;have r27 : vs 0 = _ := q27;have r28 : vs 1 = _ := q28;have r29 : vs 2 = _ := q29;have r30 : vs 3 = _ := q30;have r31 : vs 4 = _ := q31;have r32 : vs 5 = _ := q32;replace q33 : ((fun v w => Z3 (Zw S B) w v (blk ⟨k, y, n, l⟩ (2 * p)))) (vs 6) w' := q33;replace q34 : (Zb3 (Zw S B) (.slice ab d.blocks.length cb) 0 (d.late ++ [(2 * p, blk ⟨k, y, n, l⟩ (2 * p))])) (vs 7) w' := q34;replace q26 : (Zb3 (Zw S B) (.slice ab d.blocks.length cb) 0 (d.late ++ [(2 * p, blk ⟨k, y, n, l⟩ (2 * p))])) (vs 8) w' := q26;replace q35 : (Zj8 (Zw S B) (.slice ab d.blocks.length cb) (d.late ++ [(2 * p, blk ⟨k, y, n, l⟩ (2 * p))])) (vs 9) w' := q35;have r36 : vs 10 = _ := q36;replace qo11 : ((fun _ v w' => Zu1 (Zw S B) w.heap.size (.slice ab d.blocks.length cb) (d.late ++ [(2 * p, blk ⟨k, y, n, l⟩ (2 * p))]) v w')) (vs 11) (vs 9) w' := qo11;clear q27 q28 q29 q30 q31 q32 q36;simp only [Yf, Act.put, List.setIfInBounds_toArray, List.set_cons_zero, List.set_cons_succ, Nat.reduceAdd, r27, r28, r29, r30, r31, r32, r36];clear r27 r28 r29 r30 r31 r32 r36;obtain ⟨vl1, hv1, hb1, hl1⟩ := qo11;obtain ⟨a1, c1, rfl⟩ := hl1.p.form;have gw2 := hg.1;have hbR2 := hg.2.1;have hbZ2 := hg.2.2.1;clear hg q33 q34 q26 q35 gw hbR hbZ hbD hlate hdn;have gw := gw2;have hbR := hbR2;have hbZ := hbZ2;have hbD := hb1;have hlate := hl1;clear gw2 hbR2 hbZ2 hb1 hl1
  have hm2 : (d.late ++ [(2 * p, blk ⟨k, y, n, l⟩ (2 * p))]).length ≤ 1000000 := by simp; omega
  rw [hv1];clear hv1;generalize vs 6 = u6;generalize vs 7 = u7;generalize vs 8 = u8;go_wp2_with fail
  refine Yz [px (.agg #[.slice ab d.blocks.length cb, .slice a1 (d.late ++ [(2 * p, blk ⟨k, y, n, l⟩ (2 * p))]).length c1]), px (.int .i64 p), px (.int .i64 (2 * p)), px (.int .i64 (2 * p + 1)), px (.agg #[.int .i64 k, .int .i64 y, .int .i64 n, .slice ao l.length cp]), px (.int .i64 p), px (.int .i64 (2 * p)), px (.int .i64 (2 * p + 1)), pl ((fun v w => Z3 (Zw S B) w v (blk ⟨k, y, n, l⟩ (2 * p + 1)))), pl (Zb3 (Zw S B) (.slice ab d.blocks.length cb) 0 (d.late ++ [(2 * p, blk ⟨k, y, n, l⟩ (2 * p))] ++ [(2 * p + 1, blk ⟨k, y, n, l⟩ (2 * p + 1))])), pl (Zb3 (Zw S B) (.slice ab d.blocks.length cb) 0 (d.late ++ [(2 * p, blk ⟨k, y, n, l⟩ (2 * p))] ++ [(2 * p + 1, blk ⟨k, y, n, l⟩ (2 * p + 1))])), pl (Zj8 (Zw S B) (.slice ab d.blocks.length cb) (d.late ++ [(2 * p, blk ⟨k, y, n, l⟩ (2 * p))] ++ [(2 * p + 1, blk ⟨k, y, n, l⟩ (2 * p + 1))])), px (.int .i64 0), pl1 11 ((fun _ v w' => Zu1 (Zw S B) w.heap.size (.slice ab d.blocks.length cb) (d.late ++ [(2 * p, blk ⟨k, y, n, l⟩ (2 * p))] ++ [(2 * p + 1, blk ⟨k, y, n, l⟩ (2 * p + 1))]) v w'))] [none, none, none, none, none, none, none, none, none, none, none, none, none, some ((fun w1 w2 => Zq w.heap.size w1 w2))] (Jr w w.heap.size 13 #[.slice ab d.blocks.length cb, .slice a1 (d.late ++ [(2 * p, blk ⟨k, y, n, l⟩ (2 * p))]).length c1] #[.int .i64 k, .int .i64 y, .int .i64 n, .slice ao l.length cp] #[.slice none 0 0, .slice none 0 0] (Zw S B) (.slice a1 (d.late ++ [(2 * p, blk ⟨k, y, n, l⟩ (2 * p))]).length c1) (d.late ++ [(2 * p, blk ⟨k, y, n, l⟩ (2 * p))])) (by kernel_rfl) (by kernel_rfl) ⟨se, se, se, se, se, se, se, se, Yl (Zh2 _ _), Yl (Zi4 _ _ _ _), Yl (Zi4 _ _ _ _), Yl (Zo3 _ _ _), se, Zoz _ _ _ _ _, trivial⟩ ⟨⟨(fun w1 => Zq.refl _ w1), ⟨x5, x5, x5, x5, x5, x5, x5, x5, .inr ((fun v _ w w' hs hq => hq.but hs hnB)), .inr ((fun v _ w w' hs hq => Zi7 hnB hs hq)), .inr ((fun v _ w w' hs hq => Zi7 hnB hs hq)), .inr ((fun v _ w w' hs hq => Zo6 hnB hs hq)), x5, .inl (by kernel_rfl), trivial⟩⟩, trivial⟩ ⟨n5, n5, n5, n5, n5, n5, n5, n5, n5, n5, n5, n5, n5, fun _ _ _ _ h => h, trivial⟩ ⟨gw.drew, hbR, hbZ, hlate, fun _ => hbD⟩ ?_ ?_
  ·refine ⟨?_, ?_, ?_, ?_, ?_, ?_, ?_, ?_, ?_, ?_, ?_, ?_, ?_, ?_, trivial⟩
   ·refine Ze rfl fun a _ _ _ _ C B A => ?_;have e3 : a (.tmp 3) = .pointer (some ⟨w.heap.size, 0, none⟩) := Zn A 3 rfl;have na := C.not1 9 (by kernel_rfl);have nb := C.notBy 13 9 na (by kernel_rfl);have z0 := Zd (B.2.2.2.2 nb) 0 _ rfl;have z1 := Zd (B.2.2.2.2 nb) 1 _ rfl;refine Zk ?_ B rfl;clear A B C;go_simp;all_goals go_arith
   ·exact Ze rfl fun a _ _ _ _ _ B A => Z8 rfl B (Zn A 1 rfl)
   ·refine Ze rfl fun a _ _ _ _ _ B A => ?_;have e39 : a (.tmp 39) = _ := Zg A 1 rfl;refine Zk ?_ B rfl;clear A B;go_simp;all_goals go_arith
   ·refine Ze rfl fun a _ _ _ _ _ B A => ?_;have e40 : a (.tmp 40) = _ := Zg A 2 rfl;refine Zk ?_ B rfl;clear A B;go_simp;all_goals go_arith
   ·refine Ze rfl fun a _ _ _ _ C B A => ?_;have e5 : a (.tmp 5) = .pointer (some ⟨w.heap.size + 1, 0, none⟩) := Zn A 5 rfl;have z0 := Zd B.2.1 0 _ rfl;have z1 := Zd B.2.1 1 _ rfl;have z2 := Zd B.2.1 2 _ rfl;have z3 := Zd B.2.1 3 _ rfl;refine Zk ?_ B rfl;clear A B C;go_simp;all_goals go_arith
   ·exact Ze rfl fun a _ _ _ _ _ B A => Z8 rfl B (Zn A 1 rfl)
   ·refine Ze rfl fun a _ _ _ _ _ B A => ?_;have e43 : a (.tmp 43) = _ := Zg A 5 rfl;refine Zk ?_ B rfl;clear A B;go_simp;all_goals go_arith
   ·refine Ze rfl fun a _ _ _ _ _ B A => ?_;have e44 : a (.tmp 44) = _ := Zg A 6 rfl;refine Zk ?_ B rfl;clear A B;go_simp;all_goals go_arith
   ·refine Ze rfl fun a C _ _ _ E D A => ?_;have e42 : a (.tmp 42) = _ := Zg A 4 rfl;have e45 : a (.tmp 45) = _ := Zg A 7 rfl;refine Yh (f := 95) (args := #[.agg #[.int .i64 k, .int .i64 y, .int .i64 n, .slice ao l.length cp], .int .i64 (2 * p + 1)]) ?_ ((Zee k y n (2 * p + 1) l _ C (Z0 hv D.1) HR.out (by omega) (by omega)).mono ?_)
    ·clear A D E;go_simp;all_goals go_arith
    ·rintro e w2 ⟨v', rfl, ho, g2⟩;rw [← Qn ⟨k, y, n, l⟩ (2 * p + 1) HL.out] at ho;have hz : B ≤ C.heap.size := Jr.size hB D;exact ⟨_, rfl, g2, Jr.grow D g2, (Zcr S ho).mono (Zz hz)⟩
   ·refine Ze rfl fun a C _ _ _ E D A => ?_;have e38 : a (.tmp 38) = _ := Zg A 0 rfl;have e41 : a (.tmp 41) = _ := Zg A 3 rfl;have e46 : ((fun v w => Z3 (Zw S B) w v (blk ⟨k, y, n, l⟩ (2 * p + 1)))) (a (.tmp 46)) C := Zg A 8 rfl;obtain ⟨av, cv, hev, -, -⟩ := Yk e46.p;rw [hev] at e46;have hz : B ≤ C.heap.size := Jr.size hB D;refine Yh (f := 114) (args := #[.agg #[.slice ab d.blocks.length cb, .slice a1 (d.late ++ [(2 * p, blk ⟨k, y, n, l⟩ (2 * p))]).length c1], .int .i64 (2 * p + 1), .slice av (blk ⟨k, y, n, l⟩ (2 * p + 1)).length cv]) ?_ ((Zdh (Zw S B) ⟨d.blocks, (d.late ++ [(2 * p, blk ⟨k, y, n, l⟩ (2 * p))])⟩ (2 * p + 1) (blk ⟨k, y, n, l⟩ (2 * p + 1)) _ _ _ C (hb.grow D.1) D.2.2.2.1 e46 (by omega) (by show (2 * p + 1) < (d.blocks.length : Int); omega) (Qn _ _ HL.out) (by exact hm2)).mono ?_)
    ·clear A D E e46;generalize (blk ⟨k, y, n, l⟩ (2 * p + 1)).length = bl at *;go_simp;all_goals go_arith
    ·rintro e w2 ⟨vl', rfl, hlt, g2⟩;exact ⟨_, rfl, g2, Jr.grow D g2, vl', rfl, hlt.mono (fun b hb => hb.elim (fun x => x) (fun x => .inr (Nat.le_trans hz x)))⟩
   ·refine Ze rfl fun a C _ _ _ _ D A => ?_;have e : (Zb3 (Zw S B) (.slice ab d.blocks.length cb) 0 (d.late ++ [(2 * p, blk ⟨k, y, n, l⟩ (2 * p))] ++ [(2 * p + 1, blk ⟨k, y, n, l⟩ (2 * p + 1))])) (a (.tmp 47)) C := Zg A 9 rfl;exact Z8 rfl D e
   ·refine Ze rfl fun a C _ _ _ E D A => ?_;have e37 : (Zb3 (Zw S B) (.slice ab d.blocks.length cb) 0 (d.late ++ [(2 * p, blk ⟨k, y, n, l⟩ (2 * p))] ++ [(2 * p + 1, blk ⟨k, y, n, l⟩ (2 * p + 1))])) (a (.tmp 37)) C := Zg A 10 rfl;obtain ⟨vl', hvl, hlt⟩ := e37;refine Zk (v := .agg #[.slice ab d.blocks.length cb, vl']) ?_ D ⟨vl', rfl, hlt⟩;clear A D E hlt;go_simp;all_goals go_arith
   ·refine Ze rfl fun a C _ _ _ E D A => ?_;have e37 : (Zb3 (Zw S B) (.slice ab d.blocks.length cb) 0 (d.late ++ [(2 * p, blk ⟨k, y, n, l⟩ (2 * p))] ++ [(2 * p + 1, blk ⟨k, y, n, l⟩ (2 * p + 1))])) (a (.tmp 37)) C := Zg A 10 rfl;obtain ⟨vl', hvl, hlt⟩ := e37;refine Zk ?_ D rfl;clear A D E hlt;go_simp;all_goals go_arith
   ·refine Ze rfl fun a w' _ _ _ D C A => ?_;have e3 : a (.tmp 3) = .pointer (some ⟨w.heap.size, 0, none⟩) := Zn A 3 rfl;have e48 : (Zj8 (Zw S B) (.slice ab d.blocks.length cb) (d.late ++ [(2 * p, blk ⟨k, y, n, l⟩ (2 * p))] ++ [(2 * p + 1, blk ⟨k, y, n, l⟩ (2 * p + 1))])) (a (.tmp 48)) w' := Zg A 11 rfl;obtain ⟨vl', hvl, hlt⟩ := e48;obtain ⟨a2, c2, rfl⟩ := hlt.p.form;have hh := C.2.2.2.2 D.un;obtain ⟨hp1, hp2⟩ := Xt hh (.slice ab d.blocks.length cb) (.slice a2 (d.late ++ [(2 * p, blk ⟨k, y, n, l⟩ (2 * p))] ++ [(2 * p + 1, blk ⟨k, y, n, l⟩ (2 * p + 1))]).length c2);obtain ⟨y0, y1⟩ := Xb hh rfl rfl;have f0 := Zl hh 0;have f1 := Zl hh 1;have cs := Zt;refine Yj (w' := _) ?_ hp2 ⟨hp2.grow C.1 (Nat.le_refl _), (hp2.block _ (Za C.2.1) (by omega)).trans C.2.1, (hp2.block _ (Za C.2.2.1) (by omega)).trans C.2.2.1, C.2.2.2.1.but hp2 hnB, fun h => by simp [upd] at h⟩ ⟨_, hvl, hp1, hlt.but hp2 hnB⟩;clear A C D hp1 hp2 hlt hh;generalize (d.late ++ [(2 * p, blk ⟨k, y, n, l⟩ (2 * p))] ++ [(2 * p + 1, blk ⟨k, y, n, l⟩ (2 * p + 1))]).length = nl at *;go_simp;all_goals go_arith
  ·intro vs w' dn hdn hg ht;obtain ⟨q38, q39, q40, q41, q42, q43, q44, q45, q46, q47, q37, q48, q49, qo13, -⟩ := ht;have r38 : vs 0 = _ := q38;have r39 : vs 1 = _ := q39;have r40 : vs 2 = _ := q40;have r41 : vs 3 = _ := q41;have r42 : vs 4 = _ := q42;have r43 : vs 5 = _ := q43;have r44 : vs 6 = _ := q44;have r45 : vs 7 = _ := q45;replace q46 : ((fun v w => Z3 (Zw S B) w v (blk ⟨k, y, n, l⟩ (2 * p + 1)))) (vs 8) w' := q46;replace q47 : (Zb3 (Zw S B) (.slice ab d.blocks.length cb) 0 (d.late ++ [(2 * p, blk ⟨k, y, n, l⟩ (2 * p))] ++ [(2 * p + 1, blk ⟨k, y, n, l⟩ (2 * p + 1))])) (vs 9) w' := q47;replace q37 : (Zb3 (Zw S B) (.slice ab d.blocks.length cb) 0 (d.late ++ [(2 * p, blk ⟨k, y, n, l⟩ (2 * p))] ++ [(2 * p + 1, blk ⟨k, y, n, l⟩ (2 * p + 1))])) (vs 10) w' := q37;replace q48 : (Zj8 (Zw S B) (.slice ab d.blocks.length cb) (d.late ++ [(2 * p, blk ⟨k, y, n, l⟩ (2 * p))] ++ [(2 * p + 1, blk ⟨k, y, n, l⟩ (2 * p + 1))])) (vs 11) w' := q48;have r49 : vs 12 = _ := q49;replace qo13 : ((fun _ v w' => Zu1 (Zw S B) w.heap.size (.slice ab d.blocks.length cb) (d.late ++ [(2 * p, blk ⟨k, y, n, l⟩ (2 * p))] ++ [(2 * p + 1, blk ⟨k, y, n, l⟩ (2 * p + 1))]) v w')) (vs 13) (vs 11) w' := qo13;clear q38 q39 q40 q41 q42 q43 q44 q45 q49;simp only [Yf, Act.put, List.setIfInBounds_toArray, List.set_cons_zero, List.set_cons_succ, Nat.reduceAdd, r38, r39, r40, r41, r42, r43, r44, r45, r49];clear r38 r39 r40 r41 r42 r43 r44 r45 r49;obtain ⟨vl2, hv2, hb2, hl2⟩ := qo13;obtain ⟨a2, c2, rfl⟩ := hl2.p.form
   have gw2 := hg.1;have hbZ2 := hg.2.2.1;clear hg q46 q47 q37 q48 gw hbR hbZ hbD hlate hdn;rw [hv2];clear hv2;generalize vs 8 = u9;generalize vs 9 = u10;generalize vs 10 = u11;obtain ⟨x0, x1⟩ := Xb hb2 rfl rfl;obtain ⟨y0, y1⟩ := Xb hbZ2 rfl rfl;have f0 := Zl hbZ2 0;have f1 := Zl hbZ2 1;have cs := Zt;generalize hws : d.late ++ [(2 * p, blk ⟨k, y, n, l⟩ (2 * p))] ++ [(2 * p + 1, blk ⟨k, y, n, l⟩ (2 * p + 1))] = ws at *;have HWS : Hid (_ = ws) := hws;clear hws hm2;go_wp2_with fail;have gB : Zq (w.heap.size + 1 + 1) w' ((w'.setCell ⟨w.heap.size + 1 + 1, 0, none⟩ (.slice ab d.blocks.length cb)).setCell ⟨w.heap.size + 1 + 1, 1, none⟩ (.slice a2 ws.length c2)) := ((Zq.refl _ _).set _ _ _).set _ _ _;refine bodyPost_ret (v := .tuple #[.agg #[.slice ab d.blocks.length cb, .slice a2 ws.length c2], .int .i64 0]) (by simp [results, Tryz.results75, go_sem, y0, y1, cs]) rfl ⟨_, rfl, ?_, gB.grow gw2 (by omega)⟩;have hwe : (d.pairW p ⟨k, y, n, l⟩).late = ws := by rw [← HWS.out]; simp [Dk.pairW]
   rw [hwe];exact (hl2.but gB hnZ).mono (Zz hBw)
theorem Zne (d : Dk) (p : Int) (k y n : Int) (l : List UInt8) (vb vl v : Value) (w : World) (hb : Xo w vb d.blocks) (hl : Vm w vl d.late) (hv : Bytes w v l) (hlen : d.blocks.length ≤ 256) (hn : d.pairE p ⟨k, y, n, l⟩ ≠ 0) :
  Calls Tryz.prog 75 #[.agg #[vb, vl], .int .i64 p, .agg #[.int .i64 k, .int .i64 y, .int .i64 n, v]] w fun e w' => e = .returned (.tuple #[.agg #[vb, vl], .int .i64 (d.pairE p ⟨k, y, n, l⟩)]) ∧ Zp w w' := by
 obtain ⟨ab, cb, rfl⟩ := hb.form;obtain ⟨al, cl, rfl⟩ := hl.form;obtain ⟨ao, cp, rfl, -, -⟩ := Yk hv;have hq : (d.blocks.length : Int).tdiv 2 = ((d.blocks.length / 2 : Nat) : Int) := by rw [Int.tdiv_eq_ediv_of_nonneg (by omega)]; omega
 by_cases hout : p < 0 ∨ ((d.blocks.length / 2 : Nat) : Int) ≤ p
 ·have HE : Hid (d.pairE p ⟨k, y, n, l⟩ = 3) := by show d.pairE _ _ = 3; unfold Dk.pairE; rw [if_pos hout]
  rw [HE.out];clear hn hb hl hv;by_cases h0 : p < 0
  all_goals
   first | (have h1 : ((d.blocks.length / 2 : Nat) : Int) ≤ p := by omega) | skip
   clear hout;go_enter Tryz.func75, Tryz.ntmps75;go_wp2_with fail;exact bodyPost_ret (v := .tuple #[.agg #[.slice ab d.blocks.length cb, .slice al d.late.length cl], .int .i64 3]) (by simp [results, Tryz.results75, go_sem]) rfl ⟨rfl, (Zr _ _ _).trans (Zc _ _)⟩
 ·have HE : Hid (d.pairE p ⟨k, y, n, l⟩ = Yd ⟨k, y, n, l⟩) := by show d.pairE _ _ = _; unfold Dk.pairE; rw [if_neg hout]
  rw [HE.out] at hn ⊢;have d0 : (Yd ⟨k, y, n, l⟩ != 0) = true := by simpa using hn
  have h0 : 0 ≤ p := by omega
  have h1 : p < ((d.blocks.length / 2 : Nat) : Int) := by omega
  clear hn hout hb hl;go_enter Tryz.func75, Tryz.ntmps75;go_wp2_with fail;refine (Zc1 k y n l _ _ (by exact Z0 hv ((Zr _ _ _).trans (Zc _ _)))).mono ?_;rintro e w1 ⟨rfl, g1⟩;have gw : Zp w w1 := ((Zr _ _ _).trans (Zc _ _)).trans g1;have hbD : w1.heap[w.heap.size]? = some (.cells #[.slice ab d.blocks.length cb, .slice al d.late.length cl] 26 (0, 0)) :=
   (((Zr _ _ _).trans g1).block _ (by simp)).trans (Zj _ _ _)
  have hbZ : w1.heap[w.heap.size + 1 + 1]? = some (.cells #[.slice none 0 0, .slice none 0 0] 26 (0, 0)) := by
   have h := Zj ((w.alloc (.cells #[.slice ab d.blocks.length cb, .slice al d.late.length cl] 26)).alloc (.cells #[.int .i64 k, .int .i64 y, .int .i64 n, .slice ao l.length cp] 61)) #[.slice none 0 0, .slice none 0 0] 26;rw [World.size_alloc, World.size_alloc] at h;exact (g1.block _ (by simp)).trans h
  clear g1;obtain ⟨x0, x1⟩ := Xb hbD rfl rfl;obtain ⟨y0, y1⟩ := Xb hbZ rfl rfl;have f0 := Zl hbZ 0;have f1 := Zl hbZ 1;have cs := Zt;go_wp2_with fail;have gB : Zq (w.heap.size + 1 + 1) w1 ((w1.setCell ⟨w.heap.size + 1 + 1, 0, none⟩ (.slice ab d.blocks.length cb)).setCell ⟨w.heap.size + 1 + 1, 1, none⟩ (.slice al d.late.length cl)) := ((Zq.refl _ _).set _ _ _).set _ _ _;exact bodyPost_ret (v := .tuple #[.agg #[.slice ab d.blocks.length cb, .slice al d.late.length cl], .int .i64 (Yd ⟨k, y, n, l⟩)]) (by simp [results, Tryz.results75, go_sem, y0, y1, cs]) rfl ⟨rfl, gB.grow gw (by omega)⟩
theorem Ze2 (S : Nat → Prop) (d : Dk) (p : Int) (k y n : Int) (l : List UInt8) (vb vl v : Value) (w : World) (hS : ∀ b, S b → b < w.heap.size) (hb : Xo w vb d.blocks) (hl : Xm S w vl d.late) (hv : Bytes w v l) (hlen : d.blocks.length ≤ 256) (hm : d.late.length ≤ 999990) :
  Calls Tryz.prog 75 #[.agg #[vb, vl], .int .i64 p, .agg #[.int .i64 k, .int .i64 y, .int .i64 n, v]] w fun e w' => ∃ vl', e = .returned (.tuple #[.agg #[vb, vl'], .int .i64 (d.pairE p ⟨k, y, n, l⟩)]) ∧ Xm (Zw S w.heap.size) w' vl' (d.pairD p ⟨k, y, n, l⟩).late ∧ Zp w w' := by
 by_cases he : d.pairE p ⟨k, y, n, l⟩ = 0
 ·have hd : d.pairD p ⟨k, y, n, l⟩ = d.pairW p ⟨k, y, n, l⟩ := by unfold Dk.pairD; rw [if_pos he]
  rw [he, hd];unfold Dk.pairE at he;by_cases hout : p < 0 ∨ ((d.blocks.length / 2 : Nat) : Int) ≤ p
  ·rw [if_pos hout] at he; omega
  ·rw [if_neg hout] at he;exact Zk3 S d p k y n l vb vl v w hS hb hl hv (by omega) (by omega) he hlen hm
 ·have hd : d.pairD p ⟨k, y, n, l⟩ = d := by unfold Dk.pairD; rw [if_neg he]
  rw [hd];exact (Zne d p k y n l vb vl v w hb hl.p hv hlen he).mono fun e w' ⟨h1, h2⟩ => ⟨vl, h1, (hl.grow h2).mono V3, h2⟩
end Go.Proofs.YtpdnapbchcdhlacGreat
