import Derived.Test.YtgaecpdokgklpacGreatRPlay
set_option maxHeartbeats 8000000
namespace Go.Proofs.YtgaecpdokgklpacGreat
set_option maxRecDepth 100000
open Go.RowKit
open Plain Reg
theorem Zwl {s : St} (h : s.At) : s.idx.length ≤ 6 := by
 obtain ⟨h1, h2⟩ := (X4 _).1 h.ok.right;have hn : (s.idx.map fun x => x.pair.toNat).Nodup := by
  rw [List.nodup_iff_pairwise_ne, List.pairwise_map];refine List.Pairwise.imp_of_mem ?_ h1;intro a b ha hb hu e;have ha0 := (h2 a ha).2.2.1;have hb0 := (h2 b hb).2.2.1;exact hu.2 (by omega)
 have := Zek _ (List.range 6) hn (fun x hx => by
  obtain ⟨e, he, rfl⟩ := List.mem_map.1 hx;have := h.ok.six e he;rw [List.mem_range];have := (h2 e he).2.2.1;omega)
 simpa using this
theorem Z4.any {S : Nat → Prop} {s : St} {v : Value} {w : World} (h : Z4 S s v w) : Z4 (fun _ => True) s v w := h.mono fun _ _ => trivial
theorem Z4.now {s : St} {v : Value} {w : World} (h : Z4 (fun _ => True) s v w) : Z4 (fun b => b < w.heap.size) s v w := h.capd.mono fun _ h => h.2
theorem Zhq {S : Nat → Prop} {w : World} {v : Value} {l : List UInt8} (h : Z3 S w v l) : Z3 (fun b => b < w.heap.size) w v l := h.caps.mono fun _ h => h.2
theorem Zw4 {l : List Int} {i : Nat} (h : i < l.length) : (l.map iv)[i]? = some (.int .i64 l[i]) := by simp [iv, h]
theorem Zcv {w : World} {base n : Nat} {e : TypeId} {v : Value} {xs : List Value} (h : w.ownsRow base e 1 v n xs) (hn : 0 < n) : ∃ g c, v = .slice (some ⟨g, 0, none⟩) n c ∧ base ≤ g ∧ g < w.heap.size := by
 rcases h.2 with ⟨_, h0⟩ | ⟨g, c, cur, h1, h2, h3, _⟩
 ·omega
 ·exact ⟨g, c, h1, h2, Za h3⟩
def Zve : Prop := ∀ (S : Nat → Prop) (s : St) (x : Sp) (v : Value) (ad : Option Addr) (c : Nat) (w : World), (∀ b, S b → b < w.heap.size) → Z4 S s v w → Z3 S w (.slice ad x.deed.data.length c) x.deed.data → s.At → x.deed.data.length ≤ 140737488355328 →
 Calls Tryz.prog 17 #[v, .agg #[.int .i64 x.kind, .int .i64 x.n, .int .i64 x.m, .int .i64 x.deed.kind, .int .i64 x.deed.key, .int .i64 x.deed.num, .slice ad x.deed.data.length c]] w fun r w' => ∃ v', r = .returned (.tuple #[v', .int .i64 (s.step x).n, .int .i64 (s.step x).e]) ∧ Z4 (Zw S w.heap.size) (s.step x).st v' w' ∧ Zo w w'
def Zod : Prop := ∀ (S : Nat → Prop) (l : List Sp) (v : Value) (w : World), (∀ b, S b → b < w.heap.size) → Zci S w v l → l.length ≤ 100 → (∀ x ∈ l, x.deed.data.length ≤ 140737488355328) →
 Calls Tryz.prog 16 #[v] w fun r w' => ∃ v' ev nv, r = .returned (.tuple #[v', ev, nv, .int .i64 0]) ∧ Z4 (Zw S w.heap.size) (Xw l).1 v' w' ∧ w'.ownsRow w.heap.size 50 1 ev (Xw l).2.1.length ((Xw l).2.1.map iv) ∧ w'.ownsRow w.heap.size 3 1 nv (Xw l).2.2.length ((Xw l).2.2.map iv) ∧ Zo w w'
def Zoe : Prop := ∀ (l : List Sp) (v : Value) (w : World), Zci (fun _ => True) w v l → 100 < l.length → l.length ≤ 140737488355328 →
 Calls Tryz.prog 16 #[v] w fun r w' => r = .returned (.tuple #[.agg #[.slice none 0 0, .slice none 0 0, .slice none 0 0, .int .i64 0], .slice none 0 0, .slice none 0 0, .int .i64 5]) ∧ Zo w w'
theorem Zhu {s : St} (h : s.At) : s.dk.blocks.length ≤ 1000000 ∧ s.dk.late.length ≤ 1000000 ∧ s.idx.length ≤ 1000000 := ⟨by rw [h.ok.disk.len]; omega, by have := h.ok.disk.few; omega, by have := Zwl h; omega⟩
theorem Zru (l : List Sp) : (Xw l).2.1.length = l.length ∧ (Xw l).2.2.length = l.length := by
 obtain ⟨h1, h2⟩ := Zb9 l (Xf, [], []);exact ⟨h1.trans (by simp), h2.trans (by simp)⟩
theorem Zcw {w : World} {base n : Nat} {e : TypeId} {g c : Nat} {xs : List Int} (h : w.ownsRow base e 1 (.slice (some ⟨g, 0, none⟩) n c) n (xs.map iv)) {k : Nat} (hk : k < xs.length) (hn : n = xs.length) : w.cell? ⟨g, k, none⟩ = some (.int .i64 xs[k]) := by
 rw [h.cellAt k (by omega)]; exact Zw4 hk
theorem Zic (PD : Zve) (PP : Zod) (PM : Zoe) (l : List Sp) (x : Sp) (v : Value) (ad : Option Addr) (c : Nat) (w : World) (hl : Zci (fun b => b < w.heap.size) w v l) (hd : Z3 (fun b => b < w.heap.size) w (.slice ad x.deed.data.length c) x.deed.data) (hm : l.length ≤ 140737488355328) (hdl : ∀ x ∈ l, x.deed.data.length ≤ 140737488355328) (hdd : x.deed.data.length ≤ 140737488355328) :
  Calls Tryz.prog 5 #[v, .agg #[.int .i64 x.kind, .int .i64 x.n, .int .i64 x.m, .int .i64 x.deed.kind, .int .i64 x.deed.key, .int .i64 x.deed.num, .slice ad x.deed.data.length c]] w fun r w' => r = .returned (.bool true) ∧ Zo w w' := by
 obtain ⟨ao, cp, rfl⟩ := hl.form;have g0 := Zc w (.cells #[.int .i64 x.kind, .int .i64 x.n, .int .i64 x.m, .int .i64 x.deed.kind, .int .i64 x.deed.key, .int .i64 x.deed.num, .slice ad x.deed.data.length c] 49);have hX0 := Zj w #[.int .i64 x.kind, .int .i64 x.n, .int .i64 x.m, .int .i64 x.deed.kind, .int .i64 x.deed.key, .int .i64 x.deed.num, .slice ad x.deed.data.length c] 49;go_enter Tryz.func5, Tryz.ntmps5;go_wp2_with fail;generalize World.alloc w _ = W0 at *;by_cases hlen : l.length ≤ 100
 ·refine (PP (fun b => b < w.heap.size) l _ W0 (fun b h => Nat.lt_of_lt_of_le h g0.size) (hl.grow g0) hlen hdl).mono ?_;have HAT : Hid ((Xw l).1.At) := Zug _ _ Zih;have HLN : Hid ((Xw l).2.1.length = l.length ∧ (Xw l).2.2.length = l.length) := Zru l;have HTK : Hid (l.take 100 = l) := List.take_of_length_le hlen;obtain ⟨P, hP⟩ : ∃ P, P = Xw l := ⟨_, rfl⟩;rw [← hP] at HAT HLN ⊢;have HP : Hid _ := hP;clear hP;obtain ⟨s, es, ns⟩ := P;simp only at HAT HLN ⊢;rintro r w1 ⟨v1, ev, nv, rfl, hS1, he1, hn1, g1⟩;obtain ⟨b1, e1, l1, m1, i1, j1, hv1, -, -, -⟩ := hS1.form;subst hv1;obtain ⟨ae, ce, rfl⟩ := Z6 he1;obtain ⟨an, cn, rfl⟩ := Z6 hn1;have g2 := Zc w1 (.cells #[.slice b1 s.dk.blocks.length e1, .slice l1 s.dk.late.length m1, .slice i1 s.idx.length j1, .int .i64 s.next] 29);have hY2 := Zj w1 #[.slice b1 s.dk.blocks.length e1, .slice l1 s.dk.late.length m1, .slice i1 s.idx.length j1, .int .i64 s.next] 29;have hs2 := (hS1.grow g2).any;have hX2 := ((g1.trans g2).block _ (Za hX0)).trans hX0;have he2 := Z5 he1 g2;have hn2 := Z5 hn1 g2;have gw2 := g0.trans (g1.trans g2);clear hS1 he1 hn1 g1 g2 g0 hX0;go_wp2_with fail;obtain ⟨G, hG⟩ : ∃ G, G = w1.heap.size := ⟨_, rfl⟩;rw [← hG] at hY2 ⊢;clear hG;generalize World.alloc w1 _ = w2 at *;refine (Zou (fun b => b < w.heap.size) l _ w2 (fun b h => Nat.lt_of_lt_of_le h gw2.size) (hl.grow gw2) hm hdl).mono ?_;rw [HTK.out, ← HP.out];simp only;rintro r w3 ⟨v3, fv, mv, rfl, hS3, hf3, hm3, g3⟩;obtain ⟨b3, e3, l3, m3, i3, j3, hv3, -, -, -⟩ := hS3.form
  subst hv3;obtain ⟨af, cf, rfl⟩ := Z6 hf3;obtain ⟨am, cm, rfl⟩ := Z6 hm3;have g4 := Zc w3 (.cells #[.slice b3 s.dk.blocks.length e3, .slice l3 s.dk.late.length m3, .slice i3 s.idx.length j3, .int .i64 s.next] 29);have hZ4 := Zj w3 #[.slice b3 s.dk.blocks.length e3, .slice l3 s.dk.late.length m3, .slice i3 s.idx.length j3, .int .i64 s.next] 29;have gg := g3.trans g4;have hz4 := (hS3.grow g4).any;have hf4 := Z5 hf3 g4;have hm4 := Z5 hm3 g4;have hY4 := (gg.block _ (Za hY2)).trans hY2;have hX4 := (gg.block _ (Za hX2)).trans hX2;have hs4 := hs2.grow gg;have he4 := Z5 he2 gg;have hn4 := Z5 hn2 gg;have gw4 := gw2.trans gg;clear hS3 hf3 hm3 g3 g4 gg hY2 hX2 hs2 he2 hn2 gw2 HP HTK;obtain ⟨y0, y1, y2, y3⟩ := Z8 hY4 rfl rfl rfl rfl;obtain ⟨z0, z1, z2, z3⟩ := Z8 hZ4 rfl rfl rfl rfl;have d1 : ((es.length : Int) == (es.length : Int)) = true := by simp
  have d2 : ((ns.length : Int) == (ns.length : Int)) = true := by simp
  go_wp2_with fail;clear d1 d2;obtain ⟨Z, hZ⟩ : ∃ Z, Z = w3.heap.size := ⟨_, rfl⟩;rw [← hZ] at hZ4 ⊢;clear hZ y0 y1 y2 y3 z0 z1 z2 z3;generalize World.alloc w3 _ = w4 at *;obtain ⟨q1, q2, q3⟩ := Zhu HAT.out;refine (Ze5 s s _ _ _ _ w4 hs4 hz4 q1 q2 q3).mono ?_;rw [St.same_refl];rintro r W5 ⟨rfl, g5⟩;have hY5 := (g5.block _ (Za hY4)).trans hY4;have hZ5 := (g5.block _ (Za hZ4)).trans hZ4;have hX5 := (g5.block _ (Za hX4)).trans hX4;have hz5 := hz4.grow g5;have he5 := Z5 he4 g5;have hn5 := Z5 hn4 g5;have hf5 := Z5 hf4 g5;have hm5 := Z5 hm4 g5;have gw5 := gw4.trans g5;clear q1 q2 q3 hY4 hZ4 hX4 hs4 hz4 he4 hn4 hf4 hm4 gw4 g5;go_wp2_with fail;have hes : es.length ≤ 100 := by have := HLN.out; omega
  go_loopw [73] (fun i wr => ∃ k : Nat, k ≤ es.length ∧ i = .int .i64 (k : Int) ∧ Zo W5 wr) (fun i _ => es.length - (intOf i).toNat)
  case atStart => exact ⟨0, by omega, rfl, Zo.refl _⟩
  case round =>
   obtain ⟨k, hk, rfl, hgq⟩ := hrel;by_cases hlt : k < es.length
   ·have hkn : k < ns.length := by have := HLN.out; omega
    obtain ⟨ge, ke, ho, -, -⟩ := Zcv he5 (by omega);cases ho;obtain ⟨gf, kf, ho, -, -⟩ := Zcv hf5 (by omega);cases ho;obtain ⟨gn, kn, ho, -, -⟩ := Zcv hn5 (by omega);cases ho;obtain ⟨gm, km, ho, -, -⟩ := Zcv hm5 (by omega);cases ho;have o0 := Zcw (Z5 he5 hgq) hlt rfl;have o1 := Zcw (Z5 hf5 hgq) hlt rfl;have o2 := Zcw (Z5 hn5 hgq) hkn rfl;have o3 := Zcw (Z5 hm5 hgq) hkn rfl;generalize es[k] = xe at *;generalize ns[k] = xn at *;go_wp2_with fail;refine Ya [ex (.slice (some ⟨ge, 0, none⟩) es.length ce), ex (.int .i64 (k : Int)), ex (.pointer (some ⟨ge, k, none⟩)), ex (.int .i64 xe), ex (.slice (some ⟨gf, 0, none⟩) es.length cf), ex (.int .i64 (k : Int)), ex (.pointer (some ⟨gf, k, none⟩)), ex (.int .i64 xe), ex (.bool false), ex (.bool false), ex (.slice (some ⟨gn, 0, none⟩) ns.length cn), ex (.int .i64 (k : Int)), ex (.pointer (some ⟨gn, k, none⟩)), ex (.int .i64 xn), ex (.slice (some ⟨gm, 0, none⟩) ns.length cm), ex (.int .i64 (k : Int)), ex (.pointer (some ⟨gm, k, none⟩)), ex (.int .i64 xn), ex (.bool false), ex (.bool false)] (by kernel_rfl) (by kernel_rfl) ⟨Zh _, Zh _, Zh _, Zh _, Zh _, Zh _, Zh _, Zh _, Zh _, Zh _, Zh _, Zh _, Zh _, Zh _, Zh _, Zh _, Zh _, Zh _, Zh _, Zh _, trivial⟩ ?_ ?_
    ·refine ⟨?_, ?_, ?_, ?_, ?_, ?_, ?_, ?_, ?_, ?_, ?_, ?_, ?_, ?_, ?_, ?_, ?_, ?_, ?_, ?_, trivial⟩
     ·refine Zb rfl fun a w' ek ef hg hin => ?_;have e : a (.tmp 6) = .slice (some ⟨ge, 0, none⟩) es.length ce := Zx hin 6 rfl;exact Zt rfl e
     ·refine Zb rfl fun a w' ek ef hg hin => ?_;have e : a (.tmp 12) = .int .i64 (k : Int) := Zx hin 12 rfl;exact Zt rfl e
     ·refine Zb rfl fun a w' ek ef hg hin => ?_;have e76 : a (.tmp 76) = _ := Zg hin 0 rfl;have e77 : a (.tmp 77) = _ := Zg hin 1 rfl;refine Zi ?_ rfl;clear hin hg;go_simp;all_goals go_arith
     ·refine Zb rfl fun a w' ek ef hg hin => ?_;have e78 : a (.tmp 78) = _ := Zg hin 2 rfl;have z0 := (Below.cell hg (Zu o0)).trans o0;refine Zi ?_ rfl;clear hin hg;go_simp;all_goals go_arith
     ·refine Zb rfl fun a w' ek ef hg hin => ?_;have e : a (.tmp 10) = .slice (some ⟨gf, 0, none⟩) es.length cf := Zx hin 10 rfl;exact Zt rfl e
     ·refine Zb rfl fun a w' ek ef hg hin => ?_;have e : a (.tmp 12) = .int .i64 (k : Int) := Zx hin 12 rfl;exact Zt rfl e
     ·refine Zb rfl fun a w' ek ef hg hin => ?_;have e80 : a (.tmp 80) = _ := Zg hin 4 rfl;have e81 : a (.tmp 81) = _ := Zg hin 5 rfl;refine Zi ?_ rfl;clear hin hg;go_simp;all_goals go_arith
     ·refine Zb rfl fun a w' ek ef hg hin => ?_;have e82 : a (.tmp 82) = _ := Zg hin 6 rfl;have z0 := (Below.cell hg (Zu o1)).trans o1;refine Zi ?_ rfl;clear hin hg;go_simp;all_goals go_arith
     ·refine Zb rfl fun a w' ek ef hg hin => ?_;have e79 : a (.tmp 79) = _ := Zg hin 3 rfl;have e83 : a (.tmp 83) = _ := Zg hin 7 rfl;refine Zi ?_ rfl;clear hin hg;go_simp;all_goals go_arith
     ·refine Zb rfl fun a w' ek ef hg hin => ?_;have e : a (.tmp 84) = _ := Zg hin 8 rfl;exact Zt rfl e
     ·refine Zq 9 false rfl (fun a w' hin => Zp hin 9 (by kernel_rfl)) fun a w' ek ef hg hin => ?_;have e : a (.tmp 7) = .slice (some ⟨gn, 0, none⟩) ns.length cn := Zx hin 7 rfl;exact Zt rfl e
     ·refine Zq 9 false rfl (fun a w' hin => Zp hin 9 (by kernel_rfl)) fun a w' ek ef hg hin => ?_;have e : a (.tmp 12) = .int .i64 (k : Int) := Zx hin 12 rfl;exact Zt rfl e
     ·refine Zq 9 false rfl (fun a w' hin => Zp hin 9 (by kernel_rfl)) fun a w' ek ef hg hin => ?_;have e86 : a (.tmp 86) = _ := Zg hin 10 rfl;have e87 : a (.tmp 87) = _ := Zg hin 11 rfl;refine Zi ?_ rfl;clear hin hg;go_simp;all_goals go_arith
     ·refine Zq 9 false rfl (fun a w' hin => Zp hin 9 (by kernel_rfl)) fun a w' ek ef hg hin => ?_;have e88 : a (.tmp 88) = _ := Zg hin 12 rfl;have z0 := (Below.cell hg (Zu o2)).trans o2;refine Zi ?_ rfl;clear hin hg;go_simp;all_goals go_arith
     ·refine Zq 9 false rfl (fun a w' hin => Zp hin 9 (by kernel_rfl)) fun a w' ek ef hg hin => ?_;have e : a (.tmp 11) = .slice (some ⟨gm, 0, none⟩) ns.length cm := Zx hin 11 rfl;exact Zt rfl e
     ·refine Zq 9 false rfl (fun a w' hin => Zp hin 9 (by kernel_rfl)) fun a w' ek ef hg hin => ?_;have e : a (.tmp 12) = .int .i64 (k : Int) := Zx hin 12 rfl;exact Zt rfl e
     ·refine Zq 9 false rfl (fun a w' hin => Zp hin 9 (by kernel_rfl)) fun a w' ek ef hg hin => ?_;have e90 : a (.tmp 90) = _ := Zg hin 14 rfl;have e91 : a (.tmp 91) = _ := Zg hin 15 rfl;refine Zi ?_ rfl;clear hin hg;go_simp;all_goals go_arith
     ·refine Zq 9 false rfl (fun a w' hin => Zp hin 9 (by kernel_rfl)) fun a w' ek ef hg hin => ?_;have e92 : a (.tmp 92) = _ := Zg hin 16 rfl;have z0 := (Below.cell hg (Zu o3)).trans o3;refine Zi ?_ rfl;clear hin hg;go_simp;all_goals go_arith
     ·refine Zq 9 false rfl (fun a w' hin => Zp hin 9 (by kernel_rfl)) fun a w' ek ef hg hin => ?_;have e89 : a (.tmp 89) = _ := Zg hin 13 rfl;have e93 : a (.tmp 93) = _ := Zg hin 17 rfl;refine Zi ?_ rfl;clear hin hg;go_simp;all_goals go_arith
     ·refine Zb rfl fun a w' ek ef hg hin => ?_;have ec : a (.tmp 85) = _ := Zg hin 9 rfl;have e : a (.tmp 94) = _ := Zg hin 18 rfl;exact Xc rfl ec e
    ·intro vs w' hg ht;obtain ⟨q76, q77, q78, q79, q80, q81, q82, q83, q84, q85, q86, q87, q88, q89, q90, q91, q92, q93, q94, q95, -⟩ := ht;have r76 : vs 0 = .slice (some ⟨ge, 0, none⟩) es.length ce := q76;have r77 : vs 1 = .int .i64 (k : Int) := q77;have r78 : vs 2 = .pointer (some ⟨ge, k, none⟩) := q78;have r79 : vs 3 = .int .i64 xe := q79;have r80 : vs 4 = .slice (some ⟨gf, 0, none⟩) es.length cf := q80;have r81 : vs 5 = .int .i64 (k : Int) := q81;have r82 : vs 6 = .pointer (some ⟨gf, k, none⟩) := q82;have r83 : vs 7 = .int .i64 xe := q83;have r84 : vs 8 = .bool false := q84;have r85 : vs 9 = .bool false := q85;have r86 : vs 10 = .slice (some ⟨gn, 0, none⟩) ns.length cn := q86;have r87 : vs 11 = .int .i64 (k : Int) := q87;have r88 : vs 12 = .pointer (some ⟨gn, k, none⟩) := q88;have r89 : vs 13 = .int .i64 xn := q89;have r90 : vs 14 = .slice (some ⟨gm, 0, none⟩) ns.length cm := q90;have r91 : vs 15 = .int .i64 (k : Int) := q91;have r92 : vs 16 = .pointer (some ⟨gm, k, none⟩) := q92;have r93 : vs 17 = .int .i64 xn := q93;have r94 : vs 18 = .bool false := q94;have r95 : vs 19 = .bool false := q95;clear q76 q77 q78 q79 q80 q81 q82 q83 q84 q85 q86 q87 q88 q89 q90 q91 q92 q93 q94 q95;simp only [Yf, Act.put, List.setIfInBounds_toArray, List.set_cons_zero, List.set_cons_succ, r76, r77, r78, r79, r80, r81, r82, r83, r84, r85, r86, r87, r88, r89, r90, r91, r92, r93, r94, r95];clear r76 r77 r78 r79 r80 r81 r82 r83 r84 r85 r86 r87 r88 r89 r90 r91 r92 r93 r94 r95
     have hgE := hgq.trans hg;clear hg hgq o0 o1 o2 o3;go_wp2_with fail;go_roundw
     case rel => exact ⟨k + 1, by omega, by go_num, hgE⟩
     case measure => simp [intOf]; omega
   ·have hZ6 := (hgq.block _ (Za hZ5)).trans hZ5;have hX6 := (hgq.block _ (Za hX5)).trans hX5;have hz6 := hz5.grow hgq;have gw6 := gw5.trans hgq;clear hY5 hZ5 hX5 hz5 he5 hn5 hf5 hm5 gw5 hgq;obtain ⟨z0, z1, z2, z3⟩ := Z8 hZ6 rfl rfl rfl rfl;obtain ⟨p0, p1, p2, p3, p4⟩ := Qa hX6 rfl rfl rfl rfl rfl;have p5 := Zd hX6 5 _ rfl;have p6 := Zd hX6 6 _ rfl;go_wp2_with fail;refine (PD (fun b => b < wr.heap.size) s x _ ad c wr (fun b h => h) hz6.now (Zhq (hd.grow gw6)) HAT.out hdd).mono ?_;have HBA : Hid ((s.step x).st.At) := Zel HAT.out;obtain ⟨B, hB⟩ : ∃ B, B = s.step x := ⟨_, rfl⟩;rw [← hB] at HBA ⊢;have HB : Hid _ := hB;clear hB;rintro r w7 ⟨v7, rfl, h7, g7⟩;obtain ⟨b7, e7, l7, m7, i7, j7, hv7, -, -, -⟩ := h7.form;subst hv7;have g8 := Zc w7 (.cells #[.slice b7 B.st.dk.blocks.length e7, .slice l7 B.st.dk.late.length m7, .slice i7 B.st.idx.length j7, .int .i64 B.st.next] 29);have hA8 := Zj w7 #[.slice b7 B.st.dk.blocks.length e7, .slice l7 B.st.dk.late.length m7, .slice i7 B.st.idx.length j7, .int .i64 B.st.next] 29;have gg := g7.trans g8;have ha8 := (h7.grow g8).any;have hZ8 := (gg.block _ (Za hZ6)).trans hZ6;have hX8 := (gg.block _ (Za hX6)).trans hX6;have hz8 := hz6.grow gg;have gw8 := gw6.trans gg;clear z0 z1 z2 z3 p0 p1 p2 p3 p4 p5 p6 hZ6 hX6 hz6 gw6 h7 g7 g8 gg;obtain ⟨z0, z1, z2, z3⟩ := Z8 hZ8 rfl rfl rfl rfl;obtain ⟨p0, p1, p2, p3, p4⟩ := Qa hX8 rfl rfl rfl rfl rfl;have p5 := Zd hX8 5 _ rfl;have p6 := Zd hX8 6 _ rfl;go_wp2_with fail
    obtain ⟨A, hA⟩ : ∃ A, A = w7.heap.size := ⟨_, rfl⟩;rw [← hA] at hA8 ⊢;clear hA z0 z1 z2 z3 p0 p1 p2 p3 p4 p5 p6;generalize World.alloc w7 _ = w8 at *;refine (Zg4 (fun b => b < w8.heap.size) s x _ ad c w8 (fun b h => h) hz8.now (Zhq (hd.grow gw8)) HAT.out hdd).mono ?_;rw [← HB.out];rintro r w9 ⟨v9, rfl, h9, g9⟩;obtain ⟨b9, e9, l9, m9, i9, j9, hv9, -, -, -⟩ := h9.form;subst hv9;have gA := Zc w9 (.cells #[.slice b9 B.st.dk.blocks.length e9, .slice l9 B.st.dk.late.length m9, .slice i9 B.st.idx.length j9, .int .i64 B.st.next] 29);have hBA := Zj w9 #[.slice b9 B.st.dk.blocks.length e9, .slice l9 B.st.dk.late.length m9, .slice i9 B.st.idx.length j9, .int .i64 B.st.next] 29;have gg := g9.trans gA;have hb9 := (h9.grow gA).any;have hA9 := (gg.block _ (Za hA8)).trans hA8;have ha9 := ha8.grow gg;have gw9 := gw8.trans gg;clear hA8 hZ8 hX8 hz8 ha8 gw8 h9 g9 gA gg;obtain ⟨z0, z1, z2, z3⟩ := Z8 hA9 rfl rfl rfl rfl;obtain ⟨y0, y1, y2, y3⟩ := Z8 hBA rfl rfl rfl rfl;have d1 : (B.e == B.e) = true := by simp
    have d2 : (B.n == B.n) = true := by simp
    go_wp2_with fail;clear d1 d2 z0 z1 z2 z3 y0 y1 y2 y3;generalize World.alloc w9 _ = wA at *;obtain ⟨q1, q2, q3⟩ := Zhu HBA.out;refine (Ze5 B.st B.st _ _ _ _ wA ha9 hb9 q1 q2 q3).mono ?_;rw [St.same_refl];rintro r wE ⟨rfl, gE0⟩;have gE := gw9.trans gE0;clear q1 q2 q3 hA9 hBA ha9 hb9 gw9 gE0;go_wp2_with fail;go_ret;exact ⟨rfl, gE⟩
 ·refine (PM l _ W0 (Z9.mono (hl.grow g0) fun _ _ => trivial) (by omega) hm).mono ?_;rintro r w1 ⟨rfl, g1⟩;have g2 := Zc w1 Y7;have hY2 := Zj w1 #[.slice none 0 0, .slice none 0 0, .slice none 0 0, .int .i64 0] 29;have gE := g0.trans (g1.trans g2);have y0 := Zd hY2 0 _ rfl;clear g0 g1 g2 hX0 hl hd hdl;go_wp2_with fail;go_ret;exact ⟨rfl, gE⟩
def Q7 (x y : Int) : Int := if x < y then -1 else if y < x then 1 else 0
def Zdq (x y : Ent) : Int := if Q7 x.rc.key y.rc.key ≠ 0 then Q7 x.rc.key y.rc.key else if Q7 x.rc.ver y.rc.ver ≠ 0 then Q7 x.rc.ver y.rc.ver else Q7 x.pair y.pair
theorem Jk (x y : Int) : Q7 x y = 0 ↔ x = y := by unfold Q7; split <;> (try split) <;> omega
theorem Zit (x y : Int) : Q7 x y < 0 ↔ x < y := by unfold Q7; split <;> (try split) <;> omega
theorem Ziu (x y : Int) : 0 < Q7 x y ↔ y < x := by unfold Q7; split <;> (try split) <;> omega
theorem Zn2 (x y : Ent) : (decide (Zdq x y < 0)) = Y8 x y := by
 rw [Bool.eq_iff_iff, decide_eq_true_eq];unfold Zdq Y8;by_cases hk : x.rc.key = y.rc.key
 ·rw [if_neg (by simpa using (Jk _ _).2 hk), if_pos hk];by_cases hv : x.rc.ver = y.rc.ver
  ·rw [if_neg (by simpa using (Jk _ _).2 hv), if_pos hv, Zit, decide_eq_true_eq]
  ·rw [if_pos (fun h => hv ((Jk _ _).1 h)), if_neg hv, Zit, decide_eq_true_eq]
 ·rw [if_pos (fun h => hk ((Jk _ _).1 h)), if_neg hk, Zit, decide_eq_true_eq]
theorem Zuk (x y : Ent) : (decide (0 < Zdq x y)) = Y8 y x := by
 rw [Bool.eq_iff_iff, decide_eq_true_eq];unfold Zdq Y8;by_cases hk : x.rc.key = y.rc.key
 ·rw [if_neg (by simpa using (Jk _ _).2 hk), if_pos hk.symm];by_cases hv : x.rc.ver = y.rc.ver
  ·rw [if_neg (by simpa using (Jk _ _).2 hv), if_pos hv.symm, Ziu, decide_eq_true_eq]
  ·rw [if_pos (fun h => hv ((Jk _ _).1 h)), if_neg (fun h => hv h.symm), Ziu, decide_eq_true_eq]
 ·rw [if_pos (fun h => hk ((Jk _ _).1 h)), if_neg (fun h => hk h.symm), Ziu, decide_eq_true_eq]
theorem Zok {P : Program} {w w' : World} {R : Value → World → Prop} {o : Oper} {ev : Operand → Value} {v : Value} (h : (execOp ev o).run P w = .ok (.value v) w') (hg : Zo w w') (hv : R v w') : upon P w R ((execOp ev o).run P w) := by
 rw [h]; exact ⟨hg, hv⟩
theorem Zbq (x : Int) (w : World) : Calls Tryz.prog 122 #[.int .i64 x] w fun e w' => e = .returned (.bool false) ∧ w' = w := by
 have d0 : (x != x) = false := by simp
 go_enter Tryz.func122, Tryz.ntmps122;go_wp2_with fail;go_ret;exact ⟨rfl, rfl⟩
theorem Zis (x y : Int) (w : World) : Calls Tryz.prog 91 #[.int .i64 x, .int .i64 y] w fun e w' => e = .returned (.int .i64 (Q7 x y)) ∧ w' = w := by
 by_cases h1 : x < y
 ·have HC : Hid (Q7 x y = -1) := by show _ = _; unfold Q7; rw [if_pos h1]
  rw [HC.out];go_enter Tryz.func91, Tryz.ntmps91;go_wp2_with fail;refine (Zbq _ _).mono ?_;rintro e w1 ⟨rfl, rfl⟩;go_wp2_with fail;refine (Zbq _ _).mono ?_;rintro e w1 ⟨rfl, rfl⟩;go_wp2_with fail;go_ret;exact ⟨rfl, rfl⟩
 ·by_cases h2 : y < x
  ·have HC : Hid (Q7 x y = 1) := by show _ = _; unfold Q7; rw [if_neg h1, if_pos h2]
   rw [HC.out];go_enter Tryz.func91, Tryz.ntmps91;go_wp2_with fail;refine (Zbq _ _).mono ?_;rintro e w1 ⟨rfl, rfl⟩;go_wp2_with fail;refine (Zbq _ _).mono ?_;rintro e w1 ⟨rfl, rfl⟩;go_wp2_with fail;go_ret;exact ⟨rfl, rfl⟩
  ·have HC : Hid (Q7 x y = 0) := by show _ = _; unfold Q7; rw [if_neg h1, if_neg h2]
   rw [HC.out];go_enter Tryz.func91, Tryz.ntmps91;go_wp2_with fail;refine (Zbq _ _).mono ?_;rintro e w1 ⟨rfl, rfl⟩;go_wp2_with fail;refine (Zbq _ _).mono ?_;rintro e w1 ⟨rfl, rfl⟩;go_wp2_with fail;go_ret;exact ⟨rfl, rfl⟩
def orN : List Int → Int
 | [] => 0
 | v :: l => if v ≠ 0 then v else orN l
theorem Zv9 (vs : List Int) (b cap : Nat) (w : World) (hn : vs.length ≤ 1000) (hc : ∀ (j : Nat) (h : j < vs.length), w.cell? ⟨b, j, none⟩ = some (.int .i64 vs[j])) :
  Calls Tryz.prog 90 #[.slice (some ⟨b, 0, none⟩) vs.length cap] w fun e w' => e = .returned (.int .i64 (orN vs)) ∧ Zo w w' := by
 obtain ⟨R, hR⟩ : ∃ R, R = orN vs := ⟨_, rfl⟩;rw [← hR];have HR : Hid _ := hR;clear hR;go_enter Tryz.func90, Tryz.ntmps90;go_wp2_with fail;go_loopw [8] (fun i wr => ∃ k : Nat, k ≤ vs.length ∧ i = .int .i64 k ∧ R = orN (vs.drop k) ∧ Zo w wr) (fun i _ => vs.length - (intOf i).toNat)
 case atStart => exact ⟨0, Nat.zero_le _, rfl, HR.out, Zo.refl _⟩
 case round =>
  obtain ⟨k, hk, rfl, hRk, hg⟩ := hrel;have HK : Hid (R = orN (vs.drop k)) := hRk;clear hRk;by_cases hlt : k < vs.length
  ·have q0 := (Below.cell hg (Zu (hc k hlt))).trans (hc k hlt);have HX : Hid (R = if vs[k] ≠ 0 then vs[k] else orN (vs.drop (k + 1))) := by show R = _; rw [HK.out, List.drop_eq_getElem_cons hlt]; rfl
   generalize vs[k] = x at *;clear HK;by_cases hx : x = 0
   ·have HY : Hid (R = orN (vs.drop (k + 1))) := by show R = _; rw [HX.out, if_neg (by simpa using hx)]
    have d0 : (x != 0) = false := by simp [hx]
    clear HX hx;go_wp2_with fail;go_roundw
    case rel => exact ⟨k + 1, by omega, by go_num, HY.out, hg⟩
    case measure => simp [intOf]; omega
   ·have HY : Hid (R = x) := by show R = _; rw [HX.out, if_pos hx]
    have d0 : (x != 0) = true := by simp [hx]
    clear HX hx;go_wp2_with fail;go_ret;exact ⟨by rw [HY.out]; rfl, hg⟩
  ·have HY : Hid (R = 0) := by show R = _; rw [HK.out, List.drop_eq_nil_of_le (by omega)]; rfl
   clear HK;go_wp2_with fail;go_ret;exact ⟨by rw [HY.out]; rfl, hg⟩
theorem Zr7 (x y : Ent) : orN [Q7 x.rc.key y.rc.key, Q7 x.rc.ver y.rc.ver, Q7 x.pair y.pair] = Zdq x y := by
 unfold Zdq;simp only [orN];split
 ·rfl
 ·split
  ·rfl
  ·split
   ·rfl
   ·rename_i h; exact (Decidable.of_not_not h).symm
def Zm9 (n0 n1 n2 : Int) (v : Value) (w : World) : Prop := ∃ g, v = .slice (some ⟨g, 0, none⟩) 3 3 ∧ w.heap[g]? = some (.cells #[.int .i64 n0, .int .i64 n1, .int .i64 n2] 3 (0, 0))
theorem Zoq (n0 n1 n2 : Int) : Xt (Zm9 n0 n1 n2) := by
 rintro v w w' hg ⟨g, h1, h2⟩; exact ⟨g, h1, (hg.block _ (Za h2)).trans h2⟩
theorem Zbp (x y : Ent) (a0 a1 : Option Addr) (c0 c1 : Nat) (w : World) :
  Calls Tryz.prog 57 #[.agg #[.int .i64 x.rc.kind, .int .i64 x.rc.key, .int .i64 x.rc.ver, .slice a0 x.rc.data.length c0, .int .i64 x.pair], .agg #[.int .i64 y.rc.kind, .int .i64 y.rc.key, .int .i64 y.rc.ver, .slice a1 y.rc.data.length c1, .int .i64 y.pair]] w fun e w' => e = .returned (.int .i64 (Zdq x y)) ∧ Zo w w' := by
 have g0 := Zs w (.cells #[.int .i64 x.rc.kind, .int .i64 x.rc.key, .int .i64 x.rc.ver, .slice a0 x.rc.data.length c0, .int .i64 x.pair] 84) (.cells #[.int .i64 y.rc.kind, .int .i64 y.rc.key, .int .i64 y.rc.ver, .slice a1 y.rc.data.length c1, .int .i64 y.pair] 84);have hx0 := Zj w #[.int .i64 x.rc.kind, .int .i64 x.rc.key, .int .i64 x.rc.ver, .slice a0 x.rc.data.length c0, .int .i64 x.pair] 84;have hy0 := Zj (w.alloc (.cells #[.int .i64 x.rc.kind, .int .i64 x.rc.key, .int .i64 x.rc.ver, .slice a0 x.rc.data.length c0, .int .i64 x.pair] 84)) #[.int .i64 y.rc.kind, .int .i64 y.rc.key, .int .i64 y.rc.ver, .slice a1 y.rc.data.length c1, .int .i64 y.pair] 84;have hx1 := ((Zc (w.alloc (.cells #[.int .i64 x.rc.kind, .int .i64 x.rc.key, .int .i64 x.rc.ver, .slice a0 x.rc.data.length c0, .int .i64 x.pair] 84)) (.cells #[.int .i64 y.rc.kind, .int .i64 y.rc.key, .int .i64 y.rc.ver, .slice a1 y.rc.data.length c1, .int .i64 y.pair] 84)).block _ (Za hx0)).trans hx0;rw [World.size_alloc] at hy0;clear hx0;obtain ⟨R, hR⟩ : ∃ R, R = Zdq x y := ⟨_, rfl⟩;rw [← hR];have HR : Hid _ := hR;clear hR;go_enter Tryz.func57, Tryz.ntmps57;go_wp2_with fail;generalize World.alloc (World.alloc w _) _ = W at *
 refine Ya [ex (.pointer (some ⟨w.heap.size, 0, none⟩)), ex (.pointer (some ⟨w.heap.size, 1, none⟩)), ex (.int .i64 x.rc.key), ex (.pointer (some ⟨w.heap.size + 1, 0, none⟩)), ex (.pointer (some ⟨w.heap.size + 1, 1, none⟩)), ex (.int .i64 y.rc.key), ex (.int .i64 (Q7 x.rc.key y.rc.key)), ex (.pointer (some ⟨w.heap.size, 0, none⟩)), ex (.pointer (some ⟨w.heap.size, 2, none⟩)), ex (.int .i64 x.rc.ver), ex (.pointer (some ⟨w.heap.size + 1, 0, none⟩)), ex (.pointer (some ⟨w.heap.size + 1, 2, none⟩)), ex (.int .i64 y.rc.ver), ex (.int .i64 (Q7 x.rc.ver y.rc.ver)), ex (.pointer (some ⟨w.heap.size, 4, none⟩)), ex (.int .i64 x.pair), ex (.pointer (some ⟨w.heap.size + 1, 4, none⟩)), ex (.int .i64 y.pair), ex (.int .i64 (Q7 x.pair y.pair)), ((Zm9 (Q7 x.rc.key y.rc.key) (Q7 x.rc.ver y.rc.ver) (Q7 x.pair y.pair))), ex (.int .i64 R), ex (.int .i64 R)] (by kernel_rfl) (by kernel_rfl) ⟨Zh _, Zh _, Zh _, Zh _, Zh _, Zh _, Zh _, Zh _, Zh _, Zh _, Zh _, Zh _, Zh _, Zh _, Zh _, Zh _, Zh _, Zh _, Zh _, Zoq _ _ _, Zh _, Zh _, trivial⟩ ?_ ?_
 ·refine ⟨?_, ?_, ?_, ?_, ?_, ?_, ?_, ?_, ?_, ?_, ?_, ?_, ?_, ?_, ?_, ?_, ?_, ?_, ?_, ?_, ?_, ?_, trivial⟩
  ·refine Zb rfl fun a w' ek ef hg hin => ?_;have e2 : a (.tmp 2) = .pointer (some ⟨w.heap.size, 0, none⟩) := Zx hin 2 rfl;refine Zi ?_ rfl;clear hin hg;go_simp;all_goals go_arith
  ·refine Zb rfl fun a w' ek ef hg hin => ?_;have e5 : a (.tmp 5) = _ := Zg hin 0 rfl;refine Zi ?_ rfl;clear hin hg;go_simp;all_goals go_arith
  ·refine Zb rfl fun a w' ek ef hg hin => ?_;have e6 : a (.tmp 6) = _ := Zg hin 1 rfl;have h1 := Zd ((hg.block _ (Za hx1)).trans hx1) 1 _ rfl;refine Zi ?_ rfl;clear hin hg;go_simp;all_goals go_arith
  ·refine Zb rfl fun a w' ek ef hg hin => ?_;have e3 : a (.tmp 3) = .pointer (some ⟨w.heap.size + 1, 0, none⟩) := Zx hin 3 rfl;refine Zi ?_ rfl;clear hin hg;go_simp;all_goals go_arith
  ·refine Zb rfl fun a w' ek ef hg hin => ?_;have e8 : a (.tmp 8) = _ := Zg hin 3 rfl;refine Zi ?_ rfl;clear hin hg;go_simp;all_goals go_arith
  ·refine Zb rfl fun a w' ek ef hg hin => ?_;have e9 : a (.tmp 9) = _ := Zg hin 4 rfl;have h1 := Zd ((hg.block _ (Za hy0)).trans hy0) 1 _ rfl;refine Zi ?_ rfl;clear hin hg;go_simp;all_goals go_arith
  ·refine Zb rfl fun a w' ek ef hg hin => ?_;have e7 : a (.tmp 7) = _ := Zg hin 2 rfl;have e10 : a (.tmp 10) = _ := Zg hin 5 rfl;refine Y5 (f := 91) (args := #[.int .i64 x.rc.key, .int .i64 y.rc.key]) ?_ ((Zis _ _ w').mono ?_)
   ·clear hin hg;go_simp;all_goals go_arith
   ·rintro e w2 ⟨rfl, rfl⟩;exact ⟨_, rfl, Zo.refl _, rfl⟩
  ·refine Zb rfl fun a w' ek ef hg hin => ?_;have e2 : a (.tmp 2) = .pointer (some ⟨w.heap.size, 0, none⟩) := Zx hin 2 rfl;refine Zi ?_ rfl;clear hin hg;go_simp;all_goals go_arith
  ·refine Zb rfl fun a w' ek ef hg hin => ?_;have e12 : a (.tmp 12) = _ := Zg hin 7 rfl;refine Zi ?_ rfl;clear hin hg;go_simp;all_goals go_arith
  ·refine Zb rfl fun a w' ek ef hg hin => ?_;have e13 : a (.tmp 13) = _ := Zg hin 8 rfl;have h1 := Zd ((hg.block _ (Za hx1)).trans hx1) 2 _ rfl;refine Zi ?_ rfl;clear hin hg;go_simp;all_goals go_arith
  ·refine Zb rfl fun a w' ek ef hg hin => ?_;have e3 : a (.tmp 3) = .pointer (some ⟨w.heap.size + 1, 0, none⟩) := Zx hin 3 rfl;refine Zi ?_ rfl;clear hin hg;go_simp;all_goals go_arith
  ·refine Zb rfl fun a w' ek ef hg hin => ?_;have e15 : a (.tmp 15) = _ := Zg hin 10 rfl;refine Zi ?_ rfl;clear hin hg;go_simp;all_goals go_arith
  ·refine Zb rfl fun a w' ek ef hg hin => ?_;have e16 : a (.tmp 16) = _ := Zg hin 11 rfl;have h1 := Zd ((hg.block _ (Za hy0)).trans hy0) 2 _ rfl;refine Zi ?_ rfl;clear hin hg;go_simp;all_goals go_arith
  ·refine Zb rfl fun a w' ek ef hg hin => ?_;have e14 : a (.tmp 14) = _ := Zg hin 9 rfl;have e17 : a (.tmp 17) = _ := Zg hin 12 rfl;refine Y5 (f := 91) (args := #[.int .i64 x.rc.ver, .int .i64 y.rc.ver]) ?_ ((Zis _ _ w').mono ?_)
   ·clear hin hg;go_simp;all_goals go_arith
   ·rintro e w2 ⟨rfl, rfl⟩;exact ⟨_, rfl, Zo.refl _, rfl⟩
  ·refine Zb rfl fun a w' ek ef hg hin => ?_;have e2 : a (.tmp 2) = .pointer (some ⟨w.heap.size, 0, none⟩) := Zx hin 2 rfl;refine Zi ?_ rfl;clear hin hg;go_simp;all_goals go_arith
  ·refine Zb rfl fun a w' ek ef hg hin => ?_;have e19 : a (.tmp 19) = _ := Zg hin 14 rfl;have h1 := Zd ((hg.block _ (Za hx1)).trans hx1) 4 _ rfl;refine Zi ?_ rfl;clear hin hg;go_simp;all_goals go_arith
  ·refine Zb rfl fun a w' ek ef hg hin => ?_;have e3 : a (.tmp 3) = .pointer (some ⟨w.heap.size + 1, 0, none⟩) := Zx hin 3 rfl;refine Zi ?_ rfl;clear hin hg;go_simp;all_goals go_arith
  ·refine Zb rfl fun a w' ek ef hg hin => ?_;have e21 : a (.tmp 21) = _ := Zg hin 16 rfl;have h1 := Zd ((hg.block _ (Za hy0)).trans hy0) 4 _ rfl;refine Zi ?_ rfl;clear hin hg;go_simp;all_goals go_arith
  ·refine Zb rfl fun a w' ek ef hg hin => ?_;have e20 : a (.tmp 20) = _ := Zg hin 15 rfl;have e22 : a (.tmp 22) = _ := Zg hin 17 rfl;refine Y5 (f := 91) (args := #[.int .i64 x.pair, .int .i64 y.pair]) ?_ ((Zis _ _ w').mono ?_)
   ·clear hin hg;go_simp;all_goals go_arith
   ·rintro e w2 ⟨rfl, rfl⟩;exact ⟨_, rfl, Zo.refl _, rfl⟩
  ·refine Zb rfl fun a w' ek ef hg hin => ?_;have e11 : a (.tmp 11) = _ := Zg hin 6 rfl;have e18 : a (.tmp 18) = _ := Zg hin 13 rfl;have e23 : a (.tmp 23) = _ := Zg hin 18 rfl;refine Zok (v := .slice (some ⟨w'.heap.size, 0, none⟩) 3 3) (w' := w'.alloc (.cells #[.int .i64 (Q7 x.rc.key y.rc.key), .int .i64 (Q7 x.rc.ver y.rc.ver), .int .i64 (Q7 x.pair y.pair)] 3)) ?_ (Zc _ _) ⟨_, rfl, Zj _ _ _⟩;clear hin hg;go_simp;all_goals go_arith
  ·refine Zb rfl fun a w' ek ef hg hin => ?_;have e24 : ((Zm9 (Q7 x.rc.key y.rc.key) (Q7 x.rc.ver y.rc.ver) (Q7 x.pair y.pair))) (a (.tmp 24)) w' := Zg hin 19 rfl;obtain ⟨g, h24, h3⟩ := e24;refine Y5 (f := 90) (args := #[.slice (some ⟨g, 0, none⟩) 3 3]) ?_ ((Zv9 [Q7 x.rc.key y.rc.key, Q7 x.rc.ver y.rc.ver, Q7 x.pair y.pair] g 3 w' (by simp) (fun j hj => by
    have hj3 : j < 3 := hj
    match j, hj3 with
    | 0, _ => exact Zd h3 0 _ rfl
    | 1, _ => exact Zd h3 1 _ rfl
    | 2, _ => exact Zd h3 2 _ rfl)).mono ?_)
   ·clear hin hg h3;go_simp;all_goals go_arith
   ·rw [Zr7, ← HR.out];rintro e w2 ⟨rfl, g2⟩;exact ⟨_, rfl, g2, rfl⟩
  ·refine Zb rfl fun a w' ek ef hg hin => ?_;have e : a (.tmp 25) = _ := Zg hin 20 rfl;exact Y0 rfl e
 ·intro vs w' hg ht;obtain ⟨q5, q6, q7, q8, q9, q10, q11, q12, q13, q14, q15, q16, q17, q18, q19, q20, q21, q22, q23, q24, q25, q4, -⟩ := ht;have r5 : vs 0 = .pointer (some ⟨w.heap.size, 0, none⟩) := q5;have r6 : vs 1 = .pointer (some ⟨w.heap.size, 1, none⟩) := q6;have r7 : vs 2 = .int .i64 x.rc.key := q7;have r8 : vs 3 = .pointer (some ⟨w.heap.size + 1, 0, none⟩) := q8;have r9 : vs 4 = .pointer (some ⟨w.heap.size + 1, 1, none⟩) := q9;have r10 : vs 5 = .int .i64 y.rc.key := q10;have r11 : vs 6 = .int .i64 (Q7 x.rc.key y.rc.key) := q11;have r12 : vs 7 = .pointer (some ⟨w.heap.size, 0, none⟩) := q12;have r13 : vs 8 = .pointer (some ⟨w.heap.size, 2, none⟩) := q13;have r14 : vs 9 = .int .i64 x.rc.ver := q14;have r15 : vs 10 = .pointer (some ⟨w.heap.size + 1, 0, none⟩) := q15;have r16 : vs 11 = .pointer (some ⟨w.heap.size + 1, 2, none⟩) := q16;have r17 : vs 12 = .int .i64 y.rc.ver := q17;have r18 : vs 13 = .int .i64 (Q7 x.rc.ver y.rc.ver) := q18;have r19 : vs 14 = .pointer (some ⟨w.heap.size, 4, none⟩) := q19;have r20 : vs 15 = .int .i64 x.pair := q20;have r21 : vs 16 = .pointer (some ⟨w.heap.size + 1, 4, none⟩) := q21;have r22 : vs 17 = .int .i64 y.pair := q22;have r23 : vs 18 = .int .i64 (Q7 x.pair y.pair) := q23;have r25 : vs 20 = .int .i64 R := q25;have r4 : vs 21 = .int .i64 R := q4;clear q5 q6 q7 q8 q9 q10 q11 q12 q13 q14 q15 q16 q17 q18 q19 q20 q21 q22 q23 q25 q4
  simp only [Yf, Act.put, List.setIfInBounds_toArray, List.set_cons_zero, List.set_cons_succ, r5, r6, r7, r8, r9, r10, r11, r12, r13, r14, r15, r16, r17, r18, r19, r20, r21, r22, r23, r25, r4];clear r5 r6 r7 r8 r9 r10 r11 r12 r13 r14 r15 r16 r17 r18 r19 r20 r21 r22 r23 r25 r4;have gE := g0.trans hg;clear q24 hg hx1 hy0 g0;go_wp2_with fail;go_ret;exact ⟨rfl, gE⟩
end Go.Proofs.YtgaecpdokgklpacGreat
