import Derived.Test.YtpdnapbchcdhlacGreatRStepC
set_option maxHeartbeats 8000000
namespace Go.Proofs.YtpdnapbchcdhlacGreat
set_option maxRecDepth 100000
open Go.RowKit
open Plain Reg
variable {S : Nat → Prop} {v : Value} {w : World}
theorem Zdd : ∀ (n : Nat) (s : St) (l : List Sp), s.Inv → (Kj n s l).Inv
 | 0, s, _, h => h
 | n + 1, s, [], h => h
 | n + 1, s, x :: l, h => by
  unfold Kj;split
  ·rename_i hg; exact Zdd n _ l (Zdl h hg)
  ·exact h
theorem Zj8 {s : St} (h : s.At) : s.idx.length ≤ 6 := by
 obtain ⟨h1, h2⟩ := (Xt _).1 h.ok.right;have hn : (s.idx.map fun x => x.pair.toNat).Nodup := by
  rw [List.nodup_iff_pairwise_ne, List.pairwise_map];refine List.Pairwise.imp_of_mem ?_ h1;intro a b ha hb hu e;have ha0 := (h2 a ha).2.2.1;have hb0 := (h2 b hb).2.2.1;exact hu.2 (by omega)
 have := Zfo _ (List.range 6) hn (fun x hx => by
  obtain ⟨e, he, rfl⟩ := List.mem_map.1 hx;have := h.ok.six e he;rw [List.mem_range];have := (h2 e he).2.2.1;omega)
 simpa using this
theorem Zxg {s : St} (h : s.At) : s.recs.length ≤ 6 := by unfold St.recs; rw [List.length_map]; exact Zj8 h
theorem Z7.any {s : St} (h : Z7 S s v w) : Z7 (fun _ => True) s v w := h.mono fun _ _ => trivial
theorem Z7.now {s : St} (h : Z7 (fun _ => True) s v w) : Z7 (fun b => b < w.heap.size) s v w := h.capd.mono fun _ h => h.2
theorem Ze0 {l : List UInt8} (h : Z3 S w v l) : Z3 (fun b => b < w.heap.size) w v l := h.caps.mono fun _ h => h.2
theorem Zze {l : List Int} {i : Nat} (h : i < l.length) : (l.map iv)[i]? = some (.int .i64 l[i]) := by simp [iv, h]
theorem Zaq {base n : Nat} {e : TypeId} {xs : List Value} (h : w.ownsRow base e 1 v n xs) (hn : 0 < n) : ∃ g c, v = .slice (some ⟨g, 0, none⟩) n c ∧ base ≤ g ∧ g < w.heap.size := by
 rcases h.2 with ⟨_, h0⟩ | ⟨g, c, cur, h1, h2, h3, _⟩
 ·omega
 ·exact ⟨g, c, h1, h2, Za h3⟩
def Zmj : Prop := ∀ (S : Nat → Prop) (s : St) (x : Sp) (v : Value) (ad : Option Addr) (c : Nat) (w : World), (∀ b, S b → b < w.heap.size) → Z7 S s v w → Z3 S w (.slice ad x.deed.data.length c) x.deed.data → s.At → x.deed.data.length ≤ 140737488355328 →
 Calls Tryz.prog 20 #[v, .agg #[.int .i64 x.kind, .int .i64 x.n, .int .i64 x.m, .int .i64 x.deed.kind, .int .i64 x.deed.key, .int .i64 x.deed.num, .slice ad x.deed.data.length c]] w fun r w' => ∃ v', r = .returned (.tuple #[v', .int .i64 (s.step x).n, .int .i64 (s.step x).e]) ∧ Z7 (Zw S w.heap.size) (s.step x).st v' w' ∧ Zp w w'
def Zkb : Prop := ∀ (S : Nat → Prop) (l : List Sp) (v : Value) (w : World), (∀ b, S b → b < w.heap.size) → V6 S w v l → l.length ≤ 100 → (∀ x ∈ l, x.deed.data.length ≤ 140737488355328) →
 Calls Tryz.prog 19 #[v] w fun r w' => ∃ v' ev nv, r = .returned (.tuple #[v', ev, nv, .int .i64 0]) ∧ Z7 (Zw S w.heap.size) (Xd l).1 v' w' ∧ w'.ownsRow w.heap.size 50 1 ev (Xd l).2.1.length ((Xd l).2.1.map iv) ∧ w'.ownsRow w.heap.size 3 1 nv (Xd l).2.2.length ((Xd l).2.2.map iv) ∧ Zp w w'
def Zp3 : Prop := ∀ (l : List Sp) (v : Value) (w : World), V6 (fun _ => True) w v l → 100 < l.length → l.length ≤ 140737488355328 →
 Calls Tryz.prog 19 #[v] w fun r w' => r = .returned (.tuple #[.agg #[.slice none 0 0, .slice none 0 0, .slice none 0 0, .int .i64 0], .slice none 0 0, .slice none 0 0, .int .i64 5]) ∧ Zp w w'
def Zd5 : Prop := ∀ w : World, Calls Tryz.prog 22 #[] w fun r w' => r = .returned (.bool true) ∧ Zp w w'
def Zir : Sp := ⟨6, 0, 0, ⟨0, 0, 0, []⟩⟩
theorem Zgz (s : St) : (s.step Zir).st = Xw s.dk ∧ (s.step Zir).n = 0 ∧ (s.step Zir).e = 0 := ⟨rfl, rfl, rfl⟩
theorem Zq9 (S : Nat → Prop) (w : World) : Z3 S w (.slice none Zir.deed.data.length 0) Zir.deed.data := .inl ⟨none, 0, rfl, rfl, fun _ => rfl⟩
theorem Zwv {s : St} (h : s.Inv) : (Xw s.dk).idx = s.idx := by rw [h.good.mounted, h.idx]
theorem Zi5 {s : St} (h : s.At) : s.dk.blocks.length ≤ 1000000 ∧ s.dk.late.length ≤ 1000000 ∧ s.idx.length ≤ 1000000 := ⟨by rw [h.ok.disk.len]; omega, by have := h.ok.disk.few; omega, by have := Zj8 h; omega⟩
theorem Zts (l : List Sp) : (Xd l).2.1.length = l.length ∧ (Xd l).2.2.length = l.length := by
 obtain ⟨h1, h2⟩ := Zc8 l (Y0, [], []);exact ⟨h1.trans (by simp), h2.trans (by simp)⟩
theorem Zdv {w : World} {base n : Nat} {e : TypeId} {g c : Nat} {xs : List Int} (h : w.ownsRow base e 1 (.slice (some ⟨g, 0, none⟩) n c) n (xs.map iv)) {k : Nat} (hk : k < xs.length) (hn : n = xs.length) : w.cell? ⟨g, k, none⟩ = some (.int .i64 xs[k]) := by
 rw [h.cellAt k (by omega)]; exact Zze hk
theorem Zjm (PD : Zmj) (PP : Zkb) (PM : Zp3) (l : List Sp) (x : Sp) (v : Value) (ad : Option Addr) (c : Nat) (w : World) (hl : V6 (fun b => b < w.heap.size) w v l) (hd : Z3 (fun b => b < w.heap.size) w (.slice ad x.deed.data.length c) x.deed.data) (hm : l.length ≤ 140737488355328) (hdl : ∀ x ∈ l, x.deed.data.length ≤ 140737488355328) (hdd : x.deed.data.length ≤ 140737488355328) :
  Calls Tryz.prog 5 #[v, .agg #[.int .i64 x.kind, .int .i64 x.n, .int .i64 x.m, .int .i64 x.deed.kind, .int .i64 x.deed.key, .int .i64 x.deed.num, .slice ad x.deed.data.length c]] w fun r w' => r = .returned (.bool true) ∧ Zp w w' := by
 obtain ⟨ao, cp, rfl⟩ := hl.form;have g0 := Zc w (.cells #[.int .i64 x.kind, .int .i64 x.n, .int .i64 x.m, .int .i64 x.deed.kind, .int .i64 x.deed.key, .int .i64 x.deed.num, .slice ad x.deed.data.length c] 49);have hX0 := Zj w #[.int .i64 x.kind, .int .i64 x.n, .int .i64 x.m, .int .i64 x.deed.kind, .int .i64 x.deed.key, .int .i64 x.deed.num, .slice ad x.deed.data.length c] 49;go_enter Tryz.func5, Tryz.ntmps5;go_wp2_with fail;generalize World.alloc w _ = W0 at *;by_cases hlen : l.length ≤ 100
 ·refine (PP (fun b => b < w.heap.size) l _ W0 (fun b h => Nat.lt_of_lt_of_le h g0.size) (hl.grow g0) hlen hdl).mono ?_;have HAT : Hid ((Xd l).1.At) := Zpm _ _ Zdx;have HLN : Hid ((Xd l).2.1.length = l.length ∧ (Xd l).2.2.length = l.length) := Zts l;have HTK : Hid (l.take 100 = l) := List.take_of_length_le hlen;obtain ⟨P, hP⟩ : ∃ P, P = Xd l := ⟨_, rfl⟩;rw [← hP] at HAT HLN ⊢;have HP : Hid _ := hP;clear hP;obtain ⟨s, es, ns⟩ := P;simp only at HAT HLN ⊢;rintro r w1 ⟨v1, ev, nv, rfl, hS1, he1, hn1, g1⟩;obtain ⟨b1, e1, l1, m1, i1, j1, hv1, -, -, -⟩ := hS1.form;subst hv1;obtain ⟨ae, ce, rfl⟩ := Z6 he1;obtain ⟨an, cn, rfl⟩ := Z6 hn1;have g2 := Zc w1 (.cells #[.slice b1 s.dk.blocks.length e1, .slice l1 s.dk.late.length m1, .slice i1 s.idx.length j1, .int .i64 s.next] 29);have hY2 := Zj w1 #[.slice b1 s.dk.blocks.length e1, .slice l1 s.dk.late.length m1, .slice i1 s.idx.length j1, .int .i64 s.next] 29;have hs2 := (hS1.grow g2).any;have hX2 := ((g1.trans g2).block _ (Za hX0)).trans hX0;have he2 := Z2 he1 g2;have hn2 := Z2 hn1 g2;have gw2 := g0.trans (g1.trans g2);clear hS1 he1 hn1 g1 g2 g0 hX0;go_wp2_with fail;obtain ⟨G, hG⟩ : ∃ G, G = w1.heap.size := ⟨_, rfl⟩;rw [← hG] at hY2 ⊢;clear hG;generalize World.alloc w1 _ = w2 at *;refine (Zqm (fun b => b < w.heap.size) l _ w2 (fun b h => Nat.lt_of_lt_of_le h gw2.size) (hl.grow gw2) hm hdl).mono ?_;rw [HTK.out, ← HP.out];simp only;rintro r w3 ⟨v3, fv, mv, rfl, hS3, hf3, hm3, g3⟩;obtain ⟨b3, e3, l3, m3, i3, j3, hv3, -, -, -⟩ := hS3.form
  subst hv3;obtain ⟨af, cf, rfl⟩ := Z6 hf3;obtain ⟨am, cm, rfl⟩ := Z6 hm3;have g4 := Zc w3 (.cells #[.slice b3 s.dk.blocks.length e3, .slice l3 s.dk.late.length m3, .slice i3 s.idx.length j3, .int .i64 s.next] 29);have hZ4 := Zj w3 #[.slice b3 s.dk.blocks.length e3, .slice l3 s.dk.late.length m3, .slice i3 s.idx.length j3, .int .i64 s.next] 29;have gg := g3.trans g4;have hz4 := (hS3.grow g4).any;have hf4 := Z2 hf3 g4;have hm4 := Z2 hm3 g4;have hY4 := (gg.block _ (Za hY2)).trans hY2;have hX4 := (gg.block _ (Za hX2)).trans hX2;have hs4 := hs2.grow gg;have he4 := Z2 he2 gg;have hn4 := Z2 hn2 gg;have gw4 := gw2.trans gg;clear hS3 hf3 hm3 g3 g4 gg hY2 hX2 hs2 he2 hn2 gw2 HP HTK;obtain ⟨y0, y1, y2, y3⟩ := Z4 hY4 rfl rfl rfl rfl;obtain ⟨z0, z1, z2, z3⟩ := Z4 hZ4 rfl rfl rfl rfl;have d1 : ((es.length : Int) == (es.length : Int)) = true := by simp
  have d2 : ((ns.length : Int) == (ns.length : Int)) = true := by simp
  go_wp2_with fail;clear d1 d2;obtain ⟨Z, hZ⟩ : ∃ Z, Z = w3.heap.size := ⟨_, rfl⟩;rw [← hZ] at hZ4 ⊢;clear hZ y0 y1 y2 y3 z0 z1 z2 z3;generalize World.alloc w3 _ = w4 at *;obtain ⟨q1, q2, q3⟩ := Zi5 HAT.out;refine (Zgf s s _ _ _ _ w4 hs4 hz4 q1 q2 q3).mono ?_;rw [St.same_refl];rintro r W5 ⟨rfl, g5⟩;have hY5 := (g5.block _ (Za hY4)).trans hY4;have hZ5 := (g5.block _ (Za hZ4)).trans hZ4;have hX5 := (g5.block _ (Za hX4)).trans hX4;have hz5 := hz4.grow g5;have he5 := Z2 he4 g5;have hn5 := Z2 hn4 g5;have hf5 := Z2 hf4 g5;have hm5 := Z2 hm4 g5;have gw5 := gw4.trans g5;clear q1 q2 q3 hY4 hZ4 hX4 hs4 hz4 he4 hn4 hf4 hm4 gw4 g5;go_wp2_with fail;have hes : es.length ≤ 100 := by have := HLN.out; omega
  go_loopw [73] (fun i wr => ∃ k : Nat, k ≤ es.length ∧ i = .int .i64 (k : Int) ∧ Zp W5 wr) (fun i _ => es.length - (intOf i).toNat)
  case atStart => exact ⟨0, by omega, rfl, Zp.refl _⟩
  case round =>
   obtain ⟨k, hk, rfl, hgq⟩ := hrel;by_cases hlt : k < es.length
   ·have hkn : k < ns.length := by have := HLN.out; omega
    obtain ⟨ge, ke, ho, -, -⟩ := Zaq he5 (by omega);cases ho;obtain ⟨gf, kf, ho, -, -⟩ := Zaq hf5 (by omega);cases ho;obtain ⟨gn, kn, ho, -, -⟩ := Zaq hn5 (by omega);cases ho;obtain ⟨gm, km, ho, -, -⟩ := Zaq hm5 (by omega);cases ho;have o0 := Zdv (Z2 he5 hgq) hlt rfl;have o1 := Zdv (Z2 hf5 hgq) hlt rfl;have o2 := Zdv (Z2 hn5 hgq) hkn rfl;have o3 := Zdv (Z2 hm5 hgq) hkn rfl;generalize es[k] = xe at *;generalize ns[k] = xn at *;go_wp2_with fail;refine Yb [ex (.slice (some ⟨ge, 0, none⟩) es.length ce), ex (.int .i64 (k : Int)), ex (.pointer (some ⟨ge, k, none⟩)), ex (.int .i64 xe), ex (.slice (some ⟨gf, 0, none⟩) es.length cf), ex (.int .i64 (k : Int)), ex (.pointer (some ⟨gf, k, none⟩)), ex (.int .i64 xe), ex (.bool false), ex (.bool false), ex (.slice (some ⟨gn, 0, none⟩) ns.length cn), ex (.int .i64 (k : Int)), ex (.pointer (some ⟨gn, k, none⟩)), ex (.int .i64 xn), ex (.slice (some ⟨gm, 0, none⟩) ns.length cm), ex (.int .i64 (k : Int)), ex (.pointer (some ⟨gm, k, none⟩)), ex (.int .i64 xn), ex (.bool false), ex (.bool false)] (by kernel_rfl) (by kernel_rfl) ⟨Zh _, Zh _, Zh _, Zh _, Zh _, Zh _, Zh _, Zh _, Zh _, Zh _, Zh _, Zh _, Zh _, Zh _, Zh _, Zh _, Zh _, Zh _, Zh _, Zh _, trivial⟩ ?_ ?_
    ·refine ⟨?_, ?_, ?_, ?_, ?_, ?_, ?_, ?_, ?_, ?_, ?_, ?_, ?_, ?_, ?_, ?_, ?_, ?_, ?_, ?_, trivial⟩
     ·exact Zb rfl fun a _ _ _ _ A => Zs rfl (Zv A 6 rfl)
     ·exact Zb rfl fun a _ _ _ _ A => Zs rfl (Zv A 12 rfl)
     ·refine Zb rfl fun a _ _ _ B A => ?_;have e76 : a (.tmp 76) = _ := Zf A 0 rfl;have e77 : a (.tmp 77) = _ := Zf A 1 rfl;refine Zi ?_ rfl;clear A B;go_simp;all_goals go_arith
     ·refine Zb rfl fun a _ _ _ B A => ?_;have e78 : a (.tmp 78) = _ := Zf A 2 rfl;have z0 := (Below.cell B (Zu o0)).trans o0;refine Zi ?_ rfl;clear A B;go_simp;all_goals go_arith
     ·exact Zb rfl fun a _ _ _ _ A => Zs rfl (Zv A 10 rfl)
     ·exact Zb rfl fun a _ _ _ _ A => Zs rfl (Zv A 12 rfl)
     ·refine Zb rfl fun a _ _ _ B A => ?_;have e80 : a (.tmp 80) = _ := Zf A 4 rfl;have e81 : a (.tmp 81) = _ := Zf A 5 rfl;refine Zi ?_ rfl;clear A B;go_simp;all_goals go_arith
     ·refine Zb rfl fun a _ _ _ B A => ?_;have e82 : a (.tmp 82) = _ := Zf A 6 rfl;have z0 := (Below.cell B (Zu o1)).trans o1;refine Zi ?_ rfl;clear A B;go_simp;all_goals go_arith
     ·refine Zb rfl fun a _ _ _ B A => ?_;have e79 : a (.tmp 79) = _ := Zf A 3 rfl;have e83 : a (.tmp 83) = _ := Zf A 7 rfl;refine Zi ?_ rfl;clear A B;go_simp;all_goals go_arith
     ·exact Zb rfl fun a _ _ _ _ A => Zs rfl (Zf A 8 rfl)
     ·exact Zo 9 false rfl rfl rfl fun a _ _ _ _ A => Zs rfl (Zv A 7 rfl)
     ·exact Zo 9 false rfl rfl rfl fun a _ _ _ _ A => Zs rfl (Zv A 12 rfl)
     ·refine Zo 9 false rfl rfl rfl fun a _ _ _ B A => ?_;have e86 : a (.tmp 86) = _ := Zf A 10 rfl;have e87 : a (.tmp 87) = _ := Zf A 11 rfl;refine Zi ?_ rfl;clear A B;go_simp;all_goals go_arith
     ·refine Zo 9 false rfl rfl rfl fun a _ _ _ B A => ?_;have e88 : a (.tmp 88) = _ := Zf A 12 rfl;have z0 := (Below.cell B (Zu o2)).trans o2;refine Zi ?_ rfl;clear A B;go_simp;all_goals go_arith
     ·exact Zo 9 false rfl rfl rfl fun a _ _ _ _ A => Zs rfl (Zv A 11 rfl)
     ·exact Zo 9 false rfl rfl rfl fun a _ _ _ _ A => Zs rfl (Zv A 12 rfl)
     ·refine Zo 9 false rfl rfl rfl fun a _ _ _ B A => ?_;have e90 : a (.tmp 90) = _ := Zf A 14 rfl;have e91 : a (.tmp 91) = _ := Zf A 15 rfl;refine Zi ?_ rfl;clear A B;go_simp;all_goals go_arith
     ·refine Zo 9 false rfl rfl rfl fun a _ _ _ B A => ?_;have e92 : a (.tmp 92) = _ := Zf A 16 rfl;have z0 := (Below.cell B (Zu o3)).trans o3;refine Zi ?_ rfl;clear A B;go_simp;all_goals go_arith
     ·refine Zo 9 false rfl rfl rfl fun a _ _ _ B A => ?_;have e89 : a (.tmp 89) = _ := Zf A 13 rfl;have e93 : a (.tmp 93) = _ := Zf A 17 rfl;refine Zi ?_ rfl;clear A B;go_simp;all_goals go_arith
     ·refine Zb rfl fun a _ _ _ _ A => ?_;have ec : a (.tmp 85) = _ := Zf A 9 rfl;have e : a (.tmp 94) = _ := Zf A 18 rfl;exact Y4 rfl ec e
    ·intro vs w' hg ht;obtain ⟨(r76 : vs 0 = _), (r77 : vs 1 = _), (r78 : vs 2 = _), (r79 : vs 3 = _), (r80 : vs 4 = _), (r81 : vs 5 = _), (r82 : vs 6 = _), (r83 : vs 7 = _), (r84 : vs 8 = _), (r85 : vs 9 = _), (r86 : vs 10 = _), (r87 : vs 11 = _), (r88 : vs 12 = _), (r89 : vs 13 = _), (r90 : vs 14 = _), (r91 : vs 15 = _), (r92 : vs 16 = _), (r93 : vs 17 = _), (r94 : vs 18 = _), (r95 : vs 19 = _), -⟩ := ht;simp only [Yf, Act.put, List.setIfInBounds_toArray, List.set_cons_zero, List.set_cons_succ, r76, r77, r78, r79, r80, r81, r82, r83, r84, r85, r86, r87, r88, r89, r90, r91, r92, r93, r94, r95];clear r76 r77 r78 r79 r80 r81 r82 r83 r84 r85 r86 r87 r88 r89 r90 r91 r92 r93 r94 r95;have hgE := hgq.trans hg;clear hg hgq o0 o1 o2 o3;go_wp2_with fail;go_roundw
     case rel => exact ⟨k + 1, by omega, by go_num, hgE⟩
     case measure => simp [intOf]; omega
   ·have hZ6 := (hgq.block _ (Za hZ5)).trans hZ5;have hX6 := (hgq.block _ (Za hX5)).trans hX5;have hz6 := hz5.grow hgq;have gw6 := gw5.trans hgq;clear hY5 hZ5 hX5 hz5 he5 hn5 hf5 hm5 gw5 hgq;obtain ⟨z0, z1, z2, z3⟩ := Z4 hZ6 rfl rfl rfl rfl;obtain ⟨p0, p1, p2, p3, p4⟩ := X9 hX6 rfl rfl rfl rfl rfl;have p5 := Zd hX6 5 _ rfl;have p6 := Zd hX6 6 _ rfl;go_wp2_with fail;refine (PD (fun b => b < wr.heap.size) s x _ ad c wr (fun b h => h) hz6.now (Ze0 (hd.grow gw6)) HAT.out hdd).mono ?_;have HBA : Hid ((s.step x).st.At) := Za8 HAT.out;obtain ⟨B, hB⟩ : ∃ B, B = s.step x := ⟨_, rfl⟩;rw [← hB] at HBA ⊢;have HB : Hid _ := hB;clear hB;rintro r w7 ⟨v7, rfl, h7, g7⟩;obtain ⟨b7, e7, l7, m7, i7, j7, hv7, -, -, -⟩ := h7.form;subst hv7;have g8 := Zc w7 (.cells #[.slice b7 B.st.dk.blocks.length e7, .slice l7 B.st.dk.late.length m7, .slice i7 B.st.idx.length j7, .int .i64 B.st.next] 29);have hA8 := Zj w7 #[.slice b7 B.st.dk.blocks.length e7, .slice l7 B.st.dk.late.length m7, .slice i7 B.st.idx.length j7, .int .i64 B.st.next] 29;have gg := g7.trans g8;have ha8 := (h7.grow g8).any;have hZ8 := (gg.block _ (Za hZ6)).trans hZ6;have hX8 := (gg.block _ (Za hX6)).trans hX6;have hz8 := hz6.grow gg;have gw8 := gw6.trans gg;clear z0 z1 z2 z3 p0 p1 p2 p3 p4 p5 p6 hZ6 hX6 hz6 gw6 h7 g7 g8 gg;obtain ⟨z0, z1, z2, z3⟩ := Z4 hZ8 rfl rfl rfl rfl;obtain ⟨p0, p1, p2, p3, p4⟩ := X9 hX8 rfl rfl rfl rfl rfl;have p5 := Zd hX8 5 _ rfl;have p6 := Zd hX8 6 _ rfl;go_wp2_with fail
    obtain ⟨A, hA⟩ : ∃ A, A = w7.heap.size := ⟨_, rfl⟩;rw [← hA] at hA8 ⊢;clear hA z0 z1 z2 z3 p0 p1 p2 p3 p4 p5 p6;generalize World.alloc w7 _ = w8 at *;refine (Zeh (fun b => b < w8.heap.size) s x _ ad c w8 (fun b h => h) hz8.now (Ze0 (hd.grow gw8)) HAT.out hdd).mono ?_;rw [← HB.out];rintro r w9 ⟨v9, rfl, h9, g9⟩;obtain ⟨b9, e9, l9, m9, i9, j9, hv9, -, -, -⟩ := h9.form;subst hv9;have gA := Zc w9 (.cells #[.slice b9 B.st.dk.blocks.length e9, .slice l9 B.st.dk.late.length m9, .slice i9 B.st.idx.length j9, .int .i64 B.st.next] 29);have hBA := Zj w9 #[.slice b9 B.st.dk.blocks.length e9, .slice l9 B.st.dk.late.length m9, .slice i9 B.st.idx.length j9, .int .i64 B.st.next] 29;have gg := g9.trans gA;have hb9 := (h9.grow gA).any;have hA9 := (gg.block _ (Za hA8)).trans hA8;have ha9 := ha8.grow gg;have gw9 := gw8.trans gg;clear hA8 hZ8 hX8 hz8 ha8 gw8 h9 g9 gA gg;obtain ⟨z0, z1, z2, z3⟩ := Z4 hA9 rfl rfl rfl rfl;obtain ⟨y0, y1, y2, y3⟩ := Z4 hBA rfl rfl rfl rfl;have d1 : (B.e == B.e) = true := by simp
    have d2 : (B.n == B.n) = true := by simp
    go_wp2_with fail;clear d1 d2 z0 z1 z2 z3 y0 y1 y2 y3;generalize World.alloc w9 _ = wA at *;obtain ⟨q1, q2, q3⟩ := Zi5 HBA.out;refine (Zgf B.st B.st _ _ _ _ wA ha9 hb9 q1 q2 q3).mono ?_;rw [St.same_refl];rintro r wE ⟨rfl, gE0⟩;have gE := gw9.trans gE0;clear q1 q2 q3 hA9 hBA ha9 hb9 gw9 gE0;go_wp2_with fail;go_ret;exact ⟨rfl, gE⟩
 ·refine (PM l _ W0 (Z8.mono (hl.grow g0) fun _ _ => trivial) (by omega) hm).mono ?_;rintro r w1 ⟨rfl, g1⟩;have g2 := Zc w1 Y6;have hY2 := Zj w1 #[.slice none 0 0, .slice none 0 0, .slice none 0 0, .int .i64 0] 29;have gE := g0.trans (g1.trans g2);have y0 := Zd hY2 0 _ rfl;clear g0 g1 g2 hX0 hl hd hdl;go_wp2_with fail;go_ret;exact ⟨rfl, gE⟩
theorem Zlc (AL : Zd5) (PD : Zmj) (l : List Sp) (x : Sp) (v : Value) (ad : Option Addr) (c : Nat) (w : World) (hl : V6 (fun b => b < w.heap.size) w v l) (hd : Z3 (fun b => b < w.heap.size) w (.slice ad x.deed.data.length c) x.deed.data) (hm : l.length ≤ 140737488355328) (hdl : ∀ x ∈ l, x.deed.data.length ≤ 140737488355328) (hdd : x.deed.data.length ≤ 140737488355328) :
  Calls Tryz.prog 7 #[v, .agg #[.int .i64 x.kind, .int .i64 x.n, .int .i64 x.m, .int .i64 x.deed.kind, .int .i64 x.deed.key, .int .i64 x.deed.num, .slice ad x.deed.data.length c]] w fun r w' => r = .returned (.bool true) ∧ Zp w w' := by
 obtain ⟨ao, cp, rfl⟩ := hl.form;have g0 := Zc w (.cells #[.int .i64 x.kind, .int .i64 x.n, .int .i64 x.m, .int .i64 x.deed.kind, .int .i64 x.deed.key, .int .i64 x.deed.num, .slice ad x.deed.data.length c] 49);have hX0 := Zj w #[.int .i64 x.kind, .int .i64 x.n, .int .i64 x.m, .int .i64 x.deed.kind, .int .i64 x.deed.key, .int .i64 x.deed.num, .slice ad x.deed.data.length c] 49;go_enter Tryz.func7, Tryz.ntmps7;go_wp2_with fail;refine (AL _).mono ?_;rintro r w1 ⟨rfl, g1⟩;have hX1 := (g1.block _ (Za hX0)).trans hX0;have gw1 := g0.trans g1;clear g0 g1 hX0;go_wp2_with fail;refine (Zfa (fun b => b < w.heap.size) l _ w1 (fun b h => Nat.lt_of_lt_of_le h gw1.size) (hl.grow gw1) hm hdl).mono ?_;have HIV : Hid ((Kj 100 Y0 l).Inv) := Zdd 100 Y0 l Zpu;generalize Kj 100 Y0 l = s at *;rintro r w2 ⟨v2, rfl, hS2, g2⟩;obtain ⟨b1, e1, l1, m1, i1, j1, hv2, -, -, -⟩ := hS2.form;subst hv2;have g3 := Zc w2 (.cells #[.slice b1 s.dk.blocks.length e1, .slice l1 s.dk.late.length m1, .slice i1 s.idx.length j1, .int .i64 s.next] 29);have hY3 := Zj w2 #[.slice b1 s.dk.blocks.length e1, .slice l1 s.dk.late.length m1, .slice i1 s.idx.length j1, .int .i64 s.next] 29;have hS3 := (hS2.grow g3).any;have hX3 := ((g2.trans g3).block _ (Za hX1)).trans hX1;have gw3 := gw1.trans (g2.trans g3);clear hS2 g2 hX1 gw1 g3;obtain ⟨y0, y1, y2, y3⟩ := Z4 hY3 rfl rfl rfl rfl;obtain ⟨p0, p1, p2, p3, p4⟩ := X9 hX3 rfl rfl rfl rfl rfl;have p5 := Zd hX3 5 _ rfl;have p6 := Zd hX3 6 _ rfl;go_wp2_with fail
 obtain ⟨G, hG⟩ : ∃ G, G = w2.heap.size := ⟨_, rfl⟩;rw [← hG] at hY3 ⊢;clear hG y0 y1 y2 y3 p0 p1 p2 p3 p4 p5 p6;generalize World.alloc w2 _ = w3 at *;refine (Zbx _ 0 s x _ ad c w3 hS3 HIV.out.at'.ok.disk (by omega)).mono ?_;obtain ⟨gb, hgb⟩ : ∃ gb, gb = Q8 s x := ⟨_, rfl⟩;rw [← hgb];rintro r w4 ⟨rfl, g4⟩;have gw4 := gw3.trans g4;cases gb with
 | false =>
  clear hgb hY3 hS3 hX3 gw3 g4;go_wp2_with fail;go_ret;exact ⟨rfl, gw4⟩
 | true =>
  have HYI : Hid ((s.step x).st.Inv) := Zdl HIV.out hgb.symm;have hY4 := (g4.block _ (Za hY3)).trans hY3;have hX4 := (g4.block _ (Za hX3)).trans hX3;have hS4 := hS3.grow g4;have hd4 := hd.grow gw4;clear hgb hY3 hS3 hX3 gw3 g4;obtain ⟨y0, y1, y2, y3⟩ := Z4 hY4 rfl rfl rfl rfl;obtain ⟨p0, p1, p2, p3, p4⟩ := X9 hX4 rfl rfl rfl rfl rfl;have p5 := Zd hX4 5 _ rfl;have p6 := Zd hX4 6 _ rfl;go_wp2_with fail;refine (PD (fun b => b < w4.heap.size) s x _ ad c w4 (fun b h => h) hS4.now (Ze0 hd4) HIV.out.at' hdd).mono ?_;generalize s.step x = B at *;rintro r w5 ⟨v5, rfl, h5, g5⟩;obtain ⟨b5, e5, l5, m5, i5, j5, hv5, -, -, -⟩ := h5.form;subst hv5;have g6 := Zc w5 (.cells #[.slice b5 B.st.dk.blocks.length e5, .slice l5 B.st.dk.late.length m5, .slice i5 B.st.idx.length j5, .int .i64 B.st.next] 29);have hB6 := Zj w5 #[.slice b5 B.st.dk.blocks.length e5, .slice l5 B.st.dk.late.length m5, .slice i5 B.st.idx.length j5, .int .i64 B.st.next] 29;have hs6 := (h5.grow g6).any;have gw6 := gw4.trans (g5.trans g6);clear y0 y1 y2 y3 p0 p1 p2 p3 p4 p5 p6 hY4 hX4 hS4 hd4 gw4 h5 g5 g6;obtain ⟨y0, y1, y2, y3⟩ := Z4 hB6 rfl rfl rfl rfl;go_wp2_with fail;obtain ⟨A, hA⟩ : ∃ A, A = w5.heap.size := ⟨_, rfl⟩;rw [← hA] at hB6 ⊢;clear hA y0 y1 y2 y3;generalize World.alloc w5 _ = w6 at *;refine (PD (fun b => b < w6.heap.size) B.st Zir _ none 0 w6 (fun b h => h) hs6.now (Zq9 _ _) HYI.out.at' (by decide)).mono ?_;rw [(Zgz B.st).1, (Zgz B.st).2.1, (Zgz B.st).2.2];have HMI : Hid ((Xw B.st.dk).idx = B.st.idx) := Zwv HYI.out
  generalize Xw B.st.dk = M at *;rintro r w7 ⟨v7, rfl, h7, g7⟩;obtain ⟨b7, e7, l7, m7, i7, j7, hv7, -, -, -⟩ := h7.form;subst hv7;have g8 := Zc w7 (.cells #[.slice b7 M.dk.blocks.length e7, .slice l7 M.dk.late.length m7, .slice i7 M.idx.length j7, .int .i64 M.next] 29);have hZ9 := Zj w7 #[.slice b7 M.dk.blocks.length e7, .slice l7 M.dk.late.length m7, .slice i7 M.idx.length j7, .int .i64 M.next] 29;have gg := g7.trans g8;have hB9 := (gg.block _ (Za hB6)).trans hB6;have hs9 := hs6.grow gg;have hz9 := (h7.grow g8).any;have gw9 := gw6.trans gg;clear hB6 hs6 h7 g7 g8 gg gw6;go_wp2_with fail;obtain ⟨Z, hZ⟩ : ∃ Z, Z = w7.heap.size := ⟨_, rfl⟩;rw [← hZ] at hZ9 ⊢;clear hZ;generalize World.alloc w7 _ = W9 at *;obtain ⟨xb, xl, xi, hvx, hxb, hxl, hxi⟩ := hs9;cases hvx;obtain ⟨zb, zl, zi, hvz, -, -, hzi⟩ := hz9;cases hvz;have HE1 : Hid (K1 B.st.idx (Z5 B.st.dk 6) = true) := by show _ = _; rw [← HYI.out.idx]; exact (Ji _ _).2 rfl
  have HE2 : Hid (K1 B.st.idx M.idx = true) := by show _ = _; rw [HMI.out]; exact (Ji _ _).2 rfl
  have HF : Hid _ := HYI.out.at'.ok.disk;have HT : Hid (Ym B.st.dk 6 = []) := HYI.out.good.twice 6 (Nat.le_refl _);have H6 : Hid (B.st.idx.length ≤ 6) := Zj8 HYI.out.at';have d12 : ((B.st.dk.blocks.length : Int) == 12) = true := by rw [HF.out.len]; rfl
  refine Yb [ex (.pointer (some ⟨A, 0, none⟩)), ex (.pointer (some ⟨A, 0, none⟩)), ex (.slice b5 B.st.dk.blocks.length e5), ex (.int .i64 (B.st.dk.blocks.length : Int)), ex (.bool true), ex (.bool true), ex (.pointer (some ⟨A, 2, none⟩)), ex (.slice i5 B.st.idx.length j5), ex (.pointer (some ⟨A, 0, none⟩)), ex (.agg #[.slice b5 B.st.dk.blocks.length e5, .slice l5 B.st.dk.late.length m5]), ((fun v w' => ∃ S', Ys S' w' v (Z5 B.st.dk 6))), ex (.bool true), ex (.bool true), ex (.bool true), ex (.pointer (some ⟨A, 0, none⟩)), ex (.agg #[.slice b5 B.st.dk.blocks.length e5, .slice l5 B.st.dk.late.length m5]), ((fun v _ => ∃ ao cp, v = .slice ao 0 cp)), ex (.int .i64 0), ex (.bool true), ex (.bool true), ex (.bool true), ex (.pointer (some ⟨A, 2, none⟩)), ex (.slice i5 B.st.idx.length j5), ex (.pointer (some ⟨Z, 2, none⟩)), ex (.slice i7 M.idx.length j7), ex (.bool true), ex (.bool true), ex (.bool true)] (by kernel_rfl) (by kernel_rfl) ⟨Zh _, Zh _, Zh _, Zh _, Zh _, Zh _, Zh _, Zh _, Zh _, Zh _, (fun _ _ _ hg ⟨S', h⟩ => ⟨S', Z8.grow h hg⟩), Zh _, Zh _, Zh _, Zh _, Zh _, (fun _ _ _ _ h => h), Zh _, Zh _, Zh _, Zh _, Zh _, Zh _, Zh _, Zh _, Zh _, Zh _, Zh _, trivial⟩ ?_ ?_
  ·refine ⟨?_, ?_, ?_, ?_, ?_, ?_, ?_, ?_, ?_, ?_, ?_, ?_, ?_, ?_, ?_, ?_, ?_, ?_, ?_, ?_, ?_, ?_, ?_, ?_, ?_, ?_, ?_, ?_, trivial⟩
   ·refine Zb rfl fun a _ _ _ C B => ?_;have e6 : a (.tmp 6) = .pointer (some ⟨A, 0, none⟩) := Zv B 6 rfl;refine Zi ?_ rfl;clear B C;go_simp;all_goals go_arith
   ·refine Zb rfl fun a _ _ _ B A => ?_;have e34 : a (.tmp 34) = _ := Zf A 0 rfl;refine Zi ?_ rfl;clear A B;go_simp;all_goals go_arith
   ·refine Zb rfl fun a _ _ _ B A => ?_;have e35 : a (.tmp 35) = _ := Zf A 1 rfl;have hh := (B.block _ (Za hB9)).trans hB9;obtain ⟨z0, z1, z2⟩ := Zh4 hh rfl rfl rfl;refine Zi ?_ rfl;clear A B hh;go_simp;all_goals go_arith
   ·refine Zb rfl fun a _ _ _ B A => ?_;have e36 : a (.tmp 36) = _ := Zf A 2 rfl;refine Zi ?_ rfl;clear A B;go_simp;all_goals go_arith
   ·refine Zb rfl fun a _ _ _ B A => ?_;have e37 : a (.tmp 37) = _ := Zf A 3 rfl;refine Zi ?_ rfl;clear A B;go_simp;all_goals go_arith
   ·exact Zb rfl fun a _ _ _ _ A => Zs rfl (Zf A 4 rfl)
   ·refine Zo 5 true rfl rfl rfl fun a _ _ _ C B => ?_;have e6 : a (.tmp 6) = .pointer (some ⟨A, 0, none⟩) := Zv B 6 rfl;refine Zi ?_ rfl;clear B C;go_simp;all_goals go_arith
   ·refine Zo 5 true rfl rfl rfl fun a _ _ _ B A => ?_;have e40 : a (.tmp 40) = _ := Zf A 6 rfl;have hh := (B.block _ (Za hB9)).trans hB9;obtain ⟨z0, z1, z2⟩ := Zh4 hh rfl rfl rfl;refine Zi ?_ rfl;clear A B hh;go_simp;all_goals go_arith
   ·refine Zo 5 true rfl rfl rfl fun a _ _ _ C B => ?_;have e6 : a (.tmp 6) = .pointer (some ⟨A, 0, none⟩) := Zv B 6 rfl;refine Zi ?_ rfl;clear B C;go_simp;all_goals go_arith
   ·refine Zo 5 true rfl rfl rfl fun a _ _ _ B A => ?_;have e42 : a (.tmp 42) = _ := Zf A 8 rfl;have hh := (B.block _ (Za hB9)).trans hB9;obtain ⟨z0, z1, z2⟩ := Zh4 hh rfl rfl rfl;refine Zi ?_ rfl;clear A B hh;go_simp;all_goals go_arith
   ·refine Zo 5 true rfl rfl rfl fun a C _ _ D A => ?_;have e43 : a (.tmp 43) = _ := Zf A 9 rfl;refine Yy (f := 27) (args := #[.agg #[.slice b5 B.st.dk.blocks.length e5, .slice l5 B.st.dk.late.length m5]]) ?_ ((Zei _ B.st.dk _ _ C (hxb.grow D) (hxl.grow D) (by rw [HF.out.len]; omega) (by have := HF.out.few; omega)).mono ?_)
    ·clear A D;go_simp;all_goals go_arith
    ·rintro e w2 ⟨v2, rfl, hE, g2⟩;rw [show B.st.dk.blocks.length / 2 = 6 from by rw [HF.out.len]] at hE;exact ⟨_, rfl, g2, _, hE⟩
   ·refine Zo 5 true rfl rfl rfl fun a C _ _ D A => ?_;have e41 : a (.tmp 41) = _ := Zf A 7 rfl;have e44 : ((fun v C => ∃ S', Ys S' C v (Z5 B.st.dk 6))) (a (.tmp 44)) C := Zf A 10 rfl;obtain ⟨S', e44⟩ := e44;refine Yy (f := 26) (args := #[.slice i5 B.st.idx.length j5, a (.tmp 44)]) ?_ ((Zc6 B.st.idx (Z5 B.st.dk 6) _ _ _ S' C (hxi.grow D) e44 (by have := H6.out; omega)).mono ?_)
    ·clear A D e44;go_simp;all_goals go_arith
    ·rw [HE1.out];rintro e w2 ⟨rfl, g2⟩;exact ⟨_, rfl, g2, rfl⟩
   ·refine Zb rfl fun a _ _ _ _ A => ?_;have ec : a (.tmp 39) = _ := Zf A 5 rfl;have e : a (.tmp 45) = _ := Zf A 11 rfl;exact Y4 rfl ec e
   ·exact Zb rfl fun a _ _ _ _ A => Zs rfl (Zf A 12 rfl)
   ·refine Zo 13 true rfl rfl rfl fun a _ _ _ C B => ?_;have e6 : a (.tmp 6) = .pointer (some ⟨A, 0, none⟩) := Zv B 6 rfl;refine Zi ?_ rfl;clear B C;go_simp;all_goals go_arith
   ·refine Zo 13 true rfl rfl rfl fun a _ _ _ B A => ?_;have e48 : a (.tmp 48) = _ := Zf A 14 rfl;have hh := (B.block _ (Za hB9)).trans hB9;obtain ⟨z0, z1, z2⟩ := Zh4 hh rfl rfl rfl;refine Zi ?_ rfl;clear A B hh;go_simp;all_goals go_arith
   ·refine Zo 13 true rfl rfl rfl fun a C _ _ D A => ?_;have e49 : a (.tmp 49) = _ := Zf A 15 rfl;refine Yy (f := 28) (args := #[.agg #[.slice b5 B.st.dk.blocks.length e5, .slice l5 B.st.dk.late.length m5]]) ?_ ((Zge 0 B.st.dk _ C ⟨_, _, rfl, (hxb.grow D).p, (hxl.grow D).p⟩ HF.out (by omega)).mono ?_)
    ·clear A D;go_simp;all_goals go_arith
    ·rw [HT.out];rintro e w2 ⟨v2, css, rfl, hE, g2⟩;exact ⟨_, rfl, g2, Z8.form hE.slice⟩
   ·refine Zo 13 true rfl rfl rfl fun a B _ _ C A => ?_;have e50 : ((fun v _ => ∃ ao cp, v = .slice ao 0 cp)) (a (.tmp 50)) B := Zf A 16 rfl;obtain ⟨a9, c9, h9⟩ := e50;have e50 := h9;refine Zi ?_ rfl;clear A C h9;go_simp;all_goals go_arith
   ·refine Zo 13 true rfl rfl rfl fun a _ _ _ B A => ?_;have e51 : a (.tmp 51) = _ := Zf A 17 rfl;refine Zi ?_ rfl;clear A B;go_simp;all_goals go_arith
   ·refine Zb rfl fun a _ _ _ _ A => ?_;have ec : a (.tmp 47) = _ := Zf A 13 rfl;have e : a (.tmp 52) = _ := Zf A 18 rfl;exact Y4 rfl ec e
   ·exact Zb rfl fun a _ _ _ _ A => Zs rfl (Zf A 19 rfl)
   ·refine Zo 20 true rfl rfl rfl fun a _ _ _ C B => ?_;have e6 : a (.tmp 6) = .pointer (some ⟨A, 0, none⟩) := Zv B 6 rfl;refine Zi ?_ rfl;clear B C;go_simp;all_goals go_arith
   ·refine Zo 20 true rfl rfl rfl fun a _ _ _ B A => ?_;have e55 : a (.tmp 55) = _ := Zf A 21 rfl;have hh := (B.block _ (Za hB9)).trans hB9;obtain ⟨z0, z1, z2⟩ := Zh4 hh rfl rfl rfl;refine Zi ?_ rfl;clear A B hh;go_simp;all_goals go_arith
   ·refine Zo 20 true rfl rfl rfl fun a _ _ _ B A => ?_;have e9 : a (.tmp 9) = .pointer (some ⟨Z, 0, none⟩) := Zv A 9 rfl;refine Zi ?_ rfl;clear A B;go_simp;all_goals go_arith
   ·refine Zo 20 true rfl rfl rfl fun a _ _ _ B A => ?_;have e57 : a (.tmp 57) = _ := Zf A 23 rfl;have hh := (B.block _ (Za hZ9)).trans hZ9;obtain ⟨z0, z1, z2⟩ := Zh4 hh rfl rfl rfl;refine Zi ?_ rfl;clear A B hh;go_simp;all_goals go_arith
   ·refine Zo 20 true rfl rfl rfl fun a C _ _ D A => ?_;have e56 : a (.tmp 56) = _ := Zf A 22 rfl;have e58 : a (.tmp 58) = _ := Zf A 24 rfl;refine Yy (f := 26) (args := #[.slice i5 B.st.idx.length j5, .slice i7 M.idx.length j7]) ?_ ((Zc6 B.st.idx M.idx _ _ _ _ C (hxi.grow D) (hzi.grow D) (by have := H6.out; omega)).mono ?_)
    ·clear A D;go_simp;all_goals go_arith
    ·rw [HE2.out];rintro e w2 ⟨rfl, g2⟩;exact ⟨_, rfl, g2, rfl⟩
   ·refine Zb rfl fun a _ _ _ _ A => ?_;have ec : a (.tmp 54) = _ := Zf A 20 rfl;have e : a (.tmp 59) = _ := Zf A 25 rfl;exact Y4 rfl ec e
   ·exact Zb rfl fun a _ _ _ _ A => Yw rfl (Zf A 26 rfl)
  ·intro vs w' hg ht;obtain ⟨(r34 : vs 0 = _), (r35 : vs 1 = _), (r36 : vs 2 = _), (r37 : vs 3 = _), (r38 : vs 4 = _), (r39 : vs 5 = _), (r40 : vs 6 = _), (r41 : vs 7 = _), (r42 : vs 8 = _), (r43 : vs 9 = _), q44, (r45 : vs 11 = _), (r46 : vs 12 = _), (r47 : vs 13 = _), (r48 : vs 14 = _), (r49 : vs 15 = _), q50, (r51 : vs 17 = _), (r52 : vs 18 = _), (r53 : vs 19 = _), (r54 : vs 20 = _), (r55 : vs 21 = _), (r56 : vs 22 = _), (r57 : vs 23 = _), (r58 : vs 24 = _), (r59 : vs 25 = _), (r60 : vs 26 = _), (r4 : vs 27 = _), -⟩ := ht;simp only [Yf, Act.put, List.setIfInBounds_toArray, List.set_cons_zero, List.set_cons_succ, r34, r35, r36, r37, r38, r39, r40, r41, r42, r43, r45, r46, r47, r48, r49, r51, r52, r53, r54, r55, r56, r57, r58, r59, r60, r4];clear r34 r35 r36 r37 r38 r39 r40 r41 r42 r43 r45 r46 r47 r48 r49 r51 r52 r53 r54 r55 r56 r57 r58 r59 r60 r4;have gE := gw9.trans hg;clear q44 q50 hg hB9 hZ9 gw9 hxb hxl hxi hzi;go_wp2_with fail;go_ret;exact ⟨rfl, gE⟩
end Go.Proofs.YtpdnapbchcdhlacGreat
namespace Go.Proofs.YtpdnapbchcdhlacGreat
set_option maxRecDepth 100000
open Plain
variable {d : Dd} {r : Rec} {x : Sp}
theorem Zmh {s : St} (h : s.At) (he : (s.begin d).e = 0) (hr : r ∈ s.recs) (hn : ¬ (d.kind = 3 ∧ d.key = r.key ∧ d.num = r.ver)) : r ∈ (s.begin d).st.recs := by
 obtain ⟨hw, hd⟩ := Zhr he;have hb : s.begin d = if d.kind = 3 then ⟨⟨s.dk.pairD (Kf d s.idx) Rec.free, Q4 s.idx (Kf d s.idx), s.next⟩, (doR s.recs d).n, 0⟩ else ⟨⟨s.dk.pairD (Xy s.idx) (Y3 d (doR s.recs d).n), X0 ⟨Y3 d (doR s.recs d).n, (Xy s.idx : Nat)⟩ s.idx, s.next⟩, (doR s.recs d).n, 0⟩ := by
  unfold St.begin;rw [if_neg (by simpa using hw), if_neg (by simpa using hd)]
 obtain ⟨x, hx, rfl⟩ := List.mem_map.1 hr;rw [hb];by_cases hk : d.kind = 3
 ·rw [if_pos hk];obtain ⟨y, hf, ha⟩ := Zgk hk hd;rw [ha];refine List.mem_map.2 ⟨x, List.mem_filter.2 ⟨hx, decide_eq_true fun hp => ?_⟩, rfl⟩;have hy := List.mem_of_find?_eq_some hf;have hq : y.rc.key = d.key ∧ y.rc.ver = d.num := by
   have := List.find?_some (show s.idx.find? (fun x => decide (x.rc.key = d.key ∧ x.rc.ver = d.num)) = some y from hf);exact of_decide_eq_true this
  have hup := ((Xt s.idx).1 h.ok.right).1;have hxy : x = y := by
   obtain ⟨i, hi, rfl⟩ := List.mem_iff_getElem.1 hx;obtain ⟨j, hj, rfl⟩ := List.mem_iff_getElem.1 hy;rcases Nat.lt_trichotomy i j with hl | hl | hl
   ·exact absurd hp (List.pairwise_iff_getElem.1 hup i j hi hj hl).2
   ·subst hl; rfl
   ·exact absurd hp.symm (List.pairwise_iff_getElem.1 hup j i hj hi hl).2
  subst hxy;exact hn ⟨hk, hq.1.symm, hq.2.symm⟩
 ·rw [if_neg hk];exact List.mem_map.2 ⟨x, (Ka _ _ _).2 (.inr hx), rfl⟩
theorem Zqe {s : St} (h : s.Inv) (hx : Q8 s x = true) : (s.step x).st.recs = s.recs ∨ (x.kind = 1 ∨ x.kind = 2) ∧ (s.begin x.deed).e = 0 ∧ (s.step x).st.recs = (s.begin x.deed).st.recs := by
 have hg := h.good;have hi := Zdl h hx;have same : (∀ q : Nat, q < 6 → (s.step x).st.dk.tell (q : Int) = s.dk.tell (q : Int)) → (s.step x).st.recs = s.recs := fun ht => by
  unfold St.recs;rw [hi.idx, h.idx, Zak 6 ht]
 by_cases k1 : x.kind = 1
 ·have hs : s.step x = s.doS x.deed := by unfold St.step; rw [if_pos k1]
  rw [hs];by_cases he : (s.begin x.deed).e = 0
  ·exact .inr ⟨.inl k1, he, by unfold St.doS; rw [if_pos he]; rfl⟩
  ·left; unfold St.doS; rw [if_neg he, (Ze1 he).1]
 ·by_cases k2 : x.kind = 2
  ·by_cases he : (s.begin x.deed).e = 0
   ·have hs : (s.step x).st = Xw ((s.begin x.deed).st.dk.keep x.n) := by unfold St.step; rw [if_neg k1, if_pos k2, if_neg (by simpa using he)]
    obtain ⟨p, r, H⟩ := Zdf h he;have hk : (s.begin x.deed).st.dk.keep x.n = s.dk.half p r (Qe x.n 0) (Qe x.n 1) := by rw [H.disk, Zim h.good.fine H.p6 H.right]
    have hg2 := H.good (Qe x.n 0) (Qe x.n 1);rw [hs, hk];unfold St.recs;rw [hg2.mounted];rcases H.same (Qe x.n 0) (Qe x.n 1) with e | e
    ·left;show (Z5 _ 6).map Ent.rc = _;rw [Zak 6 e, h.idx]
    ·right;refine ⟨.inr k2, he, ?_⟩;show (Z5 _ 6).map Ent.rc = _;rw [e]
   ·left;have hs : (s.step x).st = s := by unfold St.step; rw [if_neg k1, if_pos k2, if_pos he]
    rw [hs]
  ·left;by_cases k3 : x.kind = 3
   ·have hs : (s.step x).st.idx = s.idx := by
     unfold St.step;rw [if_neg k1, if_neg k2, if_pos k3];split <;> rfl
    unfold St.recs;rw [hs]
   ·by_cases k4 : x.kind = 4
    ·refine same fun q hq => ?_;have hs : (s.step x).st = s.scrub := by unfold St.step; rw [if_neg k1, if_neg k2, if_neg k3, if_pos k4]
     rw [hs];have c1 : ((s.next.toNat : Nat) : Int) = s.next := by have := h.at'.low; omega
     have := (hg.mend (p := s.next.toNat) (by have := h.at'.high; omega)).2 q hq;rw [c1] at this;exact this
    ·by_cases k5 : x.kind = 5
     ·refine same fun q hq => ?_;have hs : (s.step x).st = Xw s.dk.clean := by unfold St.step; rw [if_neg k1, if_neg k2, if_neg k3, if_neg k4, if_pos k5]
      obtain ⟨h1, h2⟩ := hg.cleaned;rw [hs, h1.mounted];exact h2 q hq
     ·by_cases k6 : x.kind = 6
      ·refine same fun q _ => ?_;have hs : (s.step x).st = Xw s.dk := by unfold St.step; rw [if_neg k1, if_neg k2, if_neg k3, if_neg k4, if_neg k5, if_pos k6]
       rw [hs, hg.mounted]
      ·have hs : (s.step x).st = s := by unfold St.step; rw [if_neg k1, if_neg k2, if_neg k3, if_neg k4, if_neg k5, if_neg k6]
       rw [hs]
theorem Zm0 {s : St} (h : s.Inv) (hx : Q8 s x = true) (hr : r ∈ s.recs) (hn : ¬ ((x.kind = 1 ∨ x.kind = 2) ∧ x.deed.kind = 3 ∧ x.deed.key = r.key ∧ x.deed.num = r.ver)) : r ∈ (s.step x).st.recs := by
 rcases Zqe h hx with e | ⟨hk, he, e⟩
 ·rw [e]; exact hr
 ·rw [e]; exact Zmh h.at' he hr fun hd => hn ⟨hk, hd⟩
theorem Zw9 {s : St} (hk : d.kind ≠ 3) (he : (s.doS d).e = 0) : Y3 d (s.doS d).n ∈ (s.doS d).st.recs := by
 have he0 : (s.begin d).e = 0 := by
  unfold St.doS at he;by_cases hb : (s.begin d).e = 0
  ·exact hb
  ·rw [if_neg hb] at he; exact absurd he hb
 obtain ⟨hw, hd⟩ := Zhr he0;have hb : s.begin d = ⟨⟨s.dk.pairD (Xy s.idx) (Y3 d (doR s.recs d).n), X0 ⟨Y3 d (doR s.recs d).n, (Xy s.idx : Nat)⟩ s.idx, s.next⟩, (doR s.recs d).n, 0⟩ := by
  unfold St.begin;rw [if_neg (by simpa using hw), if_neg (by simpa using hd), if_neg hk]
 unfold St.doS;rw [if_pos he0, hb];exact List.mem_map.2 ⟨_, (Ka _ _ _).2 (.inl rfl), rfl⟩
end Go.Proofs.YtpdnapbchcdhlacGreat
