import Derived.Test.YtpdnapbchcdhlacGreatRPlay
import Derived.Deep.CutBlock
set_option maxHeartbeats 8000000
namespace Go.Proofs.YtpdnapbchcdhlacGreat
set_option maxRecDepth 100000
open Go.RowKit
open Plain Reg
variable {B : Zfg} {T0 k : Nat} {l : List Sp} {v : Value} {w w' : World}
theorem Zqo {s : St} (h : k < l.length) (hg : Xd s l[k] = true) : Qv s (l.drop k) = Qv (s.step l[k]).st (l.drop (k + 1)) + 1 := by
 rw [List.drop_eq_getElem_cons h];show (if Xd s l[k] = true then _ else _) = _;rw [if_pos hg]
theorem Zqn {s : St} (h : k < l.length) (hg : Xd s l[k] = false) : Qv s (l.drop k) = 0 := by
 rw [List.drop_eq_getElem_cons h];show (if Xd s l[k] = true then _ else _) = _;rw [if_neg (by rw [hg]; simp)]
abbrev Zfh (T0 : Nat) (B : Zfg) (v : Value) (w : World) : Prop := ∃ b9 e9 l9 m9 i9 j9, v = .tuple #[.agg #[.slice b9 B.st.dk.blocks.length e9, .slice l9 B.st.dk.late.length m9, .slice i9 B.st.idx.length j9, .int .i64 B.st.next], .int .i64 B.n, .int .i64 B.e] ∧ Z8 (fun b => b ≠ T0) B.st (.agg #[.slice b9 B.st.dk.blocks.length e9, .slice l9 B.st.dk.late.length m9, .slice i9 B.st.idx.length j9, .int .i64 B.st.next]) w
abbrev StT (T0 : Nat) (s : St) (v : Value) (w : World) : Prop := ∃ b9 e9 l9 m9 i9 j9, v = .agg #[.slice b9 s.dk.blocks.length e9, .slice l9 s.dk.late.length m9, .slice i9 s.idx.length j9, .int .i64 s.next] ∧ Z8 (fun b => b ≠ T0) s (.agg #[.slice b9 s.dk.blocks.length e9, .slice l9 s.dk.late.length m9, .slice i9 s.idx.length j9, .int .i64 s.next]) w
abbrev StH (T0 : Nat) (s : St) (w : World) : Prop := ∃ b9 e9 l9 m9 i9 j9, w.heap[T0]? = some (.cells #[.slice b9 s.dk.blocks.length e9, .slice l9 s.dk.late.length m9, .slice i9 s.idx.length j9, .int .i64 s.next] 29 (0, 0)) ∧ Z8 (fun b => b ≠ T0) s (.agg #[.slice b9 s.dk.blocks.length e9, .slice l9 s.dk.late.length m9, .slice i9 s.idx.length j9, .int .i64 s.next]) w
theorem Zi9 (hg : Zn w w') : Zfh T0 B v w → Zfh T0 B v w' := fun ⟨b9, e9, l9, m9, i9, j9, h1, h2⟩ => ⟨b9, e9, l9, m9, i9, j9, h1, h2.grow hg⟩
theorem Zms (hs : Zp T0 w w') : Zfh T0 B v w → Zfh T0 B v w' := fun ⟨b9, e9, l9, m9, i9, j9, h1, h2⟩ => ⟨b9, e9, l9, m9, i9, j9, h1, h2.but hs (fun h => h rfl)⟩
theorem Ztp {s : St} (hg : Zn w w') : StT T0 s v w → StT T0 s v w' := fun ⟨b9, e9, l9, m9, i9, j9, h1, h2⟩ => ⟨b9, e9, l9, m9, i9, j9, h1, h2.grow hg⟩
theorem Zwu {s : St} (hs : Zp T0 w w') : StT T0 s v w → StT T0 s v w' := fun ⟨b9, e9, l9, m9, i9, j9, h1, h2⟩ => ⟨b9, e9, l9, m9, i9, j9, h1, h2.but hs (fun h => h rfl)⟩
theorem Ztq {s : St} (hg : Zn w w') : StH T0 s w → StH T0 s w' := fun ⟨b9, e9, l9, m9, i9, j9, h1, h2⟩ => ⟨b9, e9, l9, m9, i9, j9, (hg.block _ (Za h1)).trans h1, h2.grow hg⟩
theorem Zly (ML : Zmx) (MG : Zjd) (MW : Zqi) (MF : Zv7) (l : List Sp) (rs : List Rec) (x : Sp) (v u : Value) (ad : Option Addr) (c : Nat) (w : World) (hl : Zak (fun b => b < w.heap.size) w v l) (hrs : Y2 (fun b => b < w.heap.size) w u rs) (hd : Z2 (fun b => b < w.heap.size) w (.slice ad x.deed.data.length c) x.deed.data) (hm : l.length ≤ 140737488355328) (hdl : ∀ x ∈ l, x.deed.data.length ≤ 140737488355328) (hmr : rs.length ≤ 140737488355328) (hdd : x.deed.data.length ≤ 140737488355328) :
  Calls Tryz.prog 8 #[v, u, .agg #[.int .i64 x.kind, .int .i64 x.n, .int .i64 x.m, .int .i64 x.deed.kind, .int .i64 x.deed.key, .int .i64 x.deed.num, .slice ad x.deed.data.length c]] w fun r w' => r = .returned (.bool true) ∧ Zn w w' := by
 obtain ⟨ao, cp, rfl⟩ := hl.form;obtain ⟨ar, cr, rfl⟩ := Zs.form hrs;have g0 := Zb w (.cells #[.int .i64 x.kind, .int .i64 x.n, .int .i64 x.m, .int .i64 x.deed.kind, .int .i64 x.deed.key, .int .i64 x.deed.num, .slice ad x.deed.data.length c] 49);have hX0 := Zh w #[.int .i64 x.kind, .int .i64 x.n, .int .i64 x.m, .int .i64 x.deed.kind, .int .i64 x.deed.key, .int .i64 x.deed.num, .slice ad x.deed.data.length c] 49;go_enter Tryz.func8, Tryz.ntmps8;go_wp2_with fail;generalize World.alloc w _ = W0 at *;refine (Zq2 (fun b => b < w.heap.size) l _ W0 (fun b h => Nat.lt_of_lt_of_le h g0.size) (hl.grow g0) hm hdl).mono ?_;have HAT : Hid ((V2 (l.take 100)).1.At) := Zxe _ _ Zjw;generalize V2 (l.take 100) = P at *;obtain ⟨s, es, ns⟩ := P;simp only at HAT ⊢;rintro r w1 ⟨v1, ev, nv, rfl, hS1, he1, hn1, g1⟩;obtain ⟨b1, e1, l1, m1, i1, j1, hv1, -, -, -⟩ := hS1.form;subst hv1;obtain ⟨ae, ce, rfl⟩ := Ya he1;obtain ⟨an, cn, rfl⟩ := Ya hn1;have g2 := Zb w1 (.cells #[.slice b1 s.dk.blocks.length e1, .slice l1 s.dk.late.length m1, .slice i1 s.idx.length j1, .int .i64 s.next] 29);have hY2 := Zh w1 #[.slice b1 s.dk.blocks.length e1, .slice l1 s.dk.late.length m1, .slice i1 s.idx.length j1, .int .i64 s.next] 29;have hs2 := (hS1.grow g2).any;have hX2 := ((g1.trans g2).block _ (Za hX0)).trans hX0;have gw2 := g0.trans (g1.trans g2);clear hS1 he1 hn1 g1 g2 g0 hX0;go_wp2_with fail;obtain ⟨G, hG⟩ : ∃ G, G = w1.heap.size := ⟨_, rfl⟩;rw [← hG] at hY2 ⊢;clear hG;generalize World.alloc w1 _ = w2 at *
 obtain ⟨gb, hgb⟩ : ∃ gb, gb = Xd s x := ⟨_, rfl⟩;have HGB : Hid _ := hgb;have dgb : (gb != gb) = false := by simp
 clear hgb;refine Yb [ex (.agg #[.slice b1 s.dk.blocks.length e1, .slice l1 s.dk.late.length m1, .slice i1 s.idx.length j1, .int .i64 s.next]), ex (.agg #[.int .i64 x.kind, .int .i64 x.n, .int .i64 x.m, .int .i64 x.deed.kind, .int .i64 x.deed.key, .int .i64 x.deed.num, .slice ad x.deed.data.length c]), ex (.bool gb), ex (.agg #[.slice b1 s.dk.blocks.length e1, .slice l1 s.dk.late.length m1, .slice i1 s.idx.length j1, .int .i64 s.next]), ex (.agg #[.int .i64 x.kind, .int .i64 x.n, .int .i64 x.m, .int .i64 x.deed.kind, .int .i64 x.deed.key, .int .i64 x.deed.num, .slice ad x.deed.data.length c]), ex (.bool gb), ex (.bool false)] (by kernel_rfl) (by kernel_rfl) ⟨Zj _, Zj _, Zj _, Zj _, Zj _, Zj _, Zj _, trivial⟩ ?_ ?_
 ·refine ⟨?_, ?_, ?_, ?_, ?_, ?_, ?_, trivial⟩
  ·refine Ze rfl fun a _ _ _ B A => ?_;have e7 : a (.tmp 7) = .pointer (some ⟨G, 0, none⟩) := Zy A 7 rfl;have hh := (B.block _ (Za hY2)).trans hY2;obtain ⟨z0, z1, z2, z3⟩ := Z7 hh rfl rfl rfl rfl;refine Zo ?_ rfl;clear A B hh;go_simp;all_goals go_arith
  ·refine Ze rfl fun a _ _ _ B A => ?_;have e5 : a (.tmp 5) = .pointer (some ⟨w.heap.size, 0, none⟩) := Zy A 5 rfl;have hh := (B.block _ (Za hX2)).trans hX2;obtain ⟨z0, z1, z2, z3, z4⟩ := Qb hh rfl rfl rfl rfl rfl;have z5 := Zc hh 5 _ rfl;have z6 := Zc hh 6 _ rfl;refine Zo ?_ rfl;clear A B hh;go_simp;all_goals go_arith
  ·refine Ze rfl fun a B _ _ C A => ?_;have e23 : a (.tmp 23) = _ := Zg A 0 rfl;have e24 : a (.tmp 24) = _ := Zg A 1 rfl;refine Yv (f := 29) (args := #[.agg #[.slice b1 s.dk.blocks.length e1, .slice l1 s.dk.late.length m1, .slice i1 s.idx.length j1, .int .i64 s.next], .agg #[.int .i64 x.kind, .int .i64 x.n, .int .i64 x.m, .int .i64 x.deed.kind, .int .i64 x.deed.key, .int .i64 x.deed.num, .slice ad x.deed.data.length c]]) ?_ ((MG (fun b => b < B.heap.size) s x _ ad c B (fun b h => h) (hs2.grow C).now (Za1 (hd.grow (gw2.trans C))) HAT.out hdd).mono ?_)
   ·clear A C;go_simp;all_goals go_arith
   ·rw [← HGB.out];rintro e w2 ⟨rfl, g2⟩;exact ⟨_, rfl, g2, rfl⟩
  ·refine Ze rfl fun a _ _ _ B A => ?_;have e7 : a (.tmp 7) = .pointer (some ⟨G, 0, none⟩) := Zy A 7 rfl;have hh := (B.block _ (Za hY2)).trans hY2;obtain ⟨z0, z1, z2, z3⟩ := Z7 hh rfl rfl rfl rfl;refine Zo ?_ rfl;clear A B hh;go_simp;all_goals go_arith
  ·refine Ze rfl fun a _ _ _ B A => ?_;have e5 : a (.tmp 5) = .pointer (some ⟨w.heap.size, 0, none⟩) := Zy A 5 rfl;have hh := (B.block _ (Za hX2)).trans hX2;obtain ⟨z0, z1, z2, z3, z4⟩ := Qb hh rfl rfl rfl rfl rfl;have z5 := Zc hh 5 _ rfl;have z6 := Zc hh 6 _ rfl;refine Zo ?_ rfl;clear A B hh;go_simp;all_goals go_arith
  ·refine Ze rfl fun a B _ _ C A => ?_;have e26 : a (.tmp 26) = _ := Zg A 3 rfl;have e27 : a (.tmp 27) = _ := Zg A 4 rfl;refine Yv (f := 24) (args := #[.agg #[.slice b1 s.dk.blocks.length e1, .slice l1 s.dk.late.length m1, .slice i1 s.idx.length j1, .int .i64 s.next], .agg #[.int .i64 x.kind, .int .i64 x.n, .int .i64 x.m, .int .i64 x.deed.kind, .int .i64 x.deed.key, .int .i64 x.deed.num, .slice ad x.deed.data.length c]]) ?_ ((Ze4 _ 0 s x _ ad c B (hs2.grow C) HAT.out.ok.disk (by omega)).mono ?_)
   ·clear A C;go_simp;all_goals go_arith
   ·rw [← HGB.out];rintro e w2 ⟨rfl, g2⟩;exact ⟨_, rfl, g2, rfl⟩
  ·refine Ze rfl fun a _ _ _ B A => ?_;have e25 : a (.tmp 25) = _ := Zg A 2 rfl;have e28 : a (.tmp 28) = _ := Zg A 5 rfl;refine Zo ?_ rfl;clear A B;go_simp;all_goals go_arith
 ·intro vs w' hg ht;obtain ⟨(r23 : vs 0 = _), (r24 : vs 1 = _), (r25 : vs 2 = _), (r26 : vs 3 = _), (r27 : vs 4 = _), (r28 : vs 5 = _), (r29 : vs 6 = _), -⟩ := ht;simp only [Ye, Act.put, List.setIfInBounds_toArray, List.set_cons_zero, List.set_cons_succ, r23, r24, r25, r26, r27, r28, r29];clear r23 r24 r25 r26 r27 r28 r29;have gw3 := gw2.trans hg;have hX3 := (hg.block _ (Za hX2)).trans hX2;clear hY2 hs2 hX2 gw2 hg HAT HGB dgb;obtain ⟨w3, hw3⟩ : ∃ w3, w3 = w' := ⟨_, rfl⟩;rw [← hw3] at gw3 hX3 ⊢;clear hw3;go_wp2_with fail;refine (Zil (fun b => b < w3.heap.size) w3 (fun b h => h)).mono ?_;have HNA : Hid (X3.At) := Zjw;have HNW : Hid (Qv X3 l = 0 + Qv X3 (l.drop 0)) := by show _ = _; rw [List.drop_zero, Nat.zero_add]
  generalize hns : X3 = s0 at HNA HNW ⊢;have HN0 : Hid (X3 = s0) := hns;clear hns;rintro r w4 ⟨v4, rfl, h4, g4⟩;obtain ⟨b4, e4, l4, m4, i4, j4, hv4, -, -, -⟩ := h4.form;subst hv4;have g5 := Zb w4 (.cells #[.slice b4 s0.dk.blocks.length e4, .slice l4 s0.dk.late.length m4, .slice i4 s0.idx.length j4, .int .i64 s0.next] 29);have hT5 := Zh w4 #[.slice b4 s0.dk.blocks.length e4, .slice l4 s0.dk.late.length m4, .slice i4 s0.idx.length j4, .int .i64 s0.next] 29;have hX5 := ((g4.trans g5).block _ (Za hX3)).trans hX3;have gw5 := gw3.trans (g4.trans g5);obtain ⟨T0, hT0⟩ : ∃ T0, T0 = w4.heap.size := ⟨_, rfl⟩;have hs5 : Z8 (fun b => b ≠ T0) s0 (.agg #[.slice b4 s0.dk.blocks.length e4, .slice l4 s0.dk.late.length m4, .slice i4 s0.idx.length j4, .int .i64 s0.next]) (w4.alloc (.cells #[.slice b4 s0.dk.blocks.length e4, .slice l4 s0.dk.late.length m4, .slice i4 s0.idx.length j4, .int .i64 s0.next] 29)) := (h4.any.now.grow g5).mono (fun b h => by omega);have hwT : w.heap.size < T0 := by have := Za hX3; have := g4.size; omega
  have HT0 : Hid _ := hT0;clear hT0 h4 g4 g5 hX3 gw3
  go_upto_block 0 with fail
  rw [← HT0.out] at hT5 ⊢;clear HT0;generalize World.alloc w4 _ = w5 at *;go_cut [11] (fun n wx => ∃ k : Nat, n = .int .i64 (k : Int) ∧ Hid (l.length ≤ 100 → Qv s0 l = k) ∧ wx.heap[w.heap.size]? = some (.cells #[.int .i64 x.kind, .int .i64 x.n, .int .i64 x.m, .int .i64 x.deed.kind, .int .i64 x.deed.key, .int .i64 x.deed.num, .slice ad x.deed.data.length c] 49 (0, 0)) ∧ Zn w wx)
  case first =>
   go_wp2_with fail;go_loopw [11] (fun n wr => ∃ (k : Nat) (T : St) (b1 : Option Addr) (e1 : Nat) (l1 : Option Addr) (m1 : Nat) (i1 : Option Addr) (j1 : Nat), k ≤ l.length ∧ k ≤ 100 ∧ n = .int .i64 (k : Int) ∧ wr.heap[T0]? = some (.cells #[.slice b1 T.dk.blocks.length e1, .slice l1 T.dk.late.length m1, .slice i1 T.idx.length j1, .int .i64 T.next] 29 (0, 0)) ∧ Z8 (fun b => b ≠ T0) T (.agg #[.slice b1 T.dk.blocks.length e1, .slice l1 T.dk.late.length m1, .slice i1 T.idx.length j1, .int .i64 T.next]) wr ∧ Hid T.At ∧ Hid (Qv s0 l = k + Qv T (l.drop k)) ∧ wr.heap[w.heap.size]? = some (.cells #[.int .i64 x.kind, .int .i64 x.n, .int .i64 x.m, .int .i64 x.deed.kind, .int .i64 x.deed.key, .int .i64 x.deed.num, .slice ad x.deed.data.length c] 49 (0, 0)) ∧ Zn w wr) (fun n _ => l.length - (intOf n).toNat)
   case atStart => exact ⟨0, s0, b4, e4, l4, m4, i4, j4, by omega, by omega, rfl, hT5, hs5, HNA, HNW, hX5, gw5⟩
   case round =>
    clear hT5 hs5 HNA HNW hX5 gw5 HN0;obtain ⟨k, T, b1, e1, l1, m1, i1, j1, hk, hk1, rfl, hY, hS, HTA, HTW, hX, gw⟩ := hrel;by_cases hlt : k < l.length
    ·by_cases h100 : k < 100
     ·obtain ⟨bb, off, ay, cy, hao, q0, q1, q2, q3, q4, q5, q6, hbd⟩ := Zf0 hl k hlt;cases hao;have HDL : Hid (l[k].deed.data.length ≤ 140737488355328) := hdl _ (List.getElem_mem hlt);have HGY : Hid (Xd T l[k] = true → Qv T (l.drop k) = Qv (T.step l[k]).st (l.drop (k + 1)) + 1) := fun h => Zqo hlt h
      have HGN : Hid (Xd T l[k] = false → Qv T (l.drop k) = 0) := fun h => Zqn hlt h
      generalize l[k] = y at *;obtain ⟨gq, hgq⟩ : ∃ gq, gq = Xd T y := ⟨_, rfl⟩;have HGQ : Hid _ := hgq;clear hgq;go_wp2_with fail;refine Yb [ex (.int .i64 (k : Int)), ex (.slice (some ⟨bb, off, none⟩) l.length cp), ex (.int .i64 (l.length : Int)), ex (.bool true), ex (.bool true), ex (.int .i64 (k : Int)), ex (.bool true), ex (.bool true), ex (.bool true), ex (.agg #[.slice b1 T.dk.blocks.length e1, .slice l1 T.dk.late.length m1, .slice i1 T.idx.length j1, .int .i64 T.next]), ex (.slice (some ⟨bb, off, none⟩) l.length cp), ex (.int .i64 (k : Int)), ex (.pointer (some ⟨bb, off + k * 7, none⟩)), ex (.agg #[.int .i64 y.kind, .int .i64 y.n, .int .i64 y.m, .int .i64 y.deed.kind, .int .i64 y.deed.key, .int .i64 y.deed.num, .slice ay y.deed.data.length cy]), ex (.bool gq), ex (.bool gq)] (by kernel_rfl) (by kernel_rfl) ⟨Zj _, Zj _, Zj _, Zj _, Zj _, Zj _, Zj _, Zj _, Zj _, Zj _, Zj _, Zj _, Zj _, Zj _, Zj _, Zj _, trivial⟩ ?_ ?_
      ·refine ⟨?_, ?_, ?_, ?_, ?_, ?_, ?_, ?_, ?_, ?_, ?_, ?_, ?_, ?_, ?_, ?_, trivial⟩
       ·exact Ze rfl fun a _ _ _ _ A => Zx rfl (Zy A 11 rfl)
       ·exact Ze rfl fun a _ _ _ _ A => Zx rfl (Zy A 0 rfl)
       ·refine Ze rfl fun a _ _ _ B A => ?_;have e32 : a (.tmp 32) = _ := Zg A 1 rfl;refine Zo ?_ rfl;clear A B;go_simp;all_goals go_arith
       ·refine Ze rfl fun a _ _ _ B A => ?_;have e31 : a (.tmp 31) = _ := Zg A 0 rfl;have e33 : a (.tmp 33) = _ := Zg A 2 rfl;refine Zo ?_ rfl;clear A B;go_simp;all_goals go_arith
       ·exact Ze rfl fun a _ _ _ _ A => Zx rfl (Zg A 3 rfl)
       ·exact Zw 4 true rfl rfl rfl fun a _ _ _ _ A => Zx rfl (Zy A 11 rfl)
       ·refine Zw 4 true rfl rfl rfl fun a _ _ _ B A => ?_;have e36 : a (.tmp 36) = _ := Zg A 5 rfl;refine Zo ?_ rfl;clear A B;go_simp;all_goals go_arith
       ·refine Ze rfl fun a _ _ _ _ A => ?_;have ec : a (.tmp 35) = _ := Zg A 4 rfl;have e : a (.tmp 37) = _ := Zg A 6 rfl;exact Xb rfl ec e
       ·exact Ze rfl fun a _ _ _ _ A => Zx rfl (Zg A 7 rfl)
       ·refine Zw 8 true rfl rfl rfl fun a _ _ _ B A => ?_;have e10 : a (.tmp 10) = .pointer (some ⟨T0, 0, none⟩) := Zy A 10 rfl;have hh := (B.block _ (Za hY)).trans hY;obtain ⟨z0, z1, z2, z3⟩ := Z7 hh rfl rfl rfl rfl;refine Zo ?_ rfl;clear A B hh q0 q1 q2 q3 q4 q5 q6;go_simp;all_goals go_arith
       ·exact Zw 8 true rfl rfl rfl fun a _ _ _ _ A => Zx rfl (Zy A 0 rfl)
       ·exact Zw 8 true rfl rfl rfl fun a _ _ _ _ A => Zx rfl (Zy A 11 rfl)
       ·refine Zw 8 true rfl rfl rfl fun a _ _ _ B A => ?_;have e41 : a (.tmp 41) = _ := Zg A 10 rfl;have e42 : a (.tmp 42) = _ := Zg A 11 rfl;refine Zo ?_ rfl;clear A B;go_simp;all_goals go_arith
       ·refine Zw 8 true rfl rfl rfl fun a _ _ _ B A => ?_;have e43 : a (.tmp 43) = _ := Zg A 12 rfl;have gg := gw.trans B;have z0 := (Below.cell gg (Zv q0)).trans q0;have z1 := (Below.cell gg (Zv q1)).trans q1;have z2 := (Below.cell gg (Zv q2)).trans q2;have z3 := (Below.cell gg (Zv q3)).trans q3;have z4 := (Below.cell gg (Zv q4)).trans q4;have z5 := (Below.cell gg (Zv q5)).trans q5;have z6 := (Below.cell gg (Zv q6)).trans q6;refine Zo ?_ rfl;clear A B gg q0 q1 q2 q3 q4 q5 q6;go_simp;all_goals go_arith
       ·refine Zw 8 true rfl rfl rfl fun a B _ _ C A => ?_;have e40 : a (.tmp 40) = _ := Zg A 9 rfl;have e44 : a (.tmp 44) = _ := Zg A 13 rfl;refine Yv (f := 24) (args := #[.agg #[.slice b1 T.dk.blocks.length e1, .slice l1 T.dk.late.length m1, .slice i1 T.idx.length j1, .int .i64 T.next], .agg #[.int .i64 y.kind, .int .i64 y.n, .int .i64 y.m, .int .i64 y.deed.kind, .int .i64 y.deed.key, .int .i64 y.deed.num, .slice ay y.deed.data.length cy]]) ?_ ((Ze4 _ 0 T y _ ay cy B (hS.grow C) HTA.out.ok.disk (by omega)).mono ?_)
        ·clear A C q0 q1 q2 q3 q4 q5 q6;go_simp;all_goals go_arith
        ·rw [← HGQ.out];rintro e w2 ⟨rfl, g2⟩;exact ⟨_, rfl, g2, rfl⟩
       ·refine Ze rfl fun a _ _ _ _ A => ?_;have ec : a (.tmp 39) = _ := Zg A 8 rfl;have e : a (.tmp 45) = _ := Zg A 14 rfl;exact Xb rfl ec e
      ·intro vs w' hg ht;obtain ⟨(r31 : vs 0 = _), (r32 : vs 1 = _), (r33 : vs 2 = _), (r34 : vs 3 = _), (r35 : vs 4 = _), (r36 : vs 5 = _), (r37 : vs 6 = _), (r38 : vs 7 = _), (r39 : vs 8 = _), (r40 : vs 9 = _), (r41 : vs 10 = _), (r42 : vs 11 = _), (r43 : vs 12 = _), (r44 : vs 13 = _), (r45 : vs 14 = _), (r46 : vs 15 = _), -⟩ := ht;simp only [Ye, Act.put, List.setIfInBounds_toArray, List.set_cons_zero, List.set_cons_succ, r31, r32, r33, r34, r35, r36, r37, r38, r39, r40, r41, r42, r43, r44, r45, r46];clear r31 r32 r33 r34 r35 r36 r37 r38 r39 r40 r41 r42 r43 r44 r45 r46;have hY6 := (hg.block _ (Za hY)).trans hY;have hS6 := hS.grow hg;have hX6 := (hg.block _ (Za hX)).trans hX;have gw6 := gw.trans hg;clear hY hS hX gw hg;obtain ⟨w6, hw6⟩ : ∃ w6, w6 = w' := ⟨_, rfl⟩;rw [← hw6] at hY6 hS6 hX6 gw6 ⊢;clear hw6;cases gq with
       | false =>
        have HK : Hid (l.length ≤ 100 → Qv s0 l = k) := fun _ => by rw [HTW.out, HGN.out HGQ.out.symm]; rfl
        clear HGN HGY HTW HGQ q0 q1 q2 q3 q4 q5 q6 hbd hY6 hS6;go_wp2_with fail;go_meet;exact ⟨k, rfl, HK, hX6, gw6⟩
       | true =>
        have HK : Hid (Qv s0 l = k + 1 + Qv (T.step y).st (l.drop (k + 1))) := by show _ = _; rw [HTW.out, HGY.out HGQ.out.symm]; omega
        have HBA : Hid ((T.step y).st.At) := Zfl HTA.out;obtain ⟨B, hB⟩ : ∃ B, B = T.step y := ⟨_, rfl⟩;rw [← hB] at HK HBA;have HB : Hid _ := hB;clear HGN HGY HTW HGQ hB;go_wp2_with fail
        refine Yy [px (.agg #[.slice b1 T.dk.blocks.length e1, .slice l1 T.dk.late.length m1, .slice i1 T.idx.length j1, .int .i64 T.next]), px (.slice (some ⟨bb, off, none⟩) l.length cp), px (.int .i64 (k : Int)), px (.pointer (some ⟨bb, off + k * 7, none⟩)), px (.agg #[.int .i64 y.kind, .int .i64 y.n, .int .i64 y.m, .int .i64 y.deed.kind, .int .i64 y.deed.key, .int .i64 y.deed.num, .slice ay y.deed.data.length cy]), pl ((Zfh T0 B)), pl ((Zfh T0 B)), pl ((StT T0 B.st)), px (.int .i64 B.n), px (.int .i64 B.e), pl ((fun _ w' => StH T0 B.st w'))] [none, none, none, none, none, none, none, none, none, none, some ((Vr T0))] (fun dn w' => Zn w w' ∧ w'.heap[w.heap.size]? = some (.cells #[.int .i64 x.kind, .int .i64 x.n, .int .i64 x.m, .int .i64 x.deed.kind, .int .i64 x.deed.key, .int .i64 x.deed.num, .slice ad x.deed.data.length c] 49 (0, 0)) ∧ (dn 10 = false → w'.heap[T0]? = some (.cells #[.slice b1 T.dk.blocks.length e1, .slice l1 T.dk.late.length m1, .slice i1 T.idx.length j1, .int .i64 T.next] 29 (0, 0)) ∧ Z8 (fun b => b ≠ T0) T (.agg #[.slice b1 T.dk.blocks.length e1, .slice l1 T.dk.late.length m1, .slice i1 T.idx.length j1, .int .i64 T.next]) w')) (by kernel_rfl) (by kernel_rfl) ⟨se, se, se, se, se, Yk ((fun _ _ _ hg h => Zi9 hg h)), Yk ((fun _ _ _ hg h => Zi9 hg h)), Yk ((fun _ _ _ hg h => Ztp hg h)), se, se, Yk ((fun _ _ _ hg h => Ztq hg h)), trivial⟩ ⟨⟨(fun w => Zp.refl _ w), ⟨x5, x5, x5, x5, x5, .inr ((fun _ _ _ _ hs h => Zms hs h)), .inr ((fun _ _ _ _ hs h => Zms hs h)), .inr ((fun _ _ _ _ hs h => Zwu hs h)), x5, x5, .inl (by kernel_rfl), trivial⟩⟩, trivial⟩ ⟨n5, n5, n5, n5, n5, n5, n5, n5, n5, n5, fun _ _ _ _ h => h, trivial⟩ ⟨gw6.drew, hX6, fun _ => ⟨hY6, hS6⟩⟩ ?_ ?_
        ·refine ⟨?_, ?_, ?_, ?_, ?_, ?_, ?_, ?_, ?_, ?_, ?_, trivial⟩
         ·refine Zd rfl fun a _ _ _ _ C B A => ?_;have e10 : a (.tmp 10) = .pointer (some ⟨T0, 0, none⟩) := Zm A 10 rfl;have hh := (B.2.2 (C.not1 10 (by kernel_rfl))).1;obtain ⟨z0, z1, z2, z3⟩ := Z7 hh rfl rfl rfl rfl;refine Zi ?_ B rfl;clear A B C hh q0 q1 q2 q3 q4 q5 q6;go_simp;all_goals go_arith
         ·exact Zd rfl fun a _ _ _ _ _ B A => Z4 rfl B (Zm A 0 rfl)
         ·exact Zd rfl fun a _ _ _ _ _ B A => Z4 rfl B (Zm A 11 rfl)
         ·refine Zd rfl fun a _ _ _ _ _ B A => ?_;have e49 : a (.tmp 49) = _ := Zf A 1 rfl;have e50 : a (.tmp 50) = _ := Zf A 2 rfl;refine Zi ?_ B rfl;clear A B;go_simp;all_goals go_arith
         ·refine Zd rfl fun a _ _ _ _ C B A => ?_;have e51 : a (.tmp 51) = _ := Zf A 3 rfl;have z0 := (Below.cell B.1 (Zv q0)).trans q0;have z1 := (Below.cell B.1 (Zv q1)).trans q1;have z2 := (Below.cell B.1 (Zv q2)).trans q2;have z3 := (Below.cell B.1 (Zv q3)).trans q3;have z4 := (Below.cell B.1 (Zv q4)).trans q4;have z5 := (Below.cell B.1 (Zv q5)).trans q5;have z6 := (Below.cell B.1 (Zv q6)).trans q6;refine Zi ?_ B rfl;clear A B C q0 q1 q2 q3 q4 q5 q6;go_simp;all_goals go_arith
         ·refine Zd rfl fun a B _ _ _ D C A => ?_;have e48 : a (.tmp 48) = _ := Zf A 0 rfl;have e52 : a (.tmp 52) = _ := Zf A 4 rfl;obtain ⟨hh, hs⟩ := C.2.2 (D.notBy 10 7 (D.notBy 7 6 (D.not1 6 (by kernel_rfl)) (by kernel_rfl)) (by kernel_rfl));have hT9 : T0 < B.heap.size := Za hh;have hw9 := C.1.size;refine Yf (f := 21) (args := #[.agg #[.slice b1 T.dk.blocks.length e1, .slice l1 T.dk.late.length m1, .slice i1 T.idx.length j1, .int .i64 T.next], .agg #[.int .i64 y.kind, .int .i64 y.n, .int .i64 y.m, .int .i64 y.deed.kind, .int .i64 y.deed.key, .int .i64 y.deed.num, .slice ay y.deed.data.length cy]]) ?_ ((Zig (fun b => b ≠ T0 ∧ b < B.heap.size) T y _ ay cy B (fun b h => h.2) hs.capd ((hbd.grow C.1).mono (fun b h => ⟨by omega, by omega⟩)) HTA.out HDL.out).mono ?_)
          ·clear A C D hh hs q0 q1 q2 q3 q4 q5 q6 hT9 hw9;go_simp;all_goals go_arith
          ·rw [← HB.out];rintro e w2 ⟨v2, rfl, hE, g2⟩;obtain ⟨b9, e9, l9, m9, i9, j9, hv9, -, -, -⟩ := hE.form;subst hv9;refine ⟨_, rfl, g2, ⟨C.1.trans g2, (g2.block _ (Za C.2.1)).trans C.2.1, fun h => ⟨(g2.block _ (Za (C.2.2 h).1)).trans (C.2.2 h).1, (C.2.2 h).2.grow g2⟩⟩, b9, e9, l9, m9, i9, j9, rfl, hE.mono ?_⟩;rintro b (h | h)
           ·exact h.1
           ·show b ≠ T0; omega
         ·refine Zd rfl fun a C _ _ _ _ D A => ?_;have e : ((Zfh T0 B)) (a (.tmp 53)) C := Zf A 5 rfl;exact Z4 rfl D e
         ·refine Zd rfl fun a C _ _ _ E D A => ?_;have e47 : ((Zfh T0 B)) (a (.tmp 47)) C := Zf A 6 rfl;obtain ⟨b9, e9, l9, m9, i9, j9, h8, hE⟩ := e47;refine Zi (v := .agg #[.slice b9 B.st.dk.blocks.length e9, .slice l9 B.st.dk.late.length m9, .slice i9 B.st.idx.length j9, .int .i64 B.st.next]) ?_ D ⟨b9, e9, l9, m9, i9, j9, rfl, hE⟩;clear A D E hE q0 q1 q2 q3 q4 q5 q6;go_simp;all_goals go_arith
         ·refine Zd rfl fun a C _ _ _ E D A => ?_;have e47 : ((Zfh T0 B)) (a (.tmp 47)) C := Zf A 6 rfl;obtain ⟨b9, e9, l9, m9, i9, j9, h8, hE⟩ := e47;refine Zi ?_ D rfl;clear A D E hE q0 q1 q2 q3 q4 q5 q6;go_simp;all_goals go_arith
         ·refine Zd rfl fun a C _ _ _ E D A => ?_;have e47 : ((Zfh T0 B)) (a (.tmp 47)) C := Zf A 6 rfl;obtain ⟨b9, e9, l9, m9, i9, j9, h8, hE⟩ := e47;refine Zi ?_ D rfl;clear A D E hE q0 q1 q2 q3 q4 q5 q6;go_simp;all_goals go_arith
         ·refine Zd rfl fun a w' _ _ _ D C A => ?_;have e10 : a (.tmp 10) = .pointer (some ⟨T0, 0, none⟩) := Zm A 10 rfl;have e54 : ((StT T0 B.st)) (a (.tmp 54)) w' := Zf A 7 rfl;obtain ⟨b9, e9, l9, m9, i9, j9, h8, hE⟩ := e54;have hh := (C.2.2 D.un).1;obtain ⟨hq1, hq2⟩ := Yg hh (.slice b9 B.st.dk.blocks.length e9) (.slice l9 B.st.dk.late.length m9) (.slice i9 B.st.idx.length j9) (.int .i64 B.st.next);obtain ⟨y0, y1, y2, y3⟩ := Z7 hh rfl rfl rfl rfl;obtain ⟨f0, f1, f2, f3⟩ := Yr hh;have cs := Zr;refine Yi (w' := _) ?_ hq2 ⟨hq2.grow C.1 (by omega), (hq2.block _ (Za C.2.1) (by omega)).trans C.2.1, fun h => by simp [upd] at h⟩ ⟨b9, e9, l9, m9, i9, j9, hq1, hE.but hq2 (fun h => h rfl)⟩;clear A C D hq1 hq2 hh hE q0 q1 q2 q3 q4 q5 q6;go_simp;all_goals go_arith
        ·intro vs w' dn hdn hg ht;obtain ⟨q48, q49, q50, q51, q52, q53, q47, q54, q55, q56, qo10, -⟩ := ht;have r48 : vs 0 = _ := q48;have r49 : vs 1 = _ := q49;have r50 : vs 2 = _ := q50;have r51 : vs 3 = _ := q51;have r52 : vs 4 = _ := q52;replace q53 : ((Zfh T0 B)) (vs 5) w' := q53;replace q47 : ((Zfh T0 B)) (vs 6) w' := q47;replace q54 : ((StT T0 B.st)) (vs 7) w' := q54;have r55 : vs 8 = _ := q55;have r56 : vs 9 = _ := q56;replace qo10 : ((fun _ w' => StH T0 B.st w')) (vs 10) w' := qo10;clear q48 q49 q50 q51 q52 q55 q56;simp only [Ye, Act.put, List.setIfInBounds_toArray, List.set_cons_zero, List.set_cons_succ, Nat.reduceAdd, r48, r49, r50, r51, r52, r55, r56];clear r48 r49 r50 r51 r52 r55 r56;obtain ⟨b9, e9, l9, m9, i9, j9, hY7, hS7⟩ := qo10;have hX7 := hg.2.1;have gw7 := hg.1;clear q53 q47 q54 hdn hg hY6 hS6 hX6 gw6 q0 q1 q2 q3 q4 q5 q6 hbd;generalize vs 5 = c5 at *;generalize vs 6 = c6 at *;generalize vs 7 = c7 at *;go_wp2_with fail;go_roundw
         case rel => exact ⟨k + 1, B.st, b9, e9, l9, m9, i9, j9, by omega, by omega, by go_num, hY7, hS7, HBA, HK, hX7, gw7⟩
         case measure => simp [intOf]; omega
     ·have HK : Hid (l.length ≤ 100 → Qv s0 l = k) := fun h => by omega
      clear hY hS HTA HTW;go_wp2_with fail;refine Yb [ex (.int .i64 (k : Int)), ex (.slice ao l.length cp), ex (.int .i64 (l.length : Int)), ex (.bool true), ex (.bool true), ex (.int .i64 (k : Int)), ex (.bool false), ex (.bool false), ex (.bool false), ex (undef), ex (undef), ex (undef), ex (undef), ex (undef), ex (undef), ex (.bool false)] (by kernel_rfl) (by kernel_rfl) ⟨Zj _, Zj _, Zj _, Zj _, Zj _, Zj _, Zj _, Zj _, Zj _, Zj _, Zj _, Zj _, Zj _, Zj _, Zj _, Zj _, trivial⟩ ?_ ?_
      ·refine ⟨?_, ?_, ?_, ?_, ?_, ?_, ?_, ?_, ?_, ?_, ?_, ?_, ?_, ?_, ?_, ?_, trivial⟩
       ·exact Ze rfl fun a _ _ _ _ A => Zx rfl (Zy A 11 rfl)
       ·exact Ze rfl fun a _ _ _ _ A => Zx rfl (Zy A 0 rfl)
       ·refine Ze rfl fun a _ _ _ B A => ?_;have e32 : a (.tmp 32) = _ := Zg A 1 rfl;refine Zo ?_ rfl;clear A B;go_simp;all_goals go_arith
       ·refine Ze rfl fun a _ _ _ B A => ?_;have e31 : a (.tmp 31) = _ := Zg A 0 rfl;have e33 : a (.tmp 33) = _ := Zg A 2 rfl;refine Zo ?_ rfl;clear A B;go_simp;all_goals go_arith
       ·exact Ze rfl fun a _ _ _ _ A => Zx rfl (Zg A 3 rfl)
       ·exact Zw 4 true rfl rfl rfl fun a _ _ _ _ A => Zx rfl (Zy A 11 rfl)
       ·refine Zw 4 true rfl rfl rfl fun a _ _ _ B A => ?_;have e36 : a (.tmp 36) = _ := Zg A 5 rfl;refine Zo ?_ rfl;clear A B;go_simp;all_goals go_arith
       ·refine Ze rfl fun a _ _ _ _ A => ?_;have ec : a (.tmp 35) = _ := Zg A 4 rfl;have e : a (.tmp 37) = _ := Zg A 6 rfl;exact Xb rfl ec e
       ·exact Ze rfl fun a _ _ _ _ A => Zx rfl (Zg A 7 rfl)
       ·refine Zz 8 true rfl rfl rfl (fun _ => rfl)
       ·refine Zz 8 true rfl rfl rfl (fun _ => rfl)
       ·refine Zz 8 true rfl rfl rfl (fun _ => rfl)
       ·refine Zz 8 true rfl rfl rfl (fun _ => rfl)
       ·refine Zz 8 true rfl rfl rfl (fun _ => rfl)
       ·refine Zz 8 true rfl rfl rfl (fun _ => rfl)
       ·refine Ze rfl fun a _ B _ _ A => ?_;have ec : a (.tmp 39) = _ := Zg A 8 rfl;exact Xb rfl ec (B _)
      ·intro vs w' hg ht;obtain ⟨(r31 : vs 0 = _), (r32 : vs 1 = _), (r33 : vs 2 = _), (r34 : vs 3 = _), (r35 : vs 4 = _), (r36 : vs 5 = _), (r37 : vs 6 = _), (r38 : vs 7 = _), (r39 : vs 8 = _), (r40 : vs 9 = _), (r41 : vs 10 = _), (r42 : vs 11 = _), (r43 : vs 12 = _), (r44 : vs 13 = _), (r45 : vs 14 = _), (r46 : vs 15 = _), -⟩ := ht;simp only [Ye, Act.put, List.setIfInBounds_toArray, List.set_cons_zero, List.set_cons_succ, r31, r32, r33, r34, r35, r36, r37, r38, r39, r40, r41, r42, r43, r44, r45, r46];clear r31 r32 r33 r34 r35 r36 r37 r38 r39 r40 r41 r42 r43 r44 r45 r46;have hX6 := (hg.block _ (Za hX)).trans hX;have gw6 := gw.trans hg;clear hX gw hg;go_wp2_with fail;go_meet;exact ⟨k, rfl, HK, hX6, gw6⟩
    ·have HK : Hid (l.length ≤ 100 → Qv s0 l = k) := fun h => by rw [HTW.out, List.drop_eq_nil_of_le (by omega)]; rfl
     clear hY hS HTA HTW;go_wp2_with fail;refine Yb [ex (.int .i64 (k : Int)), ex (.slice ao l.length cp), ex (.int .i64 (l.length : Int)), ex (.bool false), ex (.bool false), ex (undef), ex (undef), ex (.bool false), ex (.bool false), ex (undef), ex (undef), ex (undef), ex (undef), ex (undef), ex (undef), ex (.bool false)] (by kernel_rfl) (by kernel_rfl) ⟨Zj _, Zj _, Zj _, Zj _, Zj _, Zj _, Zj _, Zj _, Zj _, Zj _, Zj _, Zj _, Zj _, Zj _, Zj _, Zj _, trivial⟩ ?_ ?_
     ·refine ⟨?_, ?_, ?_, ?_, ?_, ?_, ?_, ?_, ?_, ?_, ?_, ?_, ?_, ?_, ?_, ?_, trivial⟩
      ·exact Ze rfl fun a _ _ _ _ A => Zx rfl (Zy A 11 rfl)
      ·exact Ze rfl fun a _ _ _ _ A => Zx rfl (Zy A 0 rfl)
      ·refine Ze rfl fun a _ _ _ B A => ?_;have e32 : a (.tmp 32) = _ := Zg A 1 rfl;refine Zo ?_ rfl;clear A B;go_simp;all_goals go_arith
      ·refine Ze rfl fun a _ _ _ B A => ?_;have e31 : a (.tmp 31) = _ := Zg A 0 rfl;have e33 : a (.tmp 33) = _ := Zg A 2 rfl;refine Zo ?_ rfl;clear A B;go_simp;all_goals go_arith
      ·exact Ze rfl fun a _ _ _ _ A => Zx rfl (Zg A 3 rfl)
      ·refine Zz 4 true rfl rfl rfl (fun _ => rfl)
      ·refine Zz 4 true rfl rfl rfl (fun _ => rfl)
      ·refine Ze rfl fun a _ B _ _ A => ?_;have ec : a (.tmp 35) = _ := Zg A 4 rfl;exact Xb rfl ec (B _)
      ·exact Ze rfl fun a _ _ _ _ A => Zx rfl (Zg A 7 rfl)
      ·refine Zz 8 true rfl rfl rfl (fun _ => rfl)
      ·refine Zz 8 true rfl rfl rfl (fun _ => rfl)
      ·refine Zz 8 true rfl rfl rfl (fun _ => rfl)
      ·refine Zz 8 true rfl rfl rfl (fun _ => rfl)
      ·refine Zz 8 true rfl rfl rfl (fun _ => rfl)
      ·refine Zz 8 true rfl rfl rfl (fun _ => rfl)
      ·refine Ze rfl fun a _ B _ _ A => ?_;have ec : a (.tmp 39) = _ := Zg A 8 rfl;exact Xb rfl ec (B _)
     ·intro vs w' hg ht;obtain ⟨(r31 : vs 0 = _), (r32 : vs 1 = _), (r33 : vs 2 = _), (r34 : vs 3 = _), (r35 : vs 4 = _), (r36 : vs 5 = _), (r37 : vs 6 = _), (r38 : vs 7 = _), (r39 : vs 8 = _), (r40 : vs 9 = _), (r41 : vs 10 = _), (r42 : vs 11 = _), (r43 : vs 12 = _), (r44 : vs 13 = _), (r45 : vs 14 = _), (r46 : vs 15 = _), -⟩ := ht;simp only [Ye, Act.put, List.setIfInBounds_toArray, List.set_cons_zero, List.set_cons_succ, r31, r32, r33, r34, r35, r36, r37, r38, r39, r40, r41, r42, r43, r44, r45, r46];clear r31 r32 r33 r34 r35 r36 r37 r38 r39 r40 r41 r42 r43 r44 r45 r46;have hX6 := (hg.block _ (Za hX)).trans hX;have gw6 := gw.trans hg;clear hX gw hg;go_wp2_with fail;go_meet;exact ⟨k, rfl, HK, hX6, gw6⟩
  case rest =>
   clear hT5 hs5 HNA HNW hX5 gw5;obtain ⟨k, rfl, HK, hX, gw⟩ := hcut;go_wp2_with fail;have HWK : Calls Tryz.prog 31 #[.slice ao l.length cp] wc fun r w' => ∃ (n : Int) (b : Bool), r = .returned (.tuple #[.int .i64 n, .bool b]) ∧ Hid (l.length ≤ 100 → n = (Qv X3 l : Int)) ∧ Zn wc w' := by
    have hlc : Zak (fun b => b < wc.heap.size) wc (.slice ao l.length cp) l := (hl.grow gw).mono (fun b h => Nat.lt_of_lt_of_le h gw.size);by_cases h : l.length ≤ 100
    ·refine (MW _ l _ wc (fun b h => h) hlc h hdl).mono ?_;rintro r w' ⟨rfl, g⟩;exact ⟨_, _, rfl, fun _ => rfl, g⟩
    ·refine (MF _ l _ wc (fun b h => h) hlc hm hdl).mono ?_;rintro r w' ⟨n, b, rfl, g⟩;exact ⟨n, b, rfl, fun h' => absurd h' h, g⟩
   refine HWK.mono ?_;clear HWK;rintro r w6 ⟨n, bo, rfl, HN, g6⟩;have HNK : Hid (l.length ≤ 100 → n = (k : Int)) := fun h => by rw [HN.out h, HN0.out, HK.out h]
   have hX6 := (g6.block _ (Za hX)).trans hX;have gw6 := gw.trans g6;clear HN HN0 HK hX gw g6;go_upto_region 10 with fail
   go_cut [71] (fun c wx => c = .bool false ∧ wx = w6)
   case first =>
    by_cases h : l.length ≤ 100
    ·have d1 : (n != (k : Int)) = false := by simp [HNK.out h]
     go_wp2_with fail;go_meet;exact ⟨rfl, rfl⟩
    ·go_wp2_with fail;go_meet;exact ⟨rfl, rfl⟩
   case rest =>
    obtain ⟨rfl, hwc⟩ := hcut;subst hwc;clear HNK;go_wp2_with fail;refine (Zk3 _ rs _ wc (Zs.grow hrs gw6) hmr).mono ?_;obtain ⟨R, hR⟩ : ∃ R, R = Q3 rs := ⟨_, rfl⟩;rw [← hR];rintro r w7 ⟨rfl, g7⟩;have gw7 := gw6.trans g7;cases R with
    | false =>
     clear hR hX6 g7 gw6;go_wp2_with fail;go_ret;exact ⟨rfl, gw7⟩
    | true =>
     have HR : Hid (Q3 rs = true) := hR.symm;have HL40 : Hid (rs.length ≤ 40) := ((Zbc rs).1 hR.symm).2;have hX2 := (g7.block _ (Za hX6)).trans hX6;have hrs7 := Zs.grow hrs gw7;have hd7 := hd.grow gw7;clear hR hX6 g7 gw6;obtain ⟨L, hL⟩ : ∃ L, L = Qj rs x := ⟨_, rfl⟩;have HLL : Hid (∀ y ∈ L, y.length ≤ rs.length + 1) := by rw [hL]; exact Zix rs x
     have HL2 : Hid (L.length ≤ 2) := by
      show _ ≤ _;rw [hL];rcases Zeq rs x with h | ⟨-, h⟩ | ⟨-, h, -⟩ <;> rw [h] <;> simp
     have HL : Hid _ := hL;clear hL;go_wp2_with fail;refine Yb [ex (.slice ar rs.length cr), ex (.agg #[.int .i64 x.kind, .int .i64 x.n, .int .i64 x.m, .int .i64 x.deed.kind, .int .i64 x.deed.key, .int .i64 x.deed.num, .slice ad x.deed.data.length c]), ((fun v w' => Kb (fun _ => True) w' v L)), ex (.slice ar rs.length cr), ex (.agg #[.int .i64 x.kind, .int .i64 x.n, .int .i64 x.m, .int .i64 x.deed.kind, .int .i64 x.deed.key, .int .i64 x.deed.num, .slice ad x.deed.data.length c]), ((fun v w' => Kb (fun _ => True) w' v L)), ((fun v w' => Kb (fun _ => True) w' v L)), ((fun v w' => Kb (fun _ => True) w' v L))] (by kernel_rfl) (by kernel_rfl) ⟨Zj _, Zj _, (fun _ _ _ hg h => Zs.grow h hg), Zj _, Zj _, (fun _ _ _ hg h => Zs.grow h hg), (fun _ _ _ hg h => Zs.grow h hg), (fun _ _ _ hg h => Zs.grow h hg), trivial⟩ ?_ ?_
     ·refine ⟨?_, ?_, ?_, ?_, ?_, ?_, ?_, ?_, trivial⟩
      ·exact Ze rfl fun a _ _ _ _ A => Zx rfl (Zy A 1 rfl)
      ·refine Ze rfl fun a _ _ _ B A => ?_;have e5 : a (.tmp 5) = .pointer (some ⟨w.heap.size, 0, none⟩) := Zy A 5 rfl;have hh := (B.block _ (Za hX2)).trans hX2;obtain ⟨z0, z1, z2, z3, z4⟩ := Qb hh rfl rfl rfl rfl rfl;have z5 := Zc hh 5 _ rfl;have z6 := Zc hh 6 _ rfl;refine Zo ?_ rfl;clear A B hh;go_simp;all_goals go_arith
      ·refine Ze rfl fun a B _ _ C A => ?_;have e75 : a (.tmp 75) = _ := Zg A 0 rfl;have e76 : a (.tmp 76) = _ := Zg A 1 rfl;refine Yv (f := 33) (args := #[.slice ar rs.length cr, .agg #[.int .i64 x.kind, .int .i64 x.n, .int .i64 x.m, .int .i64 x.deed.kind, .int .i64 x.deed.key, .int .i64 x.deed.num, .slice ad x.deed.data.length c]]) ?_ ((ML (fun b => b < B.heap.size) rs x _ ad c B (fun b h => h) HR.out (Zs.every (Zs.grow hrs7 C) (by decide)) (Za1 (hd7.grow C)) hdd).mono ?_)
       ·clear A C;go_simp;all_goals go_arith
       ·rw [← HL.out];rintro e w2 ⟨v2, rfl, hE, g2⟩;exact ⟨_, rfl, g2, hE.mono (fun _ _ => trivial)⟩
      ·exact Ze rfl fun a _ _ _ _ A => Zx rfl (Zy A 1 rfl)
      ·refine Ze rfl fun a _ _ _ B A => ?_;have e5 : a (.tmp 5) = .pointer (some ⟨w.heap.size, 0, none⟩) := Zy A 5 rfl;have hh := (B.block _ (Za hX2)).trans hX2;obtain ⟨z0, z1, z2, z3, z4⟩ := Qb hh rfl rfl rfl rfl rfl;have z5 := Zc hh 5 _ rfl;have z6 := Zc hh 6 _ rfl;refine Zo ?_ rfl;clear A B hh;go_simp;all_goals go_arith
      ·refine Ze rfl fun a B _ _ C A => ?_;have e78 : a (.tmp 78) = _ := Zg A 3 rfl;have e79 : a (.tmp 79) = _ := Zg A 4 rfl;refine Yv (f := 34) (args := #[.slice ar rs.length cr, .agg #[.int .i64 x.kind, .int .i64 x.n, .int .i64 x.m, .int .i64 x.deed.kind, .int .i64 x.deed.key, .int .i64 x.deed.num, .slice ad x.deed.data.length c]]) ?_ ((Znx (fun b => b < B.heap.size) rs x _ ad c B (fun b h => h) (Zs.every (Zs.grow hrs7 C) (by decide)) (Za1 (hd7.grow C)) (by have := HL40.out; omega) (Zny HR.out) hdd).mono ?_)
       ·clear A C;go_simp;all_goals go_arith
       ·rw [← HL.out];rintro e w2 ⟨v2, rfl, hE, g2⟩;exact ⟨_, rfl, g2, hE.mono (fun _ _ => trivial)⟩
      ·refine Ze rfl fun a B _ _ _ A => ?_;have e : ((fun v B => Kb (fun _ => True) B v L)) (a (.tmp 77)) B := Zg A 2 rfl;exact Yx rfl e
      ·refine Ze rfl fun a B _ _ _ A => ?_;have e : ((fun v B => Kb (fun _ => True) B v L)) (a (.tmp 80)) B := Zg A 5 rfl;exact Yx rfl e
     ·intro vs w' hg ht;obtain ⟨(r75 : vs 0 = _), (r76 : vs 1 = _), q77, (r78 : vs 3 = _), (r79 : vs 4 = _), q80, q14, q15, -⟩ := ht;simp only [Ye, Act.put, List.setIfInBounds_toArray, List.set_cons_zero, List.set_cons_succ, r75, r76, r78, r79];clear r75 r76 r78 r79;simp only [Nat.reduceAdd, Nat.zero_add] at q14 q15 ⊢;obtain ⟨a14, c14, hv14⟩ := Zs.form q14;obtain ⟨a15, c15, hv15⟩ := Zs.form q15;rw [hv14] at q14 ⊢;rw [hv15] at q15 ⊢;clear q77 q80 hv14 hv15;generalize vs 2 = n2;generalize vs 5 = n5;obtain ⟨W8, hW8⟩ : ∃ W8, W8 = w' := ⟨_, rfl⟩;rw [← hW8] at hg q14 q15 ⊢;clear hW8;have gw8 := gw7.trans hg;clear hX2 hrs7 hd7 gw7 hg HL;have hL2 : L.length ≤ 2 := HL2.out;go_wp2_with fail;go_loopw [88] (fun i wr => ∃ m : Nat, m ≤ L.length ∧ i = .int .i64 (m : Int) ∧ Zn W8 wr) (fun i _ => L.length - (intOf i).toNat)
      case atStart => exact ⟨0, by omega, rfl, Zn.refl _⟩
      case round =>
       obtain ⟨m, hm2, rfl, hgq⟩ := hrel;by_cases hlt : m < L.length
       ·obtain ⟨bA, oA, aA, cA, hv1, z0, hA⟩ := Zgv (Zs.grow q14 hgq) m hlt;cases hv1;obtain ⟨bB, oB, aB, cB, hv2, z1, hB⟩ := Zgv (Zs.grow q15 hgq) m hlt;cases hv2;have HLm : Hid (L[m].length ≤ 1000) := by show _ ≤ _; have := HLL.out L[m] (List.getElem_mem hlt); have := HL40.out; omega
        generalize L[m] = Z at *;go_wp2_with fail;refine Yb [ex (.slice (some ⟨bA, oA, none⟩) L.length c14), ex (.int .i64 (m : Int)), ex (.pointer (some ⟨bA, oA + m, none⟩)), ex (.slice aA Z.length cA), ex (.slice (some ⟨bB, oB, none⟩) L.length c15), ex (.int .i64 (m : Int)), ex (.pointer (some ⟨bB, oB + m, none⟩)), ex (.slice aB Z.length cB), ex (.bool true), ex (.bool false)] (by kernel_rfl) (by kernel_rfl) ⟨Zj _, Zj _, Zj _, Zj _, Zj _, Zj _, Zj _, Zj _, Zj _, Zj _, trivial⟩ ?_ ?_
        ·refine ⟨?_, ?_, ?_, ?_, ?_, ?_, ?_, ?_, ?_, ?_, trivial⟩
         ·exact Ze rfl fun a _ _ _ _ A => Zx rfl (Zy A 14 rfl)
         ·exact Ze rfl fun a _ _ _ _ A => Zx rfl (Zy A 16 rfl)
         ·refine Ze rfl fun a _ _ _ B A => ?_;have e91 : a (.tmp 91) = _ := Zg A 0 rfl;have e92 : a (.tmp 92) = _ := Zg A 1 rfl;refine Zo ?_ rfl;clear A B;go_simp;all_goals go_arith
         ·refine Ze rfl fun a _ _ _ B A => ?_;have e93 : a (.tmp 93) = _ := Zg A 2 rfl;have k0 := (Below.cell B (Zv z0)).trans z0;refine Zo ?_ rfl;clear A B;go_simp;all_goals go_arith
         ·exact Ze rfl fun a _ _ _ _ A => Zx rfl (Zy A 15 rfl)
         ·exact Ze rfl fun a _ _ _ _ A => Zx rfl (Zy A 16 rfl)
         ·refine Ze rfl fun a _ _ _ B A => ?_;have e95 : a (.tmp 95) = _ := Zg A 4 rfl;have e96 : a (.tmp 96) = _ := Zg A 5 rfl;refine Zo ?_ rfl;clear A B;go_simp;all_goals go_arith
         ·refine Ze rfl fun a _ _ _ B A => ?_;have e97 : a (.tmp 97) = _ := Zg A 6 rfl;have k0 := (Below.cell B (Zv z1)).trans z1;refine Zo ?_ rfl;clear A B;go_simp;all_goals go_arith
         ·refine Ze rfl fun a B _ _ C A => ?_;have e94 : a (.tmp 94) = _ := Zg A 3 rfl;have e98 : a (.tmp 98) = _ := Zg A 7 rfl;refine Yv (f := 35) (args := #[.slice aA Z.length cA, .slice aB Z.length cB]) ?_ ((Znp _ _ Z Z _ _ B (Zs.grow hA C) (Zs.grow hB C) HLm.out HLm.out).mono ?_)
          ·clear A C;go_simp;all_goals go_arith
          ·rw [K3];rintro e w2 ⟨rfl, g2⟩;exact ⟨_, rfl, g2, rfl⟩
         ·refine Ze rfl fun a _ _ _ B A => ?_;have e99 : a (.tmp 99) = _ := Zg A 8 rfl;refine Zo ?_ rfl;clear A B;go_simp;all_goals go_arith
        ·intro vs w' hg ht;obtain ⟨(r91 : vs 0 = _), (r92 : vs 1 = _), (r93 : vs 2 = _), (r94 : vs 3 = _), (r95 : vs 4 = _), (r96 : vs 5 = _), (r97 : vs 6 = _), (r98 : vs 7 = _), (r99 : vs 8 = _), (r100 : vs 9 = _), -⟩ := ht;simp only [Ye, Act.put, List.setIfInBounds_toArray, List.set_cons_zero, List.set_cons_succ, r91, r92, r93, r94, r95, r96, r97, r98, r99, r100];clear r91 r92 r93 r94 r95 r96 r97 r98 r99 r100;have hgE := hgq.trans hg;clear hg hgq z0 z1 hA hB;go_wp2_with fail;go_roundw
         case rel => exact ⟨m + 1, by omega, by go_num, hgE⟩
         case measure => simp [intOf]; omega
       ·have gE := gw8.trans hgq;clear q14 q15 hgq gw8;go_wp2_with fail;go_ret;exact ⟨rfl, gE⟩
end Go.Proofs.YtpdnapbchcdhlacGreat
