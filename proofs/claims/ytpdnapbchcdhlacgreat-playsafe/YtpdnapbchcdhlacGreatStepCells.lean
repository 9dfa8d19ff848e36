import Derived.Test.YtpdnapbchcdhlacGreatPyDo
import Derived.ProofKit
import Derived.OpenShut
import Derived.SizedLaws
import Derived.Lib.SmallJoins
import Derived.Deep.SlicePairs
set_option maxHeartbeats 8000000
namespace Go.Proofs.YtpdnapbchcdhlacGreat
set_option maxRecDepth 100000
open Go.RowKit
open Plain Reg
theorem Zdc {w : World} {N : Nat} {A : Array Value} {T : TypeId} {f : Nat × Nat} (h : w.heap[N]? = some (.cells A T f)) (k : Nat) {cs : List Value} (hl : cs.length = 7) (h0 : A[k]? = cs[0]?) (h1 : A[k + 1]? = cs[1]?) (h2 : A[k + 2]? = cs[2]?) (h3 : A[k + 3]? = cs[3]?) (h4 : A[k + 4]? = cs[4]?) (h5 : A[k + 5]? = cs[5]?) (h6 : A[k + 6]? = cs[6]?) : ∀ (j : Nat) (u : Value), cs[j]? = some u → w.cell? ⟨N, 0 + k + j, none⟩ = some u := fun j u hj => by
 have h7 : j < 7 := by have := (List.getElem?_eq_some_iff.1 hj).1; omega
 rw [Nat.zero_add];refine Zc h (k + j) u ?_
 match j, h7, hj with
 | 0, _, hj => exact h0.trans hj
 | 1, _, hj => exact h1.trans hj
 | 2, _, hj => exact h2.trans hj
 | 3, _, hj => exact h3.trans hj
 | 4, _, hj => exact h4.trans hj
 | 5, _, hj => exact h5.trans hj
 | 6, _, hj => exact h6.trans hj
def dPl : Dd := ⟨1, 7, 0, []⟩
def lPl : List Sp := [⟨1, 0, 0, dPl⟩, ⟨2, 0, 0, dPl⟩, ⟨2, 1, 0, dPl⟩, ⟨3, 999, 0, ⟨0, 0, 0, []⟩⟩]
theorem Ziu : (Qn lPl).2.1 = [0, 0, 0, 3] ∧ (Qn lPl).2.2 = [1, 2, 2, 0] ∧ (Qn lPl).1.idx.length = 2 := by decide +kernel
theorem Zye : ((Qn lPl).1.step ⟨1, 0, 0, dPl⟩).n = 3 ∧ ((Qn lPl).1.step ⟨1, 0, 0, dPl⟩).e = 0 ∧ ((Qn lPl).1.step ⟨1, 0, 0, dPl⟩).st.idx.length = 3 := by decide +kernel
abbrev plA : Array Value := #[.int .i64 1, .int .i64 0, .int .i64 0, .int .i64 1, .int .i64 7, .int .i64 0, .slice none 0 0, .int .i64 2, .int .i64 0, .int .i64 0, .int .i64 1, .int .i64 7, .int .i64 0, .slice none 0 0, .int .i64 2, .int .i64 1, .int .i64 0, .int .i64 1, .int .i64 7, .int .i64 0, .slice none 0 0, .int .i64 3, .int .i64 999, .int .i64 0, .int .i64 0, .int .i64 0, .int .i64 0, .slice none 0 0]
theorem Zsw {w : World} {N : Nat} {f : Nat × Nat} (h : w.heap[N]? = some (.cells plA 49 f)) : Zbf (fun b => b < w.heap.size) w (.slice (some ⟨N, 0, none⟩) 4 4) lPl := by
 refine .inr ⟨N, 0, 4, Za h, rfl, Nat.le_refl _, fun i hi => ?_⟩;have hb : ∀ S, Z0 S w (.slice none 0 0) [] := fun S => .inl ⟨none, 0, rfl, rfl, fun _ => rfl⟩
 have hi4 : i < 4 := hi
 match i, hi4 with
 | 0, _ => exact ⟨_, ⟨_, rfl, hb _⟩, Zdc h 0 rfl rfl rfl rfl rfl rfl rfl rfl⟩
 | 1, _ => exact ⟨_, ⟨_, rfl, hb _⟩, Zdc h 7 rfl rfl rfl rfl rfl rfl rfl rfl⟩
 | 2, _ => exact ⟨_, ⟨_, rfl, hb _⟩, Zdc h 14 rfl rfl rfl rfl rfl rfl rfl rfl⟩
 | 3, _ => exact ⟨_, ⟨_, rfl, hb _⟩, Zdc h 21 rfl rfl rfl rfl rfl rfl rfl rfl⟩
theorem Zm2 (PD : Zuh) (PP : Zo9) : Zg6 := by
 intro w;have g0 := Zb w (.cells #[.int .i64 1, .int .i64 7, .int .i64 0, .slice none 0 0] 47);have hD0 := Zg w #[.int .i64 1, .int .i64 7, .int .i64 0, .slice none 0 0] 47;obtain ⟨p0, p1, p2, p3⟩ := Z4 hD0 rfl rfl rfl rfl;go_enter Tryz.func22, Tryz.ntmps22;go_wp2_with fail;have hL0 := Zg (w.alloc (.cells #[.int .i64 1, .int .i64 7, .int .i64 0, .slice none 0 0] 47)) plA 49;have gL := Zb (w.alloc (.cells #[.int .i64 1, .int .i64 7, .int .i64 0, .slice none 0 0] 47)) (.cells plA 49);rw [World.size_alloc] at hL0;have hD1 := (gL.block _ (Za hD0)).trans hD0;have gw1 := g0.trans gL;clear p0 p1 p2 p3 hD0 g0 gL;obtain ⟨W1, hW1⟩ : ∃ W1, W1 = (w.alloc (.cells #[.int .i64 1, .int .i64 7, .int .i64 0, .slice none 0 0] 47)).alloc (.cells plA 49) := ⟨_, rfl⟩;rw [← hW1] at hL0 hD1 gw1;unfold plA at hW1;rw [← hW1];clear hW1;obtain ⟨N, hN⟩ : ∃ N, N = w.heap.size + 1 := ⟨_, rfl⟩;rw [← hN] at hL0 ⊢;clear hN;refine (PP (fun b => b < W1.heap.size) lPl _ W1 (fun b h => h) (Zsw hL0) (by decide) (fun x hx => by simp [lPl, dPl] at hx; rcases hx with rfl | rfl | rfl | rfl <;> decide)).mono ?_;rw [Ziu.1, Ziu.2.1];have HSI : Hid ((Qn lPl).1.idx.length = 2) := Ziu.2.2;have HSA : Hid ((Qn lPl).1.At) := Zvr _ _ Ziz;have HSD : Hid _ := Zye;have HXA : Hid (((Qn lPl).1.step ⟨1, 0, 0, dPl⟩).st.At) := Zc6 HSA.out;generalize (Qn lPl).1 = s at *;rintro r w2 ⟨v2, ev, nv, rfl, hS2, he2, hn2, g2⟩;obtain ⟨b1, e1, l1, m1, i1, j1, hv2, -, -, -⟩ := hS2.form;subst hv2
 obtain ⟨ge, ce, rfl⟩ : ∃ g c, ev = .slice (some ⟨g, 0, none⟩) 4 c := by
  obtain ⟨g, c, h, -⟩ := Zkn he2 (by decide);exact ⟨g, c, h⟩
 obtain ⟨gn, cn, rfl⟩ : ∃ g c, nv = .slice (some ⟨g, 0, none⟩) 4 c := by
  obtain ⟨g, c, h, -⟩ := Zkn hn2 (by decide);exact ⟨g, c, h⟩
 have g3 := Zb w2 (.cells #[.slice b1 s.dk.blocks.length e1, .slice l1 s.dk.late.length m1, .slice i1 s.idx.length j1, .int .i64 s.next] 29);have hY3 := Zg w2 #[.slice b1 s.dk.blocks.length e1, .slice l1 s.dk.late.length m1, .slice i1 s.idx.length j1, .int .i64 s.next] 29;have hS3 := (hS2.grow g3).any;have hD3 := ((g2.trans g3).block _ (Za hD1)).trans hD1;have he3 := Yb he2 g3;have hn3 := Yb hn2 g3;have gw3 := gw1.trans (g2.trans g3);clear hS2 he2 hn2 hD1 hL0 g2 g3 gw1;obtain ⟨y0, y1, y2, y3⟩ := Z4 hY3 rfl rfl rfl rfl;obtain ⟨p0, p1, p2, p3⟩ := Z4 hD3 rfl rfl rfl rfl;go_wp2_with fail;clear y0 y1 y2 y3 p0 p1 p2 p3 hD3;obtain ⟨G, hG⟩ : ∃ G, G = w2.heap.size := ⟨_, rfl⟩;rw [← hG] at hY3 ⊢;clear hG;generalize World.alloc w2 _ = w3 at *;refine (PD (fun b => b < w3.heap.size) s ⟨1, 0, 0, dPl⟩ _ none 0 w3 (fun b h => h) hS3.now (.inl ⟨none, 0, rfl, rfl, fun _ => rfl⟩) HSA.out (by decide)).mono ?_;rw [HSD.out.1, HSD.out.2.1];have HXI : Hid ((s.step ⟨1, 0, 0, dPl⟩).st.idx.length = 3) := HSD.out.2.2;clear HSD;generalize (s.step ⟨1, 0, 0, dPl⟩).st = X at *;rintro r w4 ⟨v4, rfl, h4, g4⟩;obtain ⟨b4, e4, l4, m4, i4, j4, hv4, -, -, -⟩ := h4.form;subst hv4;have g5 := Zb w4 (.cells #[.slice b4 X.dk.blocks.length e4, .slice l4 X.dk.late.length m4, .slice i4 X.idx.length j4, .int .i64 X.next] 29);have hX5 := Zg w4 #[.slice b4 X.dk.blocks.length e4, .slice l4 X.dk.late.length m4, .slice i4 X.idx.length j4, .int .i64 X.next] 29;have gg := g4.trans g5;have hY5 := (gg.block _ (Za hY3)).trans hY3
 have he5 := Yb he3 gg;have hn5 := Yb hn3 gg;have gE := gw3.trans gg;have o3 : (w4.alloc (.cells #[.slice b4 X.dk.blocks.length e4, .slice l4 X.dk.late.length m4, .slice i4 X.idx.length j4, .int .i64 X.next] 29)).cell? ⟨ge, 3, none⟩ = some (.int .i64 3) := by rw [he5.cellAt 3 (by decide)]; rfl
 have n0 : (w4.alloc (.cells #[.slice b4 X.dk.blocks.length e4, .slice l4 X.dk.late.length m4, .slice i4 X.idx.length j4, .int .i64 X.next] 29)).cell? ⟨gn, 0, none⟩ = some (.int .i64 1) := by rw [hn5.cellAt 0 (by decide)]; rfl
 have n2 : (w4.alloc (.cells #[.slice b4 X.dk.blocks.length e4, .slice l4 X.dk.late.length m4, .slice i4 X.idx.length j4, .int .i64 X.next] 29)).cell? ⟨gn, 2, none⟩ = some (.int .i64 2) := by rw [hn5.cellAt 2 (by decide)]; rfl
 have y2 := Zc hY5 2 _ rfl;have x2 := Zc hX5 2 _ rfl;rw [HSI.out] at y2;have d3 : ((X.idx.length : Int) == 3) = true := by rw [HXI.out]; rfl
 clear hY3 hS3 he3 hn3 gw3 h4 g4 g5 gg hY5 hX5 he5 hn5;go_wp2_with fail;go_ret;exact ⟨rfl, gE⟩
variable {T : TypeId} {es xs : List Int} {g k n : Nat} {w w' : World}
def Kd (T : TypeId) (g : Nat) (xs : List Int) (w : World) : Prop := w.heap[g]? = some (.cells (xs.map iv).toArray T (0, 0))
theorem Kd.grow (h : Kd T g xs w) (hg : Zn w w') : Kd T g xs w' := (hg.block _ (Za h)).trans h
theorem Kd.but {q : Nat} (h : Kd T g xs w) (hg : Zo q w w') (hn : g ≠ q) : Kd T g xs w' := (hg.block _ (Za h) hn).trans h
theorem Kd.set (h : Kd T g xs w) (i : Nat) (x : Int) : Kd T g (xs.set i x) (w.setCell ⟨g, i, none⟩ (.int .i64 x)) := by
 have := Ye h i (.int .i64 x);unfold Kd;rw [this];simp [List.map_set, iv]
theorem Kd.own {base : Nat} (h : Kd T g xs w) (hb : base ≤ g) (hn : xs.length = n) (hm : n ≤ 100) : w.ownsRow base T 1 (.slice (some ⟨g, 0, none⟩) n n) xs.length (xs.map iv) := by
 subst hn;exact ⟨by simp, .inr ⟨g, _, _, rfl, hb, h, Nat.le_refl _, by unfold maxLen; omega, by simp, by simp [List.take_of_length_le]⟩⟩
theorem Kd.made (h : w.heap[g]? = some (.cells (Array.replicate n (.int .i64 0)) T (0, 0))) : Kd T g ([] ++ List.replicate (n - 0) 0) w := by
 unfold Kd;rw [h];simp [iv]
theorem Zla (x : Int) (h : es.length = k) (hk : k < n) : (es ++ List.replicate (n - k) 0).set k x = (es ++ [x]) ++ List.replicate (n - (k + 1)) 0 := by
 subst h;rw [List.set_append_right (h := Nat.le_refl _), Nat.sub_self, show n - es.length = (n - (es.length + 1)) + 1 by omega, List.replicate_succ];simp
theorem Zo4 (h : es.length = k) (hk : k < n) : (((es ++ List.replicate (n - k) 0).map iv).toArray)[k]? = some (.int .i64 0) := by
 subst h;have : 0 < n - es.length := by omega
 simp [iv, this]
theorem Ztj (w : World) (n : Nat) (hn : n ≤ 100) : (Instr.makeSlice 30 (.int .i64 (n : Int)) (.int .i64 (n : Int))).run Tryz.prog w = .ok (.slice (some ⟨w.heap.size, 0, none⟩) n n) (w.alloc (.cells (Array.replicate n (.int .i64 0)) 50)) := by
 obtain ⟨i0, hif, hz0, hz1, hz2⟩ := info_parts Znl;have h := run_make (P := Tryz.prog) w 30 50 i0 (.int .i64 0) Tryz.underlying30 hif hz0 .i64 .i64 n n (by omega) (by omega) (by rw [hz2]; omega) (by omega);rw [h, hz1];have e : madeCells (Value.int .i64 0).cells ((n : Int).toNat * 1) = Array.replicate n (Value.int .i64 0) := by
  have h2 := toList_madeCells_one (.int .i64 0) n;rw [Int.toNat_natCast, Nat.mul_one, ← List.toArray_replicate, ← h2];rfl
 rw [e, Int.toNat_natCast]
theorem Zti (w : World) (n : Nat) (hn : n ≤ 100) : (Instr.makeSlice 31 (.int .i64 (n : Int)) (.int .i64 (n : Int))).run Tryz.prog w = .ok (.slice (some ⟨w.heap.size, 0, none⟩) n n) (w.alloc (.cells (Array.replicate n (.int .i64 0)) 3)) := by
 obtain ⟨i0, hif, hz0, hz1, hz2⟩ := info_parts Zee;have h := run_make (P := Tryz.prog) w 31 3 i0 (.int .i64 0) Tryz.underlying31 hif hz0 .i64 .i64 n n (by omega) (by omega) (by rw [hz2]; omega) (by omega);rw [h, hz1];have e : madeCells (Value.int .i64 0).cells ((n : Int).toNat * 1) = Array.replicate n (Value.int .i64 0) := by
  have h2 := toList_madeCells_one (.int .i64 0) n;rw [Int.toNat_natCast, Nat.mul_one, ← List.toArray_replicate, ← h2];rfl
 rw [e, Int.toNat_natCast]
theorem Zxj : Zo9 := by
 intro S l v w hS hl hm hdl;obtain ⟨ao, cp, rfl⟩ := hl.form;have g0 := Zb w Y6;have hz0 := Zg w #[.slice none 0 0, .slice none 0 0, .slice none 0 0, .int .i64 0] 29;obtain ⟨R, hR⟩ : ∃ R, R = Qn l := ⟨_, rfl⟩;rw [← hR];have HR : Hid _ := hR;clear hR;go_enter Tryz.func19, Tryz.ntmps19;go_wp2_with fail;refine (Zp2 S (w.alloc Y6) (fun b h => by have := hS b h; simp; omega)).mono ?_;rintro r w1 ⟨v1, rfl, hS1, g1⟩;obtain ⟨b1, e1, l1, m1, i1, j1, hv1, -, -, -⟩ := hS1.form;subst hv1;rw [World.size_alloc] at hS1;obtain ⟨G, hG⟩ : ∃ G, G = w1.heap.size := ⟨_, rfl⟩;have hz1 := (g1.block _ (Za hz0)).trans hz0;have hGz : w.heap.size < G := by rw [hG]; exact Za hz1
 have mkE := fun w => Ztj w l.length hm
 have mkN := fun w => Zti w l.length hm
 have g2 := (Zp w1 (.cells #[.slice b1 Xg.dk.blocks.length e1, .slice l1 Xg.dk.late.length m1, .slice i1 Xg.idx.length j1, .int .i64 Xg.next] 29) (.cells (Array.replicate l.length (.int .i64 0)) 50)).trans (Zb _ (.cells (Array.replicate l.length (.int .i64 0)) 3));have hY0 := Zg w1 #[.slice b1 Xg.dk.blocks.length e1, .slice l1 Xg.dk.late.length m1, .slice i1 Xg.idx.length j1, .int .i64 Xg.next] 29;have hE0 := Zg (w1.alloc (.cells #[.slice b1 Xg.dk.blocks.length e1, .slice l1 Xg.dk.late.length m1, .slice i1 Xg.idx.length j1, .int .i64 Xg.next] 29)) (Array.replicate l.length (.int .i64 0)) 50;have hN := Zg ((w1.alloc (.cells #[.slice b1 Xg.dk.blocks.length e1, .slice l1 Xg.dk.late.length m1, .slice i1 Xg.idx.length j1, .int .i64 Xg.next] 29)).alloc (.cells (Array.replicate l.length (.int .i64 0)) 50)) (Array.replicate l.length (.int .i64 0)) 3;have hE := ((Zb ((w1.alloc (.cells #[.slice b1 Xg.dk.blocks.length e1, .slice l1 Xg.dk.late.length m1, .slice i1 Xg.idx.length j1, .int .i64 Xg.next] 29)).alloc (.cells (Array.replicate l.length (.int .i64 0)) 50)) (.cells (Array.replicate l.length (.int .i64 0)) 3)).block _ (Za hE0)).trans hE0;have hY := ((Zp (w1.alloc (.cells #[.slice b1 Xg.dk.blocks.length e1, .slice l1 Xg.dk.late.length m1, .slice i1 Xg.idx.length j1, .int .i64 Xg.next] 29)) (.cells (Array.replicate l.length (.int .i64 0)) 50) (.cells (Array.replicate l.length (.int .i64 0)) 3)).block _ (Za hY0)).trans hY0;rw [World.size_alloc, World.size_alloc, ← hG] at hN
 rw [World.size_alloc, ← hG] at hE;have hz2 := (g2.block _ (Za hz1)).trans hz1;have gw2 := g0.trans (g1.trans g2);rw [← hG] at hY;obtain ⟨U, hU⟩ : ∃ U : Nat → Prop, U = fun b => S b ∨ (w.heap.size < b ∧ b ≠ G ∧ b ≠ G + 1 ∧ b ≠ G + 2) := ⟨_, rfl⟩
 have hUz : ¬ U w.heap.size := by rw [hU]; rintro (h | h); exact absurd (hS _ h) (Nat.lt_irrefl _); omega
 have hUg : ¬ U G := by rw [hU]; rintro (h | h); have := hS _ h; omega; exact h.2.1 rfl
 have hUe : ¬ U (G + 1) := by rw [hU]; rintro (h | h); have := hS _ h; omega; exact h.2.2.1 rfl
 have hUi : ¬ U (G + 2) := by rw [hU]; rintro (h | h); have := hS _ h; omega; exact h.2.2.2 rfl
 have hUp : ∀ b, U b → Zs S w.heap.size b := by rw [hU]; rintro b (h | h); exact .inl h; exact .inr (by omega)
 have hUs : ∀ b, S b → U b := by rw [hU]; exact fun b h => .inl h
 have hUn : ∀ b, G + 2 < b → U b := by rw [hU]; exact fun b h => .inr (by omega)
 have hS2 := (hS1.capd.grow g2).mono (S' := U) (by
  rw [hU, ← hG];rintro b ⟨h | h, hb⟩
  ·exact .inl h
  ·exact .inr ⟨by omega, by omega, by omega, by omega⟩)
 have HG : Hid _ := hG;have HU : Hid _ := hU;have HST : Hid (Xg.At) := Ziz;clear g0 g1 g2 hz0 hz1 hS1 hG hU hY0 hE0;go_wp2_with fail;rw [← HG.out];have hE2 := Kd.made hE;have hN2 := Kd.made hN;have HPL : Hid (Qn (l.take 0) = (Xg, [], [])) := by show _ = _; rfl
 clear hE hN mkE mkN;generalize Xg = s0 at *;go_loopw [24] (fun i wr => ∃ (k : Nat) (s : St) (es ns : List Int) (b1 : Option Addr) (e1 : Nat) (l1 : Option Addr) (m1 : Nat) (i1 : Option Addr) (j1 : Nat), k ≤ l.length ∧ i = .int .i64 (k : Int) ∧ Hid (Qn (l.take k) = (s, es, ns)) ∧ Hid s.At ∧ wr.heap[w.heap.size]? = some (.cells #[.slice none 0 0, .slice none 0 0, .slice none 0 0, .int .i64 0] 29 (0, 0)) ∧ wr.heap[G]? = some (.cells #[.slice b1 s.dk.blocks.length e1, .slice l1 s.dk.late.length m1, .slice i1 s.idx.length j1, .int .i64 s.next] 29 (0, 0)) ∧ Z8 U s (.agg #[.slice b1 s.dk.blocks.length e1, .slice l1 s.dk.late.length m1, .slice i1 s.idx.length j1, .int .i64 s.next]) wr ∧ Kd 50 (G + 1) (es ++ List.replicate (l.length - k) 0) wr ∧ Kd 3 (G + 2) (ns ++ List.replicate (l.length - k) 0) wr ∧ Zn w wr) (fun i _ => l.length - (intOf i).toNat)
 case atStart => exact ⟨0, s0, [], [], b1, e1, l1, m1, i1, j1, by omega, rfl, HPL, HST, hz2, hY, hS2, hE2, hN2, gw2⟩
 case round =>
  clear hz2 hY hS2 gw2 HPL HST hE2 hN2;obtain ⟨k, s, es, ns, b1, e1, l1, m1, i1, j1, hkl, rfl, HPL, HST, hz9, hY, hS9, hE9, hN9, gw9⟩ := hrel;have HLK : Hid (es.length = k ∧ ns.length = k) := by
   have h := Zm1 (l.take k) (Xg, [], []);have e : (l.take k).foldl K8 (Xg, [], []) = (s, es, ns) := HPL.out;rw [e] at h;simp only [List.length_nil, List.length_take] at h;show _ ∧ _;omega
  obtain ⟨y0, y1, y2, y3⟩ := Z4 hY rfl rfl rfl rfl;by_cases hlt : k < l.length
  ·obtain ⟨b, off, ad, c, hao, q0, q1, q2, q3, q4, q5, q6, hbd⟩ := Zfi (hl.grow gw9) k hlt;cases hao;have HNX : Hid (Qn (l.take (k + 1)) = K8 (Qn (l.take k)) l[k]) := Zki l k hlt;have HDL : Hid (l[k].deed.data.length ≤ 140737488355328) := hdl _ (List.getElem_mem hlt);generalize l[k] = x at *;have g3 := Zb wr (.cells #[.int .i64 x.kind, .int .i64 x.n, .int .i64 x.m, .int .i64 x.deed.kind, .int .i64 x.deed.key, .int .i64 x.deed.num, .slice ad x.deed.data.length c] 49);have hX := Zg wr #[.int .i64 x.kind, .int .i64 x.n, .int .i64 x.m, .int .i64 x.deed.kind, .int .i64 x.deed.key, .int .i64 x.deed.num, .slice ad x.deed.data.length c] 49;have hz3 := (g3.block _ (Za hz9)).trans hz9;have hY3 := (g3.block _ (Za hY)).trans hY;have hS3 := hS9.grow g3;have hb3 := hbd.grow g3;have hE3 := hE9.grow g3;have hN3 := hN9.grow g3;have gw3 := gw9.trans g3;clear y0 y1 y2 y3 hz9 hS9 gw9 hY hbd hE9 hN9;obtain ⟨y0, y1, y2, y3⟩ := Z4 hY3 rfl rfl rfl rfl;obtain ⟨p0, p1, p2, p3, p4⟩ := Qh hX rfl rfl rfl rfl rfl;have p5 := Zc hX 5 _ rfl;have p6 := Zc hX 6 _ rfl;clear g3;go_wp2_with fail;generalize World.alloc wr _ = w4 at *;refine (Zxk (fun b => U b ∧ b < w4.heap.size) s x _ ad c w4 (fun b h => h.2) hS3.capd ((hb3.mono hUs).caps) HST.out HDL.out).mono ?_;have HAT : Hid ((s.step x).st.At) := Zc6 HST.out;have HN2 : Hid (Qn (l.take (k + 1)) = ((s.step x).st, es ++ [(s.step x).e], ns ++ [(s.step x).n])) := by show _ = _; rw [HNX.out, HPL.out]; rfl
   generalize s.step x = B at *;rintro r w5 ⟨v5, rfl, hS5, g5⟩;obtain ⟨b5, e5, l5, m5, i5, j5, hv5, -, -, -⟩ := hS5.form;subst hv5;have hG4 : G + 2 < w4.heap.size := Za hN3;have hS6 : Z8 U B.st (.agg #[.slice b5 B.st.dk.blocks.length e5, .slice l5 B.st.dk.late.length m5, .slice i5 B.st.idx.length j5, .int .i64 B.st.next]) w5 := hS5.mono fun b h => h.elim (fun x => x.1) (fun x => hUn b (by omega))
   have hz5 := (g5.block _ (Za hz3)).trans hz3;have hY5 := (g5.block _ (Za hY3)).trans hY3;have hE5 := hE3.grow g5;have hN5 := hN3.grow g5;have gw5 := gw3.trans g5;clear y0 y1 y2 y3 p0 p1 p2 p3 p4 p5 p6 hX hz3 hY3 hS3 hb3 gw3 hS5 g5 HST HNX HPL hE3 hN3 q0 q1 q2 q3 q4 q5 q6 hG4;obtain ⟨hp1, hp2⟩ := Yd hY5 (.slice b5 B.st.dk.blocks.length e5) (.slice l5 B.st.dk.late.length m5) (.slice i5 B.st.idx.length j5) (.int .i64 B.st.next);obtain ⟨y0, y1, y2, y3⟩ := Z4 hY5 rfl rfl rfl rfl;obtain ⟨f0, f1, f2, f3⟩ := Yr hY5;have cE := Zc hE5 k (.int .i64 0) (Zo4 HLK.out.1 hlt);have cN := Zc hN5 k (.int .i64 0) (Zo4 HLK.out.2 hlt);have fE := Zi hE5 k;have fN := Zi hN5 k;have cs := Zr;have hz6 := (hp2.block _ (Za hz5) (by omega)).trans hz5;have hS6' := hS6.but hp2 hUg;have hE6 := hE5.but hp2 (by omega);have hN6 := hN5.but hp2 (by omega);have gw6 := hp2.grow gw5 (by omega);have b7 := (Zo.refl (G + 2) _).set (b := (((w5.setCell ⟨G, 0, none⟩ (.slice b5 B.st.dk.blocks.length e5)).setCell ⟨G, 1, none⟩ (.slice l5 B.st.dk.late.length m5)).setCell ⟨G, 2, none⟩ (.slice i5 B.st.idx.length j5)).setCell ⟨G, 3, none⟩ (.int .i64 B.st.next)) k none (.int .i64 B.n);have hN7 := hN6.set k B.n;rw [Zla B.n HLK.out.2 hlt] at hN7;have hz7 := (b7.block _ (Za hz6) (by omega)).trans hz6;have hY7 := (b7.block _ (Za hp1) (by omega)).trans hp1;have hS7 := hS6'.but b7 hUi;have hE7 := hE6.but b7 (by omega);have gw7 := b7.grow gw6 (by omega)
   have b8 := (Zo.refl (G + 1) _).set (b := ((((w5.setCell ⟨G, 0, none⟩ (.slice b5 B.st.dk.blocks.length e5)).setCell ⟨G, 1, none⟩ (.slice l5 B.st.dk.late.length m5)).setCell ⟨G, 2, none⟩ (.slice i5 B.st.idx.length j5)).setCell ⟨G, 3, none⟩ (.int .i64 B.st.next)).setCell ⟨G + 2, k, none⟩ (.int .i64 B.n)) k none (.int .i64 B.e);have hE8 := hE7.set k B.e;rw [Zla B.e HLK.out.1 hlt] at hE8;have hz8 := (b8.block _ (Za hz7) (by omega)).trans hz7;have hY8 := (b8.block _ (Za hY7) (by omega)).trans hY7;have hS8 := hS7.but b8 hUe;have hN8 := hN7.but b8 (by omega);have gw8 := b8.grow gw7 (by omega);clear hp1 hp2 hz5 hY5 gw5 hS6 hE5 hN5 hz6 hS6' hE6 hN6 gw6 b7 hN7 hz7 hY7 hS7 hE7 gw7 b8;have HE8 : Hid _ := hE8;have HN8 : Hid _ := hN8;clear hE8 hN8;go_wp2_with fail;go_roundw
   case rel => exact ⟨k + 1, B.st, es ++ [B.e], ns ++ [B.n], b5, e5, l5, m5, i5, j5, by omega, by go_num, HN2, HAT, hz8, hY8, hS8, HE8.out, HN8.out, gw8⟩
   case measure => simp [intOf]; omega
  ·obtain rfl : k = l.length := by omega
   obtain rfl : R = (s, es, ns) := by
    have e : l.take l.length = l := List.take_length;rw [HR.out, ← HPL.out, e]
   rw [Nat.sub_self, List.replicate_zero, List.append_nil] at hE9 hN9;have HLN : Hid (es.length = l.length ∧ ns.length = l.length) := HLK;clear HPL HST hY HLK;obtain ⟨z0, z1, z2, z3⟩ := Z4 hz9 rfl rfl rfl rfl;obtain ⟨o0, o1, o2, o3⟩ := Yr hz9;obtain ⟨hq1, hq2⟩ := Yd hz9 (.slice b1 s.dk.blocks.length e1) (.slice l1 s.dk.late.length m1) (.slice i1 s.idx.length j1) (.int .i64 s.next);obtain ⟨x0, x1, x2, x3⟩ := Z4 hq1 rfl rfl rfl rfl;have cs := Zr;have gE := hq2.grow gw9 (Nat.le_refl _);have hE := (hS9.but hq2 hUz).mono hUp;have rE := (hE9.but hq2 (by omega)).own (base := w.heap.size) (by omega) HLN.out.1 (by omega);have rN := (hN9.but hq2 (by omega)).own (base := w.heap.size) (by omega) HLN.out.2 (by omega);clear hq1 hq2 hz9 gw9 hS9 hE9 hN9;go_wp2_with fail;exact bodyPost_ret (v := .tuple #[.agg #[.slice b1 s.dk.blocks.length e1, .slice l1 s.dk.late.length m1, .slice i1 s.idx.length j1, .int .i64 s.next], .slice (some ⟨G + 1, 0, none⟩) l.length l.length, .slice (some ⟨G + 2, 0, none⟩) l.length l.length, .int .i64 0]) (by simp [results, Tryz.results19, go_sem, x0, x1, x2, x3]) rfl ⟨_, _, _, rfl, hE, rE, rN, gE⟩
theorem Zvp : Zg6 := Zm2 Zxk Zxj
end Go.Proofs.YtpdnapbchcdhlacGreat
namespace Go.Proofs.YtpdnapbchcdhlacGreat
set_option maxRecDepth 100000
open Go.RowKit Go.ChangeShapes Go.WideShapes Go.ChangeAt
open Plain Reg
theorem Zux {n : Int} (h : (Lit.int .u8 n).wf = true) : 0 ≤ n ∧ n < 256 := by
 have : 0 ≤ n ∧ n ≤ 255 := by simpa [Lit.wf, IntKind.min, IntKind.max, IntKind.signed, IntKind.bits] using h
 omega
def Jt (zs : List Int) : List UInt8 := zs.map fun n => UInt8.ofNat n.toNat
theorem Zq9 {w : World} {x : Addr} {len cap : Nat} {zs : List Int} (hl : len ≤ cap) (hz : zs.length = cap)
  (hc : ∀ i, i < zs.length → w.cell? (x.add i) = some (.int .u8 (zs.getD i 0))) (hw : ∀ n ∈ zs, (Lit.int .u8 n).wf = true) :
  Bytes w (.slice (some x) len cap) (Jt (zs.take len)) := by
 have e : (Jt (zs.take len)).length = len := by simp [Jt]; omega
 by_cases h0 : len = 0
 ·subst h0;exact .inl ⟨some x, cap, rfl, by simp [Jt], fun h => by cases h⟩
 ·obtain ⟨b, off, rfl, hc'⟩ := ints_at hc (by omega);refine .inr ⟨b, off, cap, by rw [e], by omega, fun i hi => ?_⟩;have hi' : i < zs.length := by omega
  rw [hc' i hi'];have h1 : zs.getD i 0 = zs[i] := by rw [List.getD_eq_getElem?_getD, List.getElem?_eq_getElem hi']; rfl
  have h2 := Zux (hw zs[i] (List.getElem_mem hi'));have h3 : ((Jt (zs.take len))[i].toNat : Int) = zs[i] := by
   simp only [Jt, List.getElem_map, List.getElem_take];rw [UInt8.toNat_ofNat'];omega
  rw [h1, h3]
end Go.Proofs.YtpdnapbchcdhlacGreat
namespace Go.Proofs.YtpdnapbchcdhlacGreat
set_option maxRecDepth 100000
open Go.RowKit Go.ChangeShapes Go.WideShapes Go.ChangeAt Go.Deep
open Plain Reg
section
variable {H : Type} {enc : TypeId × Value → H} {W : World}
theorem Zb2 {P : Program} {ts : List TypeId} {ds : List (DataW H)} (h : (DataW.weightsEach P ts ds).all (· ≤ reachBytes) = true) {j : Nat} {t : TypeId} {d : DataW H} (ht : ts[j]? = some t) (hd : ds[j]? = some d) : (d.weights P t).all (· ≤ reachBytes) = true := by
 rw [List.all_eq_true] at h ⊢;exact fun n hn => h n (DataW.weights_mem_each ht hd n hn)
theorem Zf5 {fuel : Nat} {v : Value} {x : DataW H × List MemPlace} (h : DataW.trod enc Tryz.prog W 0 (fun _ => true) true fuel 45 [v] = some x) (hs : (x.1.weights Tryz.prog 45).all (· ≤ reachBytes) = true) :
  ∃ l, Bytes W v l ∧ l.length ≤ 140737488351232 := by
 rcases open_ints Tryz.underlying45 Tryz.underlying5 (by kernel_rfl) h with ⟨hcs, _⟩ | ⟨a, len, cap, zs, hcs, _, hl, hm, hz, hx, hcell, hwz⟩
 ·simp only [List.cons.injEq, and_true] at hcs;subst hcs;exact ⟨[], .inl ⟨none, 0, rfl, rfl, fun _ => rfl⟩, by simp⟩
 ·simp only [List.cons.injEq, and_true] at hcs;subst hcs;have hzz : zs.length = cap := by simpa using hz
  subst hx;have hs2 : (lits (H := H) .u8 (zs.take len)).length + (lits (H := H) .u8 (zs.drop len)).length ≤ reachBytes := by
   have h3 := (List.all_eq_true.1 hs) (((lits (H := H) .u8 (zs.take len)).length + (lits (H := H) .u8 (zs.drop len)).length) * Tryz.prog.bytesOf 5) (by simp [DataW.weights, Tryz.underlying45]);rw [show Tryz.prog.bytesOf 5 = 1 from by kernel_rfl, Nat.mul_one] at h3;simpa using h3
  simp only [lits, List.length_map, List.length_take, List.length_drop, reachBytes] at hs2;refine ⟨Jt (zs.take len), Zq9 hl hzz hcell hwz, ?_⟩;simp [Jt]; omega
end
end Go.Proofs.YtpdnapbchcdhlacGreat
namespace Go.Proofs.YtpdnapbchcdhlacGreat
set_option maxRecDepth 100000
open Go.RowKit Go.ChangeShapes Go.WideShapes Go.ChangeAt Go.Deep
open Plain Reg
section
variable {H : Type} {enc : TypeId × Value → H} {W : World}
theorem Zm3 {a : Addr} {u : Value} (h : W.cell? (a.add 0) = some u) : ∃ b off, a = ⟨b, off, none⟩ := by
 obtain ⟨b, off, spot⟩ := a;cases spot with
 | none => exact ⟨b, off, rfl⟩
 | some s =>
  exfalso;unfold World.cell? Addr.add at h;simp only [if_true] at h;split at h <;> simp_all
theorem Zhy (b off i : Nat) : (⟨b, off, none⟩ : Addr).add i = ⟨b, off + i, none⟩ := by
 unfold Addr.add;split
 ·rename_i h; rw [h]; rfl
 ·rfl
end
section
variable {H : Type} {enc : TypeId × Value → H} {W : World}
end
section
variable {H : Type} {enc : TypeId × Value → H} {W : World}
theorem Zqb {r : Reach} {b0 : Nat} {v : Value} {d : DataW H} {p : List MemPlace} (hok : Value.okWide Tryz.prog W r b0 47 v) (h : DataW.Trod enc Tryz.prog W 0 (fun _ => true) true 47 v d p)
  (hs : (d.weights Tryz.prog 47).all (· ≤ reachBytes) = true) :
  ∃ (e : Dd) (a : Option Addr) (c : Nat), v = .agg #[.int .i64 e.kind, .int .i64 e.key, .int .i64 e.num, .slice a e.data.length c] ∧ Z0 (fun b => b < W.heap.size) W (.slice a e.data.length c) e.data ∧ e.data.length ≤ 140737488351232 := by
 obtain ⟨cs, rfl, hsz⟩ := okWide_struct Tryz.underlying47 hok;have hc4 : Tryz.prog.cellsOf 47 = 4 := by kernel_rfl
 obtain ⟨c0, c1, c2, c3, rfl⟩ := Go.Joins.array4 (hsz.trans hc4);obtain ⟨fuel, hf⟩ := h;obtain ⟨y0, y1, y2, y3, m, hx, _, h0, h1, h2, h3⟩ := Go.Joins.trod_struct4 Tryz.underlying47 hf;have t0 : Tryz.prog.cellsOf 3 = 1 := by kernel_rfl
 have t1 : Tryz.prog.cellsOf 45 = 1 := by kernel_rfl
 simp only [Value.cells, t0, t1, List.drop_zero, List.drop_succ_cons, List.take_succ_cons, List.take_zero] at h0 h1 h2 h3;obtain ⟨a0, e0, f0, -⟩ := DataW.trod_int Tryz.underlying3 h0;obtain ⟨a1, e1, f1, -⟩ := DataW.trod_int Tryz.underlying3 h1;obtain ⟨a2, e2, f2, -⟩ := DataW.trod_int Tryz.underlying3 h2;simp only [List.cons.injEq, and_true] at e0 e1 e2;subst e0; subst e1; subst e2;simp only [Prod.mk.injEq] at hx;obtain ⟨rfl, -⟩ := hx;have hw3 : (y3.1.weights Tryz.prog 45).all (· ≤ reachBytes) = true := by
  simp only [DataW.weights, Tryz.underlying47] at hs;exact Zb2 (j := 3) hs rfl rfl
 obtain ⟨l, hb, hl⟩ := Zf5 h3 hw3;obtain ⟨a, c, rfl⟩ := (Zdn hb).form;exact ⟨⟨a0, a1, a2, l⟩, a, c, rfl, Zdn hb, hl⟩
end
variable {cs : List Value} {fuel : Nat} {v : Value}
section
variable {H : Type} {enc : TypeId × Value → H} {W : World}
theorem Zfd {P : Program} {e : TypeId} : ∀ {l : List (DataW H)} {d : DataW H}, d ∈ l → ∀ n ∈ d.weights P e, n ∈ DataW.weightsAll P e l
 | c :: r, d, h, n, hn => by
  rw [DataW.weightsAll, List.mem_append];rcases List.mem_cons.1 h with rfl | h
  ·exact .inl hn
  ·exact .inr (Zfd h n hn)
theorem Zm7 {α : Type} (i0 : Inhabited α) (sh : Qr α) (Q : α → Prop) {t : TypeId} {fuel : Nat} {v : Value} {x : DataW H × List MemPlace} (ht : Tryz.prog.underlying t = some (.slice sh.T)) (hc : Tryz.prog.cellsOf sh.T = sh.size) (hz : 0 < sh.size) {by_ : Nat} (hby : Tryz.prog.bytesOf sh.T = by_)
  (hopen : ∀ (fuel : Nat) (cs : List Value) (y : DataW H × List MemPlace), DataW.trod enc Tryz.prog W 0 (fun _ => true) true fuel sh.T cs = some y → (y.1.weights Tryz.prog sh.T).all (· ≤ reachBytes) = true → ∃ z : α, sh.enc (fun b => b < W.heap.size) W z cs ∧ Q z)
  (h : DataW.trod enc Tryz.prog W 0 (fun _ => true) true fuel t [v] = some x) (hs : (x.1.weights Tryz.prog t).all (· ≤ reachBytes) = true) :
  ∃ xs, Z7 sh (fun b => b < W.heap.size) W v xs ∧ xs.length * by_ ≤ 140737488351232 ∧ ∀ z ∈ xs, Q z := by
 rcases open_slice ht h with ⟨hcs, _⟩ | ⟨a, len, cap, m, n, D, Pl, hcs, _, hl, hm, hmm, hx, hV⟩
 ·simp only [List.cons.injEq, and_true] at hcs;subst hcs;exact ⟨[], .inl ⟨none, 0, rfl, rfl, fun _ => rfl⟩, by simp, by simp⟩
 ·simp only [List.cons.injEq, and_true] at hcs;subst hcs;have hmc : m = cap := by simpa using hmm
  subst hmc;subst hx;have hex : ∀ i, i < len → ∃ z : α, ∃ cs, (sh.enc (fun b => b < W.heap.size) W z cs ∧ Q z) ∧ ∀ (j : Nat) (u : Value), cs[j]? = some u → W.cell? (a.add (i * sh.size + j)) = some u := by
   intro i hi;obtain ⟨cs, h1, h2⟩ := hV i (by omega);rw [hc] at h1;obtain ⟨_, hlen, hcell⟩ := World.cells?_some h1;have hwt : ((D i).weights Tryz.prog sh.T).all (· ≤ reachBytes) = true := by
    rw [List.all_eq_true] at hs ⊢;intro k hk;refine hs k ?_;have := Zfd (P := Tryz.prog) (e := sh.T) (l := (List.range len).map D) (List.mem_map.2 ⟨i, List.mem_range.2 hi, rfl⟩) k hk;simp only [DataW.weights, ht];exact List.mem_cons_of_mem _ (List.mem_append_left _ this)
   obtain ⟨z, hz⟩ := hopen _ _ _ h2 hwt;refine ⟨z, cs, hz, fun j u hj => ?_⟩;have hjl := (List.getElem?_eq_some_iff.1 hj).1;have := hcell j (by omega);rw [add_add] at this;rw [this]; exact hj
  obtain ⟨f, hf⟩ := choose_lt hex;have hw : len * by_ ≤ reachBytes := by
   have h3 := (List.all_eq_true.1 hs) ((((List.range len).map D).length + ((List.range (m - len)).map fun j => D (len + j)).length) * Tryz.prog.bytesOf sh.T) (by simp [DataW.weights, ht]);rw [hby] at h3;simp only [List.length_map, List.length_range, decide_eq_true_eq] at h3;exact Nat.le_trans (Nat.mul_le_mul_right _ (by omega)) h3
  refine ⟨(List.range len).map f, ?_, by simp [reachBytes] at hw ⊢; omega, fun z hz => by
   obtain ⟨i, hi, rfl⟩ := List.mem_map.1 hz;obtain ⟨_, k1, _⟩ := hf i (List.mem_range.1 hi);exact k1.2⟩
  by_cases h0 : len = 0
  ·subst h0;exact .inl ⟨some a, m, rfl, by simp, fun h => by cases h⟩
  ·obtain ⟨cs0, e1, e2⟩ := hf 0 (by omega);have hl0 := sh.len e1.1;have e3 := e2 0 cs0[0] (List.getElem?_eq_getElem (by omega));rw [Nat.zero_mul, Nat.zero_add] at e3;obtain ⟨b, off, rfl⟩ := Zm3 e3;refine .inr ⟨b, off, m, ?_, by simp, by simpa using hl, fun i hi => ?_⟩
   ·rw [Zhy] at e3;exact Zv e3
   ·obtain ⟨cs, k1, k2⟩ := hf i (by simpa using hi);refine ⟨cs, by simpa using k1.1, fun j u hj => ?_⟩;have := k2 j u hj;rw [Zhy] at this;rw [Nat.add_assoc]; exact this
theorem Znv {x : DataW H × List MemPlace} (h : DataW.trod enc Tryz.prog W 0 (fun _ => true) true fuel 47 cs = some x) (hs : (x.1.weights Tryz.prog 47).all (· ≤ reachBytes) = true) :
  ∃ (e : Dd) (u : Value), cs = [.int .i64 e.kind, .int .i64 e.key, .int .i64 e.num, u] ∧ Bytes W u e.data ∧ e.data.length ≤ 140737488351232 := by
 obtain ⟨y0, y1, y2, y3, m, hx, hl, h0, h1, h2, h3⟩ := Go.Joins.trod_struct4 Tryz.underlying47 h;have hc4 : Tryz.prog.cellsOf 47 = 4 := by kernel_rfl
 have t0 : Tryz.prog.cellsOf 3 = 1 := by kernel_rfl
 have t1 : Tryz.prog.cellsOf 45 = 1 := by kernel_rfl
 rw [hc4] at hl;subst hx;have hw3 : (y3.1.weights Tryz.prog 45).all (· ≤ reachBytes) = true := by
  simp only [DataW.weights, Tryz.underlying47] at hs;exact Zb2 (j := 3) hs rfl rfl
 match cs, hl with
 | [c0, c1, c2, c3], _ =>
  simp only [t0, t1, List.drop_zero, List.drop_succ_cons, List.take_succ_cons, List.take_zero] at h0 h1 h2 h3;obtain ⟨a0, e0, f0, -⟩ := DataW.trod_int Tryz.underlying3 h0;obtain ⟨a1, e1, f1, -⟩ := DataW.trod_int Tryz.underlying3 h1;obtain ⟨a2, e2, f2, -⟩ := DataW.trod_int Tryz.underlying3 h2;simp only [List.cons.injEq, and_true] at e0 e1 e2;subst e0; subst e1; subst e2;obtain ⟨l, hb, hlb⟩ := Zf5 h3 hw3;exact ⟨⟨a0, a1, a2, l⟩, c3, rfl, hb, hlb⟩
theorem Zl7 {x : DataW H × List MemPlace} (h : DataW.trod enc Tryz.prog W 0 (fun _ => true) true fuel 49 cs = some x) (hs : (x.1.weights Tryz.prog 49).all (· ≤ reachBytes) = true) :
  ∃ (e : Sp) (u : Value), cs = [.int .i64 e.kind, .int .i64 e.n, .int .i64 e.m, .int .i64 e.deed.kind, .int .i64 e.deed.key, .int .i64 e.deed.num, u] ∧ Bytes W u e.deed.data ∧ e.deed.data.length ≤ 140737488351232 := by
 obtain ⟨y0, y1, y2, y3, m, hx, hl, h0, h1, h2, h3⟩ := Go.Joins.trod_struct4 Tryz.underlying49 h;have hc7 : Tryz.prog.cellsOf 49 = 7 := by kernel_rfl
 have hc4 : Tryz.prog.cellsOf 47 = 4 := by kernel_rfl
 have t0 : Tryz.prog.cellsOf 3 = 1 := by kernel_rfl
 rw [hc7] at hl;subst hx;have hw3 : (y3.1.weights Tryz.prog 47).all (· ≤ reachBytes) = true := by
  simp only [DataW.weights, Tryz.underlying49] at hs;exact Zb2 (j := 3) hs rfl rfl
 match cs, hl with
 | [c0, c1, c2, c3, c4, c5, c6], _ =>
  simp only [t0, hc4, List.drop_zero, List.drop_succ_cons, List.take_succ_cons, List.take_zero] at h0 h1 h2 h3;obtain ⟨a0, e0, f0, -⟩ := DataW.trod_int Tryz.underlying3 h0;obtain ⟨a1, e1, f1, -⟩ := DataW.trod_int Tryz.underlying3 h1;obtain ⟨a2, e2, f2, -⟩ := DataW.trod_int Tryz.underlying3 h2;simp only [List.cons.injEq, and_true] at e0 e1 e2;subst e0; subst e1; subst e2;obtain ⟨d, u, e3, hb, hlb⟩ := Znv h3 hw3;simp only [List.cons.injEq, and_true] at e3;obtain ⟨rfl, rfl, rfl, rfl⟩ := e3;exact ⟨⟨a0, a1, a2, d⟩, c6, rfl, hb, hlb⟩
theorem Zf4 {x : DataW H × List MemPlace} (h : DataW.trod enc Tryz.prog W 0 (fun _ => true) true fuel 22 [v] = some x) (hs : (x.1.weights Tryz.prog 22).all (· ≤ reachBytes) = true) : ∃ l, Zbf (fun b => b < W.heap.size) W v l ∧ l.length ≤ 140737488351232 ∧ ∀ z ∈ l, z.deed.data.length ≤ 140737488351232 := by
 obtain ⟨l, h1, h2, h3⟩ := Zm7 ⟨⟨0, 0, 0, ⟨0, 0, 0, []⟩⟩⟩ Zoq (fun z => z.deed.data.length ≤ 140737488351232) Tryz.underlying22 (by kernel_rfl) (by decide) (by_ := 72) (by kernel_rfl) (fun _ cs _ h hw => by
  obtain ⟨e, u, rfl, hb, hl⟩ := Zl7 h hw;exact ⟨e, ⟨u, rfl, Zdn hb⟩, hl⟩) h hs
 exact ⟨l, h1, by omega, h3⟩
end
section
variable {H : Type} {enc : TypeId × Value → H} {W : World}
end
end Go.Proofs.YtpdnapbchcdhlacGreat
