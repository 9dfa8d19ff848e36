import Derived.Test.YtpdnapbchcdhlabMdlC
import Derived.Lib.SlBytesConst
set_option maxHeartbeats 8000000
namespace Go.Proofs.Ytpdnapbchcdhlab
set_option maxRecDepth 100000
open Go.RowKit
open Plain Reg
def dA : Dd := ⟨1, 7, 0, [97, 98]⟩
def dB : Dd := ⟨2, 7, 0, []⟩
def rA : Rec := ⟨2, 7, 1, [97, 98]⟩
def rB : Rec := ⟨3, 7, 2, []⟩
theorem Zch : doR [] dA = ⟨[rA], 1, 0⟩ := rfl
theorem Zcg : doR [rA] dB = ⟨[rA, rB], 2, 0⟩ := rfl
theorem Zcb : Xm [rA] 7 = ⟨1, 0, [97, 98]⟩ := rfl
theorem Zca : Xm [rA, rB] 7 = ⟨2, 10, []⟩ := rfl
theorem Zb5 : Yc [rA, rB] = 3 := rfl
theorem Jy : Z6 [rA] = true := by decide
theorem Q5 : Z6 [rA, rB] = true := by decide
theorem Kf : Zq dA = 0 := by decide
theorem Zbo : Zq dB = 0 := by decide
theorem Zbr : Y3 [rA, rB] [rA, rB] = true := by decide
theorem V8 (MW : Qs) (MN : Vo) (MM : Vp) (MD : Zbk) (MG : K7) (MS : Vn) (w : World) :
  Calls Try.prog 31 #[] w fun r w' => r = .returned (.bool true) ∧ Zi w w' := by
 have g0 := Zt w (.cells #[.int .u8 97, .int .u8 98] 5 (2, 3)) (.cells #[.int .i64 1, .int .i64 7, .int .i64 0, .slice (some ⟨w.heap.size, 0, none⟩) 2 2] 47);have hb0 : (w.alloc (.cells #[.int .u8 97, .int .u8 98] 5 (2, 3))).heap[w.heap.size]? = some (.cells #[.int .u8 97, .int .u8 98] 5 (2, 3)) := by
  show (w.heap.push _)[w.heap.size]? = _;simp
 have kc := fun (w : World) (C : Array Value) (n c : Nat) => Lib.run_convert_bytes_const (P := Try.prog) w 31 5 C n c Try.underlying31 Try.underlying5
 have hD0 := Zs (w.alloc (.cells #[.int .u8 97, .int .u8 98] 5 (2, 3))) #[.int .i64 1, .int .i64 7, .int .i64 0, .slice (some ⟨w.heap.size, 0, none⟩) 2 2] 47;have hb1 := ((Ze (w.alloc (.cells #[.int .u8 97, .int .u8 98] 5 (2, 3))) (.cells #[.int .i64 1, .int .i64 7, .int .i64 0, .slice (some ⟨w.heap.size, 0, none⟩) 2 2] 47)).block _ (Zf hb0)).trans hb0;rw [World.size_alloc] at hD0;clear hb0;go_enter Try.func31, Try.ntmps31;go_wp2_with fail;clear kc;generalize World.alloc (World.alloc w _) _ = W at *;have hd : Zu (fun b => b < W.heap.size) W (.slice (some ⟨w.heap.size, 0, none⟩) 2 2) [97, 98] := by
  refine .inr ⟨w.heap.size, 0, 2, Zf hb1, rfl, Nat.le_refl _, fun i hi => ?_⟩;have hi2 : i < 2 := hi
  match i, hi2 with
  | 0, _ => exact Zp hb1 0 _ rfl
  | 1, _ => exact Zp hb1 1 _ rfl
 refine (MD (fun b => b < W.heap.size) [] dA _ (some ⟨w.heap.size, 0, none⟩) 2 W (fun b h => h) rfl Kf (Zn.nil _ _ _) hd).mono ?_;rw [Zch];rintro e w1 ⟨vl, he, hl, g1⟩;replace hl : Zv _ w1 vl [rA] := hl;obtain ⟨al, cl, rfl⟩ : ∃ a c, vl = .slice a 1 c := hl.form;obtain rfl : e = .returned (.tuple #[.slice al 1 cl, .int .i64 1, .int .i64 0]) := he;have gW := g0.trans g1;have hD := (g1.block _ (Zf hD0)).trans hD0;have hd1 := hd.grow g1;clear g0 g1 hD0 hd hb1;replace hl := Zn.every hl (by decide);go_wp2_with fail;refine (MD _ [rA] dB _ none 0 w1 (fun b h => h) Jy Zbo hl (.inl ⟨none, 0, rfl, rfl, fun _ => rfl⟩)).mono ?_;rw [Zcg];rintro e w2 ⟨vm, he, hm, g2⟩;replace hm : Zv _ w2 vm [rA, rB] := hm;obtain ⟨am, cm, rfl⟩ : ∃ a c, vm = .slice a 2 c := hm.form;obtain rfl : e = .returned (.tuple #[.slice am 2 cm, .int .i64 2, .int .i64 0]) := he;replace gW := gW.trans g2;replace hD := (g2.block _ (Zf hD)).trans hD;replace hd1 := hd1.grow g2;replace hl := Zn.every (Zn.grow hl g2) (by decide);replace hm := Zn.every hm (by decide);clear g2;go_wp2_with fail;refine (MG _ [rA] 7 _ w2 (fun b h => h) Jy hl).mono ?_;rw [Zcb];rintro e w3 ⟨ub, he, hub, g3⟩;obtain ⟨ab, cb, rfl⟩ : ∃ a c, ub = .slice a 2 c := hub.form;obtain rfl : e = .returned (.tuple #[.slice ab 2 cb, .int .i64 0]) := he;replace gW := gW.trans g3;replace hD := (g3.block _ (Zf hD)).trans hD;replace hd1 := hd1.grow g3;replace hl := Zn.every (Zn.grow hl g3) (by decide);replace hm := Zn.every (Zn.grow hm g3) (by decide)
 replace hub : Bytes w3 (.slice ab 2 cb) [97, 98] := hub.p;clear g3;go_wp2_with fail;refine (MG _ [rA, rB] 7 _ w3 (fun b h => h) Q5 hm).mono ?_;rw [Zca];rintro e w4 ⟨uc, he, huc, g4⟩;obtain ⟨ac, cc, rfl⟩ : ∃ a c, uc = .slice a 0 c := huc.form;obtain rfl : e = .returned (.tuple #[.slice ac 0 cc, .int .i64 10]) := he;replace gW := gW.trans g4;replace hD := (g4.block _ (Zf hD)).trans hD;replace hd1 := hd1.grow g4;replace hl := Zn.every (Zn.grow hl g4) (by decide);replace hm := Zn.every (Zn.grow hm g4) (by decide);replace hub := Zo hub g4;clear g4 huc;obtain ⟨b1, o1, a1, c1, hv1, p0, p1, p2, p3, hu⟩ := Yf hl 0 (by decide);cases hv1;go_wp2_with fail;obtain ⟨W4, rfl⟩ : ∃ W4 : World, W4 = w4 := ⟨_, rfl⟩
 refine Zw [ex (.int .i64 0), ex (.bool true), ex (.bool true), ex (.int .i64 0), ex (.bool true), ex (.bool true), ex (.bool true), ex (.int .i64 1), ex (.bool true), ex (.bool true), ex (.bool true), ex (.int .i64 2), ex (.bool true), ex (.bool true), ex (.bool true), ex (.int .i64 0), ex (.bool true), ex (.bool true), ex (.bool true), ex (.slice ab 2 cb), ex (.string ⟨#[97, 98]⟩), ex (.bool true), ex (.bool true), ex (.bool true), ex (.int .i64 10), ex (.bool true), ex (.bool true), ex (.bool true), ex (.slice am 2 cm), ex (.int .i64 3), ex (.bool true), ex (.bool true), ex (.bool true), ex (.agg #[.int .i64 1, .int .i64 7, .int .i64 0, .slice (some ⟨w.heap.size, 0, none⟩) 2 2]), ex (.int .i64 0), ex (.bool true), ex (.bool true), ex (.bool true), ex (.agg #[.int .i64 1, .int .i64 7, .int .i64 0, .slice (some ⟨w.heap.size, 0, none⟩) 2 2]), ((fun v w' => ∃ a' c', v = .agg #[.int .i64 2, .int .i64 7, .int .i64 1, .slice a' 2 c'] ∧ Bytes w' (.slice a' 2 c') [97, 98])), ex (.slice (some ⟨b1, o1, none⟩) 1 cl), ex (.pointer (some ⟨b1, o1, none⟩)), ex (.agg #[.int .i64 2, .int .i64 7, .int .i64 1, .slice a1 2 c1]), ex (.bool true), ex (.bool true), ex (.bool true), ex (.slice am 2 cm), ex (.slice am 2 cm), ex (.bool true), ex (.bool true), ex (.bool true)] (by kernel_rfl) (by kernel_rfl) ⟨Zd _, Zd _, Zd _, Zd _, Zd _, Zd _, Zd _, Zd _, Zd _, Zd _, Zd _, Zd _, Zd _, Zd _, Zd _, Zd _, Zd _, Zd _, Zd _, Zd _, Zd _, Zd _, Zd _, Zd _, Zd _, Zd _, Zd _, Zd _, Zd _, Zd _, Zd _, Zd _, Zd _, Zd _, Zd _, Zd _, Zd _, Zd _, Zd _, (fun v w w' hg h => by obtain ⟨a', c', h1, h2⟩ := h; exact ⟨a', c', h1, Zo h2 hg⟩), Zd _, Zd _, Zd _, Zd _, Zd _, Zd _, Zd _, Zd _, Zd _, Zd _, Zd _, trivial⟩ ?_ ?_
 ·refine ⟨?_, ?_, ?_, ?_, ?_, ?_, ?_, ?_, ?_, ?_, ?_, ?_, ?_, ?_, ?_, ?_, ?_, ?_, ?_, ?_, ?_, ?_, ?_, ?_, ?_, ?_, ?_, ?_, ?_, ?_, ?_, ?_, ?_, ?_, ?_, ?_, ?_, ?_, ?_, ?_, ?_, ?_, ?_, ?_, ?_, ?_, ?_, ?_, ?_, ?_, ?_, trivial⟩
  ·exact Za rfl fun a _ _ _ _ A => Zj rfl (Zk A 4 rfl)
  ·refine Za rfl fun a _ _ _ B A => ?_;have e38 : a (.tmp 38) = _ := Zb A 0 rfl;refine Zg ?_ rfl;clear A B;go_simp;all_goals go_arith
  ·exact Za rfl fun a _ _ _ _ A => Zj rfl (Zb A 1 rfl)
  ·exact Zh 2 true rfl rfl rfl fun a _ _ _ _ A => Zj rfl (Zk A 7 rfl)
  ·refine Zh 2 true rfl rfl rfl fun a _ _ _ B A => ?_;have e41 : a (.tmp 41) = _ := Zb A 3 rfl;refine Zg ?_ rfl;clear A B;go_simp;all_goals go_arith
  ·refine Za rfl fun a _ _ _ _ A => ?_;have ec : a (.tmp 40) = _ := Zb A 2 rfl;have e : a (.tmp 42) = _ := Zb A 4 rfl;exact Z1 rfl ec e
  ·exact Za rfl fun a _ _ _ _ A => Zj rfl (Zb A 5 rfl)
  ·exact Zh 6 true rfl rfl rfl fun a _ _ _ _ A => Zj rfl (Zk A 3 rfl)
  ·refine Zh 6 true rfl rfl rfl fun a _ _ _ B A => ?_;have e45 : a (.tmp 45) = _ := Zb A 7 rfl;refine Zg ?_ rfl;clear A B;go_simp;all_goals go_arith
  ·refine Za rfl fun a _ _ _ _ A => ?_;have ec : a (.tmp 44) = _ := Zb A 6 rfl;have e : a (.tmp 46) = _ := Zb A 8 rfl;exact Z1 rfl ec e
  ·exact Za rfl fun a _ _ _ _ A => Zj rfl (Zb A 9 rfl)
  ·exact Zh 10 true rfl rfl rfl fun a _ _ _ _ A => Zj rfl (Zk A 6 rfl)
  ·refine Zh 10 true rfl rfl rfl fun a _ _ _ B A => ?_;have e49 : a (.tmp 49) = _ := Zb A 11 rfl;refine Zg ?_ rfl;clear A B;go_simp;all_goals go_arith
  ·refine Za rfl fun a _ _ _ _ A => ?_;have ec : a (.tmp 48) = _ := Zb A 10 rfl;have e : a (.tmp 50) = _ := Zb A 12 rfl;exact Z1 rfl ec e
  ·exact Za rfl fun a _ _ _ _ A => Zj rfl (Zb A 13 rfl)
  ·exact Zh 14 true rfl rfl rfl fun a _ _ _ _ A => Zj rfl (Zk A 9 rfl)
  ·refine Zh 14 true rfl rfl rfl fun a _ _ _ B A => ?_;have e53 : a (.tmp 53) = _ := Zb A 15 rfl;refine Zg ?_ rfl;clear A B;go_simp;all_goals go_arith
  ·refine Za rfl fun a _ _ _ _ A => ?_;have ec : a (.tmp 52) = _ := Zb A 14 rfl;have e : a (.tmp 54) = _ := Zb A 16 rfl;exact Z1 rfl ec e
  ·exact Za rfl fun a _ _ _ _ A => Zj rfl (Zb A 17 rfl)
  ·exact Zh 18 true rfl rfl rfl fun a _ _ _ _ A => Zj rfl (Zk A 8 rfl)
  ·refine Zh 18 true rfl rfl rfl fun a B _ _ C A => ?_;have e57 : a (.tmp 57) = _ := Zb A 19 rfl;have hrun := Xk B _ _ (Zo hub C);refine Zg ?_ rfl;clear A C;go_simp;all_goals go_arith
  ·refine Zh 18 true rfl rfl rfl fun a _ _ _ B A => ?_;have e58 : a (.tmp 58) = _ := Zb A 20 rfl;refine Zg ?_ rfl;clear A B;go_simp;all_goals go_arith
  ·refine Za rfl fun a _ _ _ _ A => ?_;have ec : a (.tmp 56) = _ := Zb A 18 rfl;have e : a (.tmp 59) = _ := Zb A 21 rfl;exact Z1 rfl ec e
  ·exact Za rfl fun a _ _ _ _ A => Zj rfl (Zb A 22 rfl)
  ·exact Zh 23 true rfl rfl rfl fun a _ _ _ _ A => Zj rfl (Zk A 11 rfl)
  ·refine Zh 23 true rfl rfl rfl fun a _ _ _ B A => ?_;have e62 : a (.tmp 62) = _ := Zb A 24 rfl;refine Zg ?_ rfl;clear A B;go_simp;all_goals go_arith
  ·refine Za rfl fun a _ _ _ _ A => ?_;have ec : a (.tmp 61) = _ := Zb A 23 rfl;have e : a (.tmp 63) = _ := Zb A 25 rfl;exact Z1 rfl ec e
  ·exact Za rfl fun a _ _ _ _ A => Zj rfl (Zb A 26 rfl)
  ·exact Zh 27 true rfl rfl rfl fun a _ _ _ _ A => Zj rfl (Zk A 5 rfl)
  ·refine Zh 27 true rfl rfl rfl fun a B _ _ C A => ?_;have e66 : a (.tmp 66) = _ := Zb A 28 rfl;refine Z2 (f := 23) (args := #[.slice am 2 cm]) ?_ ((MN _ [rA, rB] _ B Q5 (Zn.grow hm C)).mono ?_)
   ·clear A C;go_simp;all_goals go_arith
   ·rw [Zb5];rintro e w2 ⟨rfl, g2⟩;exact ⟨_, rfl, g2, rfl⟩
  ·refine Zh 27 true rfl rfl rfl fun a _ _ _ B A => ?_;have e67 : a (.tmp 67) = _ := Zb A 29 rfl;refine Zg ?_ rfl;clear A B;go_simp;all_goals go_arith
  ·refine Za rfl fun a _ _ _ _ A => ?_;have ec : a (.tmp 65) = _ := Zb A 27 rfl;have e : a (.tmp 68) = _ := Zb A 30 rfl;exact Z1 rfl ec e
  ·exact Za rfl fun a _ _ _ _ A => Zj rfl (Zb A 31 rfl)
  ·refine Zh 32 true rfl rfl rfl fun a _ _ _ B A => ?_;have e1 : a (.tmp 1) = .pointer (some ⟨w.heap.size + 1, 0, none⟩) := Zk A 1 rfl;have hx := (B.block _ (Zf hD)).trans hD;obtain ⟨z0, z1, z2, z3⟩ := Yt hx rfl rfl rfl rfl;refine Zg ?_ rfl;clear A B hx;go_simp;all_goals go_arith
  ·refine Zh 32 true rfl rfl rfl fun a B _ _ C A => ?_;have e71 : a (.tmp 71) = _ := Zb A 33 rfl;refine Z2 (f := 18) (args := #[.agg #[.int .i64 1, .int .i64 7, .int .i64 0, .slice (some ⟨w.heap.size, 0, none⟩) 2 2]]) ?_ ((MW dA _ 2 B (by decide) (hd1.grow C).p).mono ?_)
   ·clear A C;go_simp;all_goals go_arith
   ·rw [Kf];rintro e w2 ⟨rfl, g2⟩;exact ⟨_, rfl, g2, rfl⟩
  ·refine Zh 32 true rfl rfl rfl fun a _ _ _ B A => ?_;have e72 : a (.tmp 72) = _ := Zb A 34 rfl;refine Zg ?_ rfl;clear A B;go_simp;all_goals go_arith
  ·refine Za rfl fun a _ _ _ _ A => ?_;have ec : a (.tmp 70) = _ := Zb A 32 rfl;have e : a (.tmp 73) = _ := Zb A 35 rfl;exact Z1 rfl ec e
  ·exact Za rfl fun a _ _ _ _ A => Zj rfl (Zb A 36 rfl)
  ·refine Zh 37 true rfl rfl rfl fun a _ _ _ B A => ?_;have e1 : a (.tmp 1) = .pointer (some ⟨w.heap.size + 1, 0, none⟩) := Zk A 1 rfl;have hx := (B.block _ (Zf hD)).trans hD;obtain ⟨z0, z1, z2, z3⟩ := Yt hx rfl rfl rfl rfl;refine Zg ?_ rfl;clear A B hx;go_simp;all_goals go_arith
  ·refine Zh 37 true rfl rfl rfl fun a B _ _ C A => ?_;have e76 : a (.tmp 76) = _ := Zb A 38 rfl;refine Z2 (f := 29) (args := #[.agg #[.int .i64 1, .int .i64 7, .int .i64 0, .slice (some ⟨w.heap.size, 0, none⟩) 2 2], .int .i64 1]) ?_ ((MM (fun b => b < B.heap.size) dA 1 _ 2 B (fun b h => h) Kf (by decide) (by omega) (by omega) (Q7 (hd1.grow C).p)).mono ?_)
   ·clear A C;go_simp;all_goals go_arith
   ·rintro e w2 ⟨a', c', rfl, hb, g2⟩;exact ⟨_, rfl, g2, a', c', rfl, hb.p⟩
  ·exact Zh 37 true rfl rfl rfl fun a _ _ _ _ A => Zj rfl (Zk A 2 rfl)
  ·refine Zh 37 true rfl rfl rfl fun a _ _ _ B A => ?_;have e78 : a (.tmp 78) = _ := Zb A 40 rfl;refine Zg ?_ rfl;clear A B;go_simp;all_goals go_arith
  ·refine Zh 37 true rfl rfl rfl fun a B _ _ C A => ?_;have e79 : a (.tmp 79) = _ := Zb A 41 rfl;have h0 : B.cell? ⟨b1, o1, none⟩ = some (.int .i64 2) := (Below.cell C (Zr p0)).trans p0;have h1 : B.cell? ⟨b1, o1 + 1, none⟩ = some (.int .i64 7) := (Below.cell C (Zr p1)).trans p1;have h2 : B.cell? ⟨b1, o1 + 2, none⟩ = some (.int .i64 1) := (Below.cell C (Zr p2)).trans p2;have h3 : B.cell? ⟨b1, o1 + 3, none⟩ = some (.slice a1 2 c1) := (Below.cell C (Zr p3)).trans p3;refine Zg ?_ rfl;clear A C;go_simp;all_goals go_arith
  ·refine Zh 37 true rfl rfl rfl fun a B _ _ C A => ?_;have e77 : ((fun v B => ∃ a' c', v = .agg #[.int .i64 2, .int .i64 7, .int .i64 1, .slice a' 2 c'] ∧ Bytes B (.slice a' 2 c') [97, 98])) (a (.tmp 77)) B := Zb A 39 rfl;have e80 : a (.tmp 80) = _ := Zb A 42 rfl;obtain ⟨a', c', h77, hb⟩ := e77;refine Z2 (f := 13) (args := #[.agg #[.int .i64 2, .int .i64 7, .int .i64 1, .slice a' 2 c'], .agg #[.int .i64 2, .int .i64 7, .int .i64 1, .slice a1 2 c1]]) ?_ ((Xx _ _ _ _ _ _ [97, 98] [97, 98] _ _ B hb (hu.grow C).p).mono ?_)
   ·clear A C hb;go_simp;all_goals go_arith
   ·rintro e w2 ⟨rfl, g2⟩;exact ⟨_, rfl, g2, rfl⟩
  ·refine Za rfl fun a _ _ _ _ A => ?_;have ec : a (.tmp 75) = _ := Zb A 37 rfl;have e : a (.tmp 81) = _ := Zb A 43 rfl;exact Z1 rfl ec e
  ·exact Za rfl fun a _ _ _ _ A => Zj rfl (Zb A 44 rfl)
  ·exact Zh 45 true rfl rfl rfl fun a _ _ _ _ A => Zj rfl (Zk A 5 rfl)
  ·exact Zh 45 true rfl rfl rfl fun a _ _ _ _ A => Zj rfl (Zk A 5 rfl)
  ·refine Zh 45 true rfl rfl rfl fun a B _ _ C A => ?_;have e84 : a (.tmp 84) = _ := Zb A 46 rfl;have e85 : a (.tmp 85) = _ := Zb A 47 rfl;refine Z2 (f := 25) (args := #[.slice am 2 cm, .slice am 2 cm]) ?_ ((MS _ _ [rA, rB] [rA, rB] _ _ B Q5 Q5 (Zn.grow hm C) (Zn.grow hm C)).mono ?_)
   ·clear A C;go_simp;all_goals go_arith
   ·rw [Zbr];rintro e w2 ⟨rfl, g2⟩;exact ⟨_, rfl, g2, rfl⟩
  ·refine Za rfl fun a _ _ _ _ A => ?_;have ec : a (.tmp 83) = _ := Zb A 45 rfl;have e : a (.tmp 86) = _ := Zb A 48 rfl;exact Z1 rfl ec e
  ·exact Za rfl fun a _ _ _ _ A => Yx rfl (Zb A 49 rfl)
 ·intro vs w' hg ht;obtain ⟨(r38 : vs 0 = _), (r39 : vs 1 = _), (r40 : vs 2 = _), (r41 : vs 3 = _), (r42 : vs 4 = _), (r43 : vs 5 = _), (r44 : vs 6 = _), (r45 : vs 7 = _), (r46 : vs 8 = _), (r47 : vs 9 = _), (r48 : vs 10 = _), (r49 : vs 11 = _), (r50 : vs 12 = _), (r51 : vs 13 = _), (r52 : vs 14 = _), (r53 : vs 15 = _), (r54 : vs 16 = _), (r55 : vs 17 = _), (r56 : vs 18 = _), (r57 : vs 19 = _), (r58 : vs 20 = _), (r59 : vs 21 = _), (r60 : vs 22 = _), (r61 : vs 23 = _), (r62 : vs 24 = _), (r63 : vs 25 = _), (r64 : vs 26 = _), (r65 : vs 27 = _), (r66 : vs 28 = _), (r67 : vs 29 = _), (r68 : vs 30 = _), (r69 : vs 31 = _), (r70 : vs 32 = _), (r71 : vs 33 = _), (r72 : vs 34 = _), (r73 : vs 35 = _), (r74 : vs 36 = _), (r75 : vs 37 = _), (r76 : vs 38 = _), q77, (r78 : vs 40 = _), (r79 : vs 41 = _), (r80 : vs 42 = _), (r81 : vs 43 = _), (r82 : vs 44 = _), (r83 : vs 45 = _), (r84 : vs 46 = _), (r85 : vs 47 = _), (r86 : vs 48 = _), (r87 : vs 49 = _), (r0 : vs 50 = _), -⟩ := ht;simp only [Z4, Act.put, List.setIfInBounds_toArray, List.set_cons_zero, List.set_cons_succ, r38, r39, r40, r41, r42, r43, r44, r45, r46, r47, r48, r49, r50, r51, r52, r53, r54, r55, r56, r57, r58, r59, r60, r61, r62, r63, r64, r65, r66, r67, r68, r69, r70, r71, r72, r73, r74, r75, r76, r78, r79, r80, r81, r82, r83, r84, r85, r86, r87, r0]
  clear r38 r39 r40 r41 r42 r43 r44 r45 r46 r47 r48 r49 r50 r51 r52 r53 r54 r55 r56 r57 r58 r59 r60 r61 r62 r63 r64 r65 r66 r67 r68 r69 r70 r71 r72 r73 r74 r75 r76 r78 r79 r80 r81 r82 r83 r84 r85 r86 r87 r0;have gE := gW.trans hg;clear hg q77 hD hd1 hl hm hub hu gW;go_wp2_with fail;go_ret;exact ⟨rfl, gE⟩
end Go.Proofs.Ytpdnapbchcdhlab
