import Derived.Test.YtljogbielflgdacInv
import Derived.Deep.DeepCutAuto
set_option maxHeartbeats 8000000
namespace Go.Proofs.Ytljogbielflgdac
set_option maxRecDepth 100000
open Go.RowKit
open Plain Reg
def Zbw : Prop := ∀ (d : Dk) (v : Value) (w : World), Xn d v w → d.Fine 40 →
 Calls Try.prog 18 #[v] w fun r w' => ∃ v', r = .returned v' ∧ Zy Yp (fun _ => True) w' v' (Z0 d 6) ∧ Zt w w'
def Zac : Prop := ∀ (d : Dk) (v : Value) (w : World), Xn d v w → d.Fine 40 →
 Calls Try.prog 14 #[v] w fun r w' => ∃ v' vt, r = .returned (.tuple #[v', .agg (Xs (cnt (d.keep 0) 6)), vt]) ∧ Xn d.clean v' w' ∧ Zy Yp (fun _ => True) w' vt (Z0 (d.keep 0) 6) ∧ Zt w w'
def Zbx : Prop := ∀ (d : Dk) (v : Value) (w : World), Xn d v w → d.Fine 40 →
 Calls Try.prog 19 #[v] w fun r w' => r = .returned (.bool (d.clean.blocks == d.blocks)) ∧ Zt w w'
def Zgs : Prop := ∀ (S : Nat → Prop) (l : List Ent) (d : Dk) (u v : Value) (w : World), Qm S w u l → Xn d v w → d.Fine 40 → l.length ≤ 140737488355328 →
 Calls Try.prog 21 #[u, v] w fun r w' => r = .returned (.bool (Vd l (Yz d 6))) ∧ Zt w w'
def Zew : Prop := ∀ w : World, Calls Try.prog 22 #[] w fun r w' => r = .returned (.bool true) ∧ Zt w w'
theorem Zjy {d : Dk} (h : d.Fine 0) : d.right = true := by
 have hl := Vk h;unfold Dk.right;rw [hl, h.len];simp only [List.length_nil, List.all_nil, Bool.and_true, Bool.and_eq_true, beq_self_eq_true, decide_eq_true_eq, List.all_eq_true, beq_iff_eq, true_and];exact ⟨by omega, fun x hx => h.block x hx⟩
theorem Vo {n : Nat} {d : Dk} (h : d.Fine n) : d.clean.Fine 0 := (Ja h).fine
theorem Zfn {n : Nat} {d : Dk} (h : d.Fine n) : (d.clean.clean.blocks == d.clean.blocks) = true := Zau (Zh9 h)
theorem Zj4 {n : Nat} {d : Dk} (h : d.Fine n) : (Z0 d.clean 6).length ≤ 0 := by rw [Zbg h 6 (Nat.le_refl _)]; exact Nat.le_refl _
def Qi (d : Dk) : Nat → Int → Bool
 | 0, _ => false
 | q + 1, x => Qi d q x || decide ((d.tell (q : Int)).kind ≠ 1 ∧ (d.tell (q : Int)).ver = x)
theorem Zaq (d : Dk) (p : Nat) : ∀ q, Qi d q (d.tell (p : Int)).ver = Yo d p q
 | 0 => rfl
 | q + 1 => by
  show (Qi d q _ || _) = (Yo d p q || _);rw [Zaq d p q]
theorem Zh2 (d : Dk) (p : Nat) (h : (d.tell (p : Int)).kind = 1) (x : Int) : Qi d p x = Qi d (p + 1) x := by
 show _ = (Qi d p x || _);rw [decide_eq_false (fun h2 => h2.1 h), Bool.or_false]
theorem Zpa (d : Dk) (p : Nat) (h : Yo d p p = true) (x : Int) : Qi d p x = Qi d (p + 1) x := by
 show _ = (Qi d p x || _);by_cases e : (d.tell (p : Int)).kind ≠ 1 ∧ (d.tell (p : Int)).ver = x
 ·rw [decide_eq_true e, Bool.or_true, ← e.2, Zaq d p p, h]
 ·rw [decide_eq_false e, Bool.or_false]
theorem Zky (d : Dk) (p : Nat) (h : (d.tell (p : Int)).kind ≠ 1) (x : Int) : (decide (x = (d.tell (p : Int)).ver) || Qi d p x) = Qi d (p + 1) x := by
 show _ = (Qi d p x || _);rw [Bool.or_comm]
 congr 1
 by_cases e : x = (d.tell (p : Int)).ver
 ·rw [decide_eq_true e, decide_eq_true ⟨h, e.symm⟩]
 ·rw [decide_eq_false e, decide_eq_false (fun h2 => e h2.2.symm)]
def Va (d : Dk) : Nat → Nat
 | 0 => 0
 | p + 1 => Va d p + (if (d.tell (p : Int)).kind ≠ 1 ∧ Yo d p p = false then 1 else 0)
theorem Zfk (d : Dk) : ∀ p, Va d p ≤ p
 | 0 => Nat.le_refl _
 | p + 1 => by
  have := Zfk d p;unfold Va;split <;> omega
theorem Zj7 {n : Nat} {d : Dk} (h : d.Fine n) {p : Nat} (hp : p < 6) : (d.clean.tell (p : Int)).kind = 1 ↔ ¬ (((d.keep 0).tell (p : Int)).kind ≠ 1 ∧ Yo (d.keep 0) p p = false) := by
 rw [Jn h hp];unfold Ko;by_cases hc : (Z0 (d.keep 0) 6).contains (p : Int) = true
 ·rw [if_pos hc];have hm := (V3 _ _ 6).1 (List.contains_iff_mem.1 hc);exact ⟨(fun _ h2 => absurd h2.2 (by rw [hm.2.2]; decide)), fun _ => rfl⟩
 ·rw [if_neg hc];constructor
  ·exact fun h1 h2 => h2.1 h1
  ·intro h1;by_cases hk : ((d.keep 0).tell (p : Int)).kind = 1
   ·exact hk
   ·refine absurd ⟨hk, ?_⟩ h1;cases ha : Yo (d.keep 0) p p with
    | false => rfl
    | true => exact absurd (List.contains_iff_mem.2 ((V3 _ _ 6).2 ⟨hp, hk, ha⟩)) hc
theorem Zfm {n : Nat} {d : Dk} (h : d.Fine n) : ∀ m, m ≤ 6 → (Yz d.clean m).length = Va (d.keep 0) m
 | 0, _ => rfl
 | m + 1, hm => by
  have ih := Zfm h m (by omega);have hf := Zj7 h (p := m) (by omega);unfold Yz Va;by_cases hc : ((d.keep 0).tell (m : Int)).kind ≠ 1 ∧ Yo (d.keep 0) m m = false
  ·rw [if_pos hc, if_neg (fun h1 => hf.1 h1 hc), Za3, ih]
  ·rw [if_neg hc, if_pos (hf.2 hc), ih]; rfl
def inK (p : Int) (r : Rec) (x : Ent) : Bool := decide (x.pair = p) && Xt x.rc r
theorem Znw (p : Int) (r : Rec) (l : List Ent) (j : Nat) (h : j < l.length) : (l.take (j + 1)).any (inK p r) = ((l.take j).any (inK p r) || inK p r l[j]) := by
 rw [List.take_succ_eq_append_getElem h, List.any_append]; simp
theorem Zny {n : Nat} {d : Dk} (h : d.Fine n) {p : Nat} (hp : p < 6) (hk : ((d.keep 0).tell (p : Int)).kind ≠ 1) (ha : Yo (d.keep 0) p p = false) : (Yz d.clean 6).any (inK (p : Int) ((d.keep 0).tell (p : Int))) = true := by
 rw [List.any_eq_true];refine ⟨_, (Zj5 h _).2 ⟨p, hp, hk, ha, rfl⟩, ?_⟩;have hs : Xt ((d.keep 0).tell (p : Int)) ((d.keep 0).tell (p : Int)) = true := (Vh _ _).2 rfl;simp [inK, hs]
theorem Zgw (d : Dk) (p : Int) : 0 ≤ (d.tell p).ver ∧ (d.tell p).ver ≤ 1000000 := by
 have h := ((Za5 _).1 (Qv d p)).2.2.1;revert h;unfold Xg;generalize d.tell p = r;intro h;by_cases hk : r.kind = 1
 ·simp [hk] at h; omega
 ·simp [hk] at h; omega
theorem Zge (AL : Zew) (TC : Zbw) (CC : Zac) (SC : Zbx) (d : Dk) (vb vl : Value) (w : World) (hb : Yv w vb d.blocks) (hl : Qc w vl d.late) :
  Calls Try.prog 5 #[.agg #[vb, vl]] w fun e w' => e = .returned (.bool true) ∧ Zt w w' := by
 obtain ⟨ab, cb, rfl⟩ := hb.form;obtain ⟨al, cl, rfl⟩ := hl.form;have hd0 : Xn d (.agg #[.slice ab d.blocks.length cb, .slice al d.late.length cl]) w := ⟨_, _, rfl, hb, hl⟩;have gw := Zd w (.cells #[.slice ab d.blocks.length cb, .slice al d.late.length cl] 27);have hD := Zq w #[.slice ab d.blocks.length cb, .slice al d.late.length cl] 27;have hd := Z4 _ _ _ _ gw hd0;clear hb hl hd0;go_enter Try.func5, Try.ntmps5;go_wp2_with fail;refine (AL _).mono ?_;rintro r w1 ⟨rfl, gN⟩;replace hD := (gN.block _ (Za hD)).trans hD;replace gw := gw.trans gN;replace hd := Z4 _ _ _ _ gN hd;clear gN;obtain ⟨x0, x1⟩ := Yl hD rfl rfl;go_wp2_with fail;refine (Zbn d _ _ hd).mono ?_;cases hrd : d.right with
 | false =>
  rintro r w2 ⟨rfl, g2⟩;have gE := gw.trans g2;go_wp2_with fail;go_ret;exact ⟨rfl, gE⟩
 | true =>
  have HF : Hid (d.Fine 40) := Dk.right_fine hrd;clear hrd;rintro r w2 ⟨rfl, gN⟩;replace hD := (gN.block _ (Za hD)).trans hD;replace gw := gw.trans gN;replace hd := Z4 _ _ _ _ gN hd;clear gN x0 x1;obtain ⟨x0, x1⟩ := Yl hD rfl rfl;go_wp2_with fail;refine (CC d _ _ hd HF.out).mono ?_;obtain ⟨X, hXe⟩ : ∃ X, X = d.clean := ⟨_, rfl⟩;obtain ⟨f, hfe⟩ : ∃ f, f = cnt (d.keep 0) 6 := ⟨_, rfl⟩;obtain ⟨tw, htw⟩ : ∃ tw, tw = Z0 (d.keep 0) 6 := ⟨_, rfl⟩;rw [← hXe, ← hfe, ← htw];have HX : Hid _ := hXe;have Hf : Hid _ := hfe;have HT : Hid _ := htw;have htl : tw.length ≤ 6 := by rw [htw]; exact X8 _ _
  clear hXe hfe htw;rintro r w3 ⟨v3, vt, rfl, hX, hT, gN⟩;obtain ⟨bx, kx, lx, mx, hv3, -, -⟩ := hX.form;subst hv3;obtain ⟨at3, ct3, rfl⟩ := Zy.form hT;have g4 := Zv w3 (.cells #[.slice bx X.blocks.length kx, .slice lx X.late.length mx] 27) (.cells (Xs f) 37);have hP := ((Zd (w3.alloc (.cells #[.slice bx X.blocks.length kx, .slice lx X.late.length mx] 27)) (.cells (Xs f) 37)).block _ (Za (Zq w3 #[.slice bx X.blocks.length kx, .slice lx X.late.length mx] 27))).trans (Zq w3 #[.slice bx X.blocks.length kx, .slice lx X.late.length mx] 27);have hQ := Zq (w3.alloc (.cells #[.slice bx X.blocks.length kx, .slice lx X.late.length mx] 27)) (Xs f) 37;rw [World.size_alloc] at hQ;replace hX := Z4 _ _ _ _ g4 hX;replace hT := Zy.grow hT g4;replace gN := gN.trans g4;replace hD := (gN.block _ (Za hD)).trans hD;replace gw := gw.trans gN;replace hd := Z4 _ _ _ _ gN hd;clear gN g4 x0 x1;have HFX : Hid (X.Fine 0) := by rw [HX.out]; exact Vo HF.out
  have HRX : Hid (X.right = true) := Zjy HFX.out;have HSX : Hid ((X.clean.blocks == X.blocks) = true) := by rw [HX.out]; exact Zfn HF.out
  have HTX : Hid ((Z0 X 6).length ≤ 0) := by rw [HX.out]; exact Zj4 HF.out
  have HLX : Hid (∀ q : Nat, q < 6 → X.how (q : Int) < 2) := fun q hq => by rw [HX.out]; exact (Ja HF.out).low q hq hq
  have hxl : X.late.length = 0 := by have := HFX.out.few; omega
  clear HX Hf HT HF hT hQ hD hd htl;generalize X.late.length = xn at *;subst hxl;go_upto_region 6 with fail
  obtain ⟨G, hG⟩ : ∃ G, G = w3.heap.size := ⟨_, rfl⟩;rw [← hG] at hP ⊢;clear hG;generalize World.alloc (World.alloc w3 _) _ = W4 at *;obtain ⟨x0, x1⟩ := Yl hP rfl rfl;go_wp2_with fail;refine (Zbn X _ _ hX).mono ?_;rw [HRX.out];rintro r w5 ⟨rfl, gN⟩;replace hP := (gN.block _ (Za hP)).trans hP;replace gw := gw.trans gN;replace hX := Z4 _ _ _ _ gN hX;clear gN x0 x1;obtain ⟨x0, x1⟩ := Yl hP rfl rfl;go_wp2_with fail;refine (SC X _ _ hX (HFX.out.mono (by omega))).mono ?_;rw [HSX.out];rintro r w6 ⟨rfl, gN⟩;replace hP := (gN.block _ (Za hP)).trans hP;replace gw := gw.trans gN;replace hX := Z4 _ _ _ _ gN hX;clear gN x0 x1;obtain ⟨x0, x1⟩ := Yl hP rfl rfl;go_wp2_with fail;refine (TC X _ _ hX (HFX.out.mono (by omega))).mono ?_;rintro r w7 ⟨v7, rfl, hT7, gN⟩;obtain ⟨at7, ct7, rfl⟩ := Zy.form hT7;replace hP := (gN.block _ (Za hP)).trans hP;replace gw := gw.trans gN;replace hX := Z4 _ _ _ _ gN hX;clear gN x0 x1 hT7;have htx := HTX.out;generalize (Z0 X 6).length = tn at *;obtain rfl : tn = 0 := by omega
  clear HTX HRX HSX htx;go_wp2_with fail;have hsm := HFX.out.small (by omega);go_loopw [40] (fun i wr => ∃ k : Nat, k ≤ 6 ∧ i = .int .i64 (k : Int) ∧ Zt w7 wr) (fun i _ => 6 - (intOf i).toNat)
  case atStart => exact ⟨0, by omega, rfl, Zt.refl _⟩
  case round =>
   obtain ⟨k, hk, rfl, gk⟩ := hrel;by_cases hlt : k < 6
   ·have hPk := (gk.block _ (Za hP)).trans hP;obtain ⟨x0, x1⟩ := Yl hPk rfl rfl;have hlow := HLX.out k hlt;have hhb := Zju X (k : Int);go_wp2_with fail;refine (Zal X (k : Int) _ _ (Z4 _ _ _ _ gk hX) hsm.1 hsm.2).mono ?_;rintro r w8 ⟨dv, rfl, ho, g8⟩;obtain ⟨a8, c8, rfl⟩ := Z6 ho;generalize X.tell (k : Int) = r at *;generalize X.how (k : Int) = H at *;have gk9 := gk.trans (g8.trans (Zd w8 (.cells #[.int .i64 r.kind, .int .i64 r.key, .int .i64 r.ver, .slice a8 r.data.length c8] 54)));have hH : H = 0 ∨ H = 1 := by omega
    clear hlow hhb x0 x1 hPk gk g8 ho;rcases hH with rfl | rfl
    ·go_wp2_with fail;go_roundw
     case rel => exact ⟨k + 1, by omega, by go_num, gk9⟩
     case measure => simp [intOf]; omega
    ·go_wp2_with fail;go_roundw
     case rel => exact ⟨k + 1, by omega, by go_num, gk9⟩
     case measure => simp [intOf]; omega
   ·have gE := gw.trans gk;go_wp2_with fail;go_ret;exact ⟨rfl, gE⟩
end Go.Proofs.Ytljogbielflgdac
