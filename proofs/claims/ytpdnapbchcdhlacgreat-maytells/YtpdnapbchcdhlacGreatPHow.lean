import Derived.Test.YtpdnapbchcdhlacGreatJPd
import Derived.Test.YtpdnapbchcdhlacGreatRLook
set_option maxHeartbeats 8000000
namespace Go.Proofs.YtpdnapbchcdhlacGreat
set_option maxRecDepth 100000
open Go.RowKit
open Plain Reg
variable {B : Nat} {r : Rec} {rs : List Rec} {us : List Value} {v : Value} {w w' : World}
def Ja : List Rec → List Value → List Value
 | r :: rs, u :: us => .int .i64 r.kind :: .int .i64 r.key :: .int .i64 r.ver :: u :: Ja rs us
 | _, _ => []
theorem Zi5 : ∀ (rs : List Rec) (us : List Value) (r : Rec) (u : Value), us.length = rs.length → Ja (rs ++ [r]) (us ++ [u]) = Ja rs us ++ [.int .i64 r.kind, .int .i64 r.key, .int .i64 r.ver, u]
 | [], [], r, u, _ => by simp [Ja]
 | [], _ :: _, r, u, h => by simp at h
 | _ :: _, [], r, u, h => by simp at h
 | x :: rs, y :: us, r, u, h => by simp [Ja, Zi5 rs us r u (by simpa using h)]
structure Vq (B : Nat) (v : Value) (rs : List Rec) (us : List Value) (w : World) : Prop where
 len : us.length = rs.length
 row : w.ownsRow B 61 4 v rs.length (Ja rs us)
 each : ∀ i (hi : i < rs.length), ∃ u, us[i]? = some u ∧ w.ownsRow B 5 1 u rs[i].data.length (rs[i].data.map bv)
theorem Vq.grow (h : Vq B v rs us w) (hg : Zn w w') : Vq B v rs us w' :=
 ⟨h.len, Yd h.row hg, fun i hi => (h.each i hi).imp fun _ hu => ⟨hu.1, Yd hu.2 hg⟩⟩
theorem Vq.other {q : Nat} (h : Vq B v rs us w) (hg : Zp q w w') (hq : q < B) : Vq B v rs us w' := by
 have key : ∀ {e : TypeId} {sz n : Nat} {v : Value} {xs : List Value}, w.ownsRow B e sz v n xs → w'.ownsRow B e sz v n xs := fun h => by
  refine ⟨h.1, Xo h.2 (fun x => x) fun ⟨g, cap, cur, h1, h2, h3, r⟩ => ⟨g, cap, cur, h1, h2, ?_, r⟩⟩;rw [hg.block _ (Za h3) (by omega)]; exact h3
 exact ⟨h.len, key h.row, fun i hi => (h.each i hi).imp fun _ hu => ⟨hu.1, key hu.2⟩⟩
theorem Vq.nil (B : Nat) (w : World) : Vq B (.slice none 0 0) [] [] w := ⟨rfl, World.ownsRow_nil _ _ _ _, fun i hi => by simp at hi⟩
theorem Vq.form (h : Vq B v rs us w) : ∃ ao cap, v = .slice ao rs.length cap := Y5 h.row
theorem Vq.snoc {u : Value} (hl : us.length = rs.length) (hr : w.ownsRow B 61 4 v (rs.length + 1) (Ja rs us ++ [.int .i64 r.kind, .int .i64 r.key, .int .i64 r.ver, u]))
  (he : ∀ i (hi : i < rs.length), ∃ u, us[i]? = some u ∧ w.ownsRow B 5 1 u rs[i].data.length (rs[i].data.map bv)) (hu : w.ownsRow B 5 1 u r.data.length (r.data.map bv)) : Vq B v (rs ++ [r]) (us ++ [u]) w := by
 refine ⟨by simp [hl], ?_, fun i hi => ?_⟩
 ·rw [Zi5 rs us r u hl]; simpa using hr
 ·by_cases hi2 : i < rs.length
  ·obtain ⟨y, h1, h2⟩ := he i hi2;refine ⟨y, by rw [List.getElem?_append_left (by omega)]; exact h1, ?_⟩;rw [List.getElem_append_left hi2]; exact h2
  ·have e : i = rs.length := by simp at hi; omega
   subst e;exact ⟨u, by rw [← hl]; simp, by simpa using hu⟩
theorem Zvb : (Tryz.prog.info? 61).map (fun i => (i.zero, i.size, i.bytes)) = some (some (.agg #[.int .i64 0, .int .i64 0, .int .i64 0, .slice none 0 0]), 4, 48) := by kernel_rfl
theorem Zrp (w : World) (x y z u : Value) (e : TypeId) (j : Nat) (c : Value) (h : [x, y, z, u][j]? = some c) : (w.alloc (.cells #[x, y, z, u] e)).cell? ((⟨w.heap.size, 0, none⟩ : Addr).add j) = some c := by
 match j, h with
 | 0, h => simp at h; subst h; simp [Addr.add]
 | 1, h => simp at h; subst h; simp [Addr.add]
 | 2, h => simp at h; subst h; simp [Addr.add]
 | 3, h => simp at h; subst h; simp [Addr.add]
 | j + 4, h => simp at h
theorem Vq.first (h : Vq B v (r :: rs) us w) : ∃ g cap ao c, v = .slice (some ⟨g, 0, none⟩) (rs.length + 1) cap ∧ w.cell? ⟨g, 0, none⟩ = some (.int .i64 r.kind) ∧ w.cell? ⟨g, 1, none⟩ = some (.int .i64 r.key) ∧ w.cell? ⟨g, 2, none⟩ = some (.int .i64 r.ver) ∧ w.cell? ⟨g, 3, none⟩ = some (.slice ao r.data.length c) ∧ us[0]? = some (.slice ao r.data.length c) := by
 obtain ⟨u, hu, ho⟩ := h.each 0 (by simp);obtain ⟨ao, c, rfl⟩ := Ya ho;cases us with
 | nil => simp at hu
 | cons u us =>
  simp only [List.getElem?_cons_zero, Option.some.injEq] at hu;subst hu;rcases h.row.2 with ⟨_, h0⟩ | ⟨g, cap, cur, rfl, _, hh, h1, _⟩
  ·simp at h0
  ·simp only [List.length_cons] at h1;have c0 := h.row.cellAt 0 (by simp only [List.length_cons]; omega);have c1 := h.row.cellAt 1 (by simp only [List.length_cons]; omega);have c2 := h.row.cellAt 2 (by simp only [List.length_cons]; omega);have c3 := h.row.cellAt 3 (by simp only [List.length_cons]; omega);exact ⟨g, cap, ao, c, rfl, by simpa [Ja] using c0, by simpa [Ja] using c1, by simpa [Ja] using c2, by simpa [Ja] using c3, rfl⟩
theorem Vq.second {g cap n : Nat} {q : Rec} (h : Vq B (.slice (some ⟨g, 0, none⟩) n cap) (r :: q :: rs) us w) : ∃ ao c, w.cell? ⟨g, 4, none⟩ = some (.int .i64 q.kind) ∧ w.cell? ⟨g, 5, none⟩ = some (.int .i64 q.key) ∧ w.cell? ⟨g, 6, none⟩ = some (.int .i64 q.ver) ∧ w.cell? ⟨g, 7, none⟩ = some (.slice ao q.data.length c) ∧ us[1]? = some (.slice ao q.data.length c) := by
 obtain ⟨u, hu, ho⟩ := h.each 1 (by simp);obtain ⟨ao, c, hu2⟩ := Ya ho;have hu3 : u = .slice ao q.data.length c := hu2;subst hu3
 match us, hu with
 | [], hu => simp at hu
 | [_], hu => simp at hu
 | u0 :: u1 :: us, hu =>
  simp only [List.getElem?_cons_succ, List.getElem?_cons_zero, Option.some.injEq] at hu;subst hu;have hr := h.row;rcases hr.2 with ⟨_, h0⟩ | ⟨g', cap', cur, hv, _, hh, h1, _⟩
  ·simp at h0
  ·cases hv;simp only [List.length_cons] at h1;have c4 := hr.cellAt 4 (by simp only [List.length_cons]; omega);have c5 := hr.cellAt 5 (by simp only [List.length_cons]; omega);have c6 := hr.cellAt 6 (by simp only [List.length_cons]; omega);have c7 := hr.cellAt 7 (by simp only [List.length_cons]; omega);exact ⟨ao, c, by simpa [Ja] using c4, by simpa [Ja] using c5, by simpa [Ja] using c6, by simpa [Ja] using c7, rfl⟩
def Zg5 (rs : List Rec) (s : Int) : Int :=
 match rs with
 | [] => if s = 0 then 0 else if s = 1 then 3 else 4
 | [_] => 2
 | r0 :: r1 :: _ => if X9 r0 r1 = true then 1 else 5
theorem Zrd (s : Int) (ao : Option Addr) (cap : Nat) (w : World) :
  Calls Tryz.prog 81 #[.slice ao 0 cap, .int .i64 s] w fun e w' => e = .returned (.int .i64 (Zg5 [] s)) ∧ Zn w w' := by
 by_cases h0 : s = 0
 ·subst h0;go_enter Tryz.func81, Tryz.ntmps81;go_wp2_with fail;refine Yb [ex (.slice ao 0 cap), ex (.int .i64 0), ex (.bool false), ex (.bool false), ex (undef), ex (undef), ex (undef), ex (undef), ex (undef), ex (undef), ex (undef), ex (.bool false), ex (.bool false)] (by kernel_rfl) (by kernel_rfl) ⟨Zj _, Zj _, Zj _, Zj _, Zj _, Zj _, Zj _, Zj _, Zj _, Zj _, Zj _, Zj _, Zj _, trivial⟩ ?_ ?_
  ·refine ⟨?_, ?_, ?_, ?_, ?_, ?_, ?_, ?_, ?_, ?_, ?_, ?_, ?_, trivial⟩
   ·exact Ze rfl fun a _ _ _ _ A => Zx rfl (Zy A 0 rfl)
   ·refine Ze rfl fun a _ _ _ B A => ?_;have e6 : a (.tmp 6) = _ := Zg A 0 rfl;refine Zo ?_ rfl;clear A B;go_simp;all_goals go_arith
   ·refine Ze rfl fun a _ _ _ B A => ?_;have e7 : a (.tmp 7) = _ := Zg A 1 rfl;refine Zo ?_ rfl;clear A B;go_simp;all_goals go_arith
   ·exact Ze rfl fun a _ _ _ _ A => Zx rfl (Zg A 2 rfl)
   ·refine Zz 3 true rfl rfl rfl (fun _ => rfl)
   ·refine Zz 3 true rfl rfl rfl (fun _ => rfl)
   ·refine Zz 3 true rfl rfl rfl (fun _ => rfl)
   ·refine Zz 3 true rfl rfl rfl (fun _ => rfl)
   ·refine Zz 3 true rfl rfl rfl (fun _ => rfl)
   ·refine Zz 3 true rfl rfl rfl (fun _ => rfl)
   ·refine Zz 3 true rfl rfl rfl (fun _ => rfl)
   ·refine Ze rfl fun a _ B _ _ A => ?_;have ec : a (.tmp 9) = _ := Zg A 3 rfl;exact Xb rfl ec (B _)
   ·exact Ze rfl fun a _ _ _ _ A => Yx rfl (Zg A 11 rfl)
  ·intro vs w' hg ht;obtain ⟨(r6 : vs 0 = _), (r7 : vs 1 = _), (r8 : vs 2 = _), (r9 : vs 3 = _), (r10 : vs 4 = _), (r11 : vs 5 = _), (r12 : vs 6 = _), (r13 : vs 7 = _), (r14 : vs 8 = _), (r15 : vs 9 = _), (r16 : vs 10 = _), (r17 : vs 11 = _), (r5 : vs 12 = _), -⟩ := ht;simp only [Ye, Act.put, List.setIfInBounds_toArray, List.set_cons_zero, List.set_cons_succ, r6, r7, r8, r9, r10, r11, r12, r13, r14, r15, r16, r17, r5];clear r6 r7 r8 r9 r10 r11 r12 r13 r14 r15 r16 r17 r5;go_wp2_with fail;go_ret;exact ⟨rfl, hg⟩
 ·by_cases h1 : s = 1
  ·subst h1;clear h0;go_enter Tryz.func81, Tryz.ntmps81;go_wp2_with fail;refine Yb [ex (.slice ao 0 cap), ex (.int .i64 0), ex (.bool false), ex (.bool false), ex (undef), ex (undef), ex (undef), ex (undef), ex (undef), ex (undef), ex (undef), ex (.bool false), ex (.bool false)] (by kernel_rfl) (by kernel_rfl) ⟨Zj _, Zj _, Zj _, Zj _, Zj _, Zj _, Zj _, Zj _, Zj _, Zj _, Zj _, Zj _, Zj _, trivial⟩ ?_ ?_
   ·refine ⟨?_, ?_, ?_, ?_, ?_, ?_, ?_, ?_, ?_, ?_, ?_, ?_, ?_, trivial⟩
    ·exact Ze rfl fun a _ _ _ _ A => Zx rfl (Zy A 0 rfl)
    ·refine Ze rfl fun a _ _ _ B A => ?_;have e6 : a (.tmp 6) = _ := Zg A 0 rfl;refine Zo ?_ rfl;clear A B;go_simp;all_goals go_arith
    ·refine Ze rfl fun a _ _ _ B A => ?_;have e7 : a (.tmp 7) = _ := Zg A 1 rfl;refine Zo ?_ rfl;clear A B;go_simp;all_goals go_arith
    ·exact Ze rfl fun a _ _ _ _ A => Zx rfl (Zg A 2 rfl)
    ·refine Zz 3 true rfl rfl rfl (fun _ => rfl)
    ·refine Zz 3 true rfl rfl rfl (fun _ => rfl)
    ·refine Zz 3 true rfl rfl rfl (fun _ => rfl)
    ·refine Zz 3 true rfl rfl rfl (fun _ => rfl)
    ·refine Zz 3 true rfl rfl rfl (fun _ => rfl)
    ·refine Zz 3 true rfl rfl rfl (fun _ => rfl)
    ·refine Zz 3 true rfl rfl rfl (fun _ => rfl)
    ·refine Ze rfl fun a _ B _ _ A => ?_;have ec : a (.tmp 9) = _ := Zg A 3 rfl;exact Xb rfl ec (B _)
    ·exact Ze rfl fun a _ _ _ _ A => Yx rfl (Zg A 11 rfl)
   ·intro vs w' hg ht;obtain ⟨(r6 : vs 0 = _), (r7 : vs 1 = _), (r8 : vs 2 = _), (r9 : vs 3 = _), (r10 : vs 4 = _), (r11 : vs 5 = _), (r12 : vs 6 = _), (r13 : vs 7 = _), (r14 : vs 8 = _), (r15 : vs 9 = _), (r16 : vs 10 = _), (r17 : vs 11 = _), (r5 : vs 12 = _), -⟩ := ht;simp only [Ye, Act.put, List.setIfInBounds_toArray, List.set_cons_zero, List.set_cons_succ, r6, r7, r8, r9, r10, r11, r12, r13, r14, r15, r16, r17, r5];clear r6 r7 r8 r9 r10 r11 r12 r13 r14 r15 r16 r17 r5;go_wp2_with fail;go_ret;exact ⟨rfl, hg⟩
  ·have HN : Hid (Zg5 [] s = 4) := by show Zg5 [] s = 4; unfold Zg5; rw [if_neg h0, if_neg h1]
   rw [HN.out];have d0 : (s == 0) = false := Vj h0;have d1 : (s == 1) = false := Vj h1;clear h0 h1;go_enter Tryz.func81, Tryz.ntmps81;go_wp2_with fail;refine Yb [ex (.slice ao 0 cap), ex (.int .i64 0), ex (.bool false), ex (.bool false), ex (undef), ex (undef), ex (undef), ex (undef), ex (undef), ex (undef), ex (undef), ex (.bool false), ex (.bool false)] (by kernel_rfl) (by kernel_rfl) ⟨Zj _, Zj _, Zj _, Zj _, Zj _, Zj _, Zj _, Zj _, Zj _, Zj _, Zj _, Zj _, Zj _, trivial⟩ ?_ ?_
   ·refine ⟨?_, ?_, ?_, ?_, ?_, ?_, ?_, ?_, ?_, ?_, ?_, ?_, ?_, trivial⟩
    ·exact Ze rfl fun a _ _ _ _ A => Zx rfl (Zy A 0 rfl)
    ·refine Ze rfl fun a _ _ _ B A => ?_;have e6 : a (.tmp 6) = _ := Zg A 0 rfl;refine Zo ?_ rfl;clear A B;go_simp;all_goals go_arith
    ·refine Ze rfl fun a _ _ _ B A => ?_;have e7 : a (.tmp 7) = _ := Zg A 1 rfl;refine Zo ?_ rfl;clear A B;go_simp;all_goals go_arith
    ·exact Ze rfl fun a _ _ _ _ A => Zx rfl (Zg A 2 rfl)
    ·refine Zz 3 true rfl rfl rfl (fun _ => rfl)
    ·refine Zz 3 true rfl rfl rfl (fun _ => rfl)
    ·refine Zz 3 true rfl rfl rfl (fun _ => rfl)
    ·refine Zz 3 true rfl rfl rfl (fun _ => rfl)
    ·refine Zz 3 true rfl rfl rfl (fun _ => rfl)
    ·refine Zz 3 true rfl rfl rfl (fun _ => rfl)
    ·refine Zz 3 true rfl rfl rfl (fun _ => rfl)
    ·refine Ze rfl fun a _ B _ _ A => ?_;have ec : a (.tmp 9) = _ := Zg A 3 rfl;exact Xb rfl ec (B _)
    ·exact Ze rfl fun a _ _ _ _ A => Yx rfl (Zg A 11 rfl)
   ·intro vs w' hg ht;obtain ⟨(r6 : vs 0 = _), (r7 : vs 1 = _), (r8 : vs 2 = _), (r9 : vs 3 = _), (r10 : vs 4 = _), (r11 : vs 5 = _), (r12 : vs 6 = _), (r13 : vs 7 = _), (r14 : vs 8 = _), (r15 : vs 9 = _), (r16 : vs 10 = _), (r17 : vs 11 = _), (r5 : vs 12 = _), -⟩ := ht;simp only [Ye, Act.put, List.setIfInBounds_toArray, List.set_cons_zero, List.set_cons_succ, r6, r7, r8, r9, r10, r11, r12, r13, r14, r15, r16, r17, r5];clear r6 r7 r8 r9 r10 r11 r12 r13 r14 r15 r16 r17 r5;go_wp2_with fail;go_ret;exact ⟨rfl, hg⟩
theorem Zuj (s : Int) (ao : Option Addr) (cap : Nat) (w : World) :
  Calls Tryz.prog 81 #[.slice ao 1 cap, .int .i64 s] w fun e w' => e = .returned (.int .i64 2) ∧ Zn w w' := by
 go_enter Tryz.func81, Tryz.ntmps81;go_wp2_with fail;refine Yb [ex (.slice ao 1 cap), ex (.int .i64 1), ex (.bool false), ex (.bool false), ex (undef), ex (undef), ex (undef), ex (undef), ex (undef), ex (undef), ex (undef), ex (.bool false), ex (.bool false)] (by kernel_rfl) (by kernel_rfl) ⟨Zj _, Zj _, Zj _, Zj _, Zj _, Zj _, Zj _, Zj _, Zj _, Zj _, Zj _, Zj _, Zj _, trivial⟩ ?_ ?_
 ·refine ⟨?_, ?_, ?_, ?_, ?_, ?_, ?_, ?_, ?_, ?_, ?_, ?_, ?_, trivial⟩
  ·exact Ze rfl fun a _ _ _ _ A => Zx rfl (Zy A 0 rfl)
  ·refine Ze rfl fun a _ _ _ B A => ?_;have e6 : a (.tmp 6) = _ := Zg A 0 rfl;refine Zo ?_ rfl;clear A B;go_simp;all_goals go_arith
  ·refine Ze rfl fun a _ _ _ B A => ?_;have e7 : a (.tmp 7) = _ := Zg A 1 rfl;refine Zo ?_ rfl;clear A B;go_simp;all_goals go_arith
  ·exact Ze rfl fun a _ _ _ _ A => Zx rfl (Zg A 2 rfl)
  ·refine Zz 3 true rfl rfl rfl (fun _ => rfl)
  ·refine Zz 3 true rfl rfl rfl (fun _ => rfl)
  ·refine Zz 3 true rfl rfl rfl (fun _ => rfl)
  ·refine Zz 3 true rfl rfl rfl (fun _ => rfl)
  ·refine Zz 3 true rfl rfl rfl (fun _ => rfl)
  ·refine Zz 3 true rfl rfl rfl (fun _ => rfl)
  ·refine Zz 3 true rfl rfl rfl (fun _ => rfl)
  ·refine Ze rfl fun a _ B _ _ A => ?_;have ec : a (.tmp 9) = _ := Zg A 3 rfl;exact Xb rfl ec (B _)
  ·exact Ze rfl fun a _ _ _ _ A => Yx rfl (Zg A 11 rfl)
 ·intro vs w' hg ht;obtain ⟨(r6 : vs 0 = _), (r7 : vs 1 = _), (r8 : vs 2 = _), (r9 : vs 3 = _), (r10 : vs 4 = _), (r11 : vs 5 = _), (r12 : vs 6 = _), (r13 : vs 7 = _), (r14 : vs 8 = _), (r15 : vs 9 = _), (r16 : vs 10 = _), (r17 : vs 11 = _), (r5 : vs 12 = _), -⟩ := ht;simp only [Ye, Act.put, List.setIfInBounds_toArray, List.set_cons_zero, List.set_cons_succ, r6, r7, r8, r9, r10, r11, r12, r13, r14, r15, r16, r17, r5];clear r6 r7 r8 r9 r10 r11 r12 r13 r14 r15 r16 r17 r5;go_wp2_with fail;go_ret;exact ⟨rfl, hg⟩
theorem Zui (r q : Rec) (s : Int) (g cap c c' : Nat) (ao bo : Option Addr) (w : World) (hr : Bytes w (.slice ao r.data.length c) r.data) (hq : Bytes w (.slice bo q.data.length c') q.data)
  (c0 : w.cell? ⟨g, 0, none⟩ = some (.int .i64 r.kind)) (c1 : w.cell? ⟨g, 1, none⟩ = some (.int .i64 r.key)) (c2 : w.cell? ⟨g, 2, none⟩ = some (.int .i64 r.ver)) (c3 : w.cell? ⟨g, 3, none⟩ = some (.slice ao r.data.length c))
  (c4 : w.cell? ⟨g, 4, none⟩ = some (.int .i64 q.kind)) (c5 : w.cell? ⟨g, 5, none⟩ = some (.int .i64 q.key)) (c6 : w.cell? ⟨g, 6, none⟩ = some (.int .i64 q.ver)) (c7 : w.cell? ⟨g, 7, none⟩ = some (.slice bo q.data.length c')) :
  Calls Tryz.prog 81 #[.slice (some ⟨g, 0, none⟩) 2 cap, .int .i64 s] w fun e w' => e = .returned (.int .i64 (if X9 r q = true then 1 else 5)) ∧ Zn w w' := by
 have hlt := Zv c0;have cell : ∀ {w' : World} (j : Nat), Zn w w' → w'.cell? ⟨g, j, none⟩ = w.cell? ⟨g, j, none⟩ := fun j hg => Below.cell hg (p := ⟨g, j, none⟩) hlt
 cases hs : X9 r q with
 | true =>
  have HS : Hid (X9 r q = true) := hs;clear hs;go_enter Tryz.func81, Tryz.ntmps81;go_wp2_with fail;refine Yb [ex (.slice (some ⟨g, 0, none⟩) 2 cap), ex (.int .i64 2), ex (.bool true), ex (.bool true), ex (.slice (some ⟨g, 0, none⟩) 2 cap), ex (.pointer (some ⟨g, 0, none⟩)), ex (.agg #[.int .i64 r.kind, .int .i64 r.key, .int .i64 r.ver, .slice ao r.data.length c]), ex (.slice (some ⟨g, 0, none⟩) 2 cap), ex (.pointer (some ⟨g, 4, none⟩)), ex (.agg #[.int .i64 q.kind, .int .i64 q.key, .int .i64 q.ver, .slice bo q.data.length c']), ex (.bool true), ex (.bool true), ex (.bool true)] (by kernel_rfl) (by kernel_rfl) ⟨Zj _, Zj _, Zj _, Zj _, Zj _, Zj _, Zj _, Zj _, Zj _, Zj _, Zj _, Zj _, Zj _, trivial⟩ ?_ ?_
  ·refine ⟨?_, ?_, ?_, ?_, ?_, ?_, ?_, ?_, ?_, ?_, ?_, ?_, ?_, trivial⟩
   ·exact Ze rfl fun a _ _ _ _ A => Zx rfl (Zy A 0 rfl)
   ·refine Ze rfl fun a _ _ _ B A => ?_;have e6 : a (.tmp 6) = _ := Zg A 0 rfl;refine Zo ?_ rfl;clear A B;go_simp;all_goals go_arith
   ·refine Ze rfl fun a _ _ _ B A => ?_;have e7 : a (.tmp 7) = _ := Zg A 1 rfl;refine Zo ?_ rfl;clear A B;go_simp;all_goals go_arith
   ·exact Ze rfl fun a _ _ _ _ A => Zx rfl (Zg A 2 rfl)
   ·exact Zw 3 true rfl rfl rfl fun a _ _ _ _ A => Zx rfl (Zy A 0 rfl)
   ·refine Zw 3 true rfl rfl rfl fun a _ _ _ B A => ?_;have e10 : a (.tmp 10) = _ := Zg A 4 rfl;refine Zo ?_ rfl;clear A B;go_simp;all_goals go_arith
   ·refine Zw 3 true rfl rfl rfl fun a _ _ _ B A => ?_;have e11 : a (.tmp 11) = _ := Zg A 5 rfl;have z0 := (cell 0 B).trans c0;have z1 := (cell 1 B).trans c1;have z2 := (cell 2 B).trans c2;have z3 := (cell 3 B).trans c3;refine Zo ?_ rfl;clear A B cell c0 c1 c2 c3 c4 c5 c6 c7;go_simp;all_goals go_arith
   ·exact Zw 3 true rfl rfl rfl fun a _ _ _ _ A => Zx rfl (Zy A 0 rfl)
   ·refine Zw 3 true rfl rfl rfl fun a _ _ _ B A => ?_;have e13 : a (.tmp 13) = _ := Zg A 7 rfl;refine Zo ?_ rfl;clear A B;go_simp;all_goals go_arith
   ·refine Zw 3 true rfl rfl rfl fun a _ _ _ B A => ?_;have e14 : a (.tmp 14) = _ := Zg A 8 rfl;have z0 := (cell 4 B).trans c4;have z1 := (cell 5 B).trans c5;have z2 := (cell 6 B).trans c6;have z3 := (cell 7 B).trans c7;refine Zo ?_ rfl;clear A B cell c0 c1 c2 c3 c4 c5 c6 c7;go_simp;all_goals go_arith
   ·refine Zw 3 true rfl rfl rfl fun a B _ _ C A => ?_;have e12 : a (.tmp 12) = _ := Zg A 6 rfl;have e15 : a (.tmp 15) = _ := Zg A 9 rfl;refine Yv (f := 117) (args := #[.agg #[.int .i64 r.kind, .int .i64 r.key, .int .i64 r.ver, .slice ao r.data.length c], .agg #[.int .i64 q.kind, .int .i64 q.key, .int .i64 q.ver, .slice bo q.data.length c']]) ?_ ((Zgb _ _ _ _ _ _ r.data q.data _ _ B (Z3 hr C) (Z3 hq C)).mono ?_)
    ·clear A C cell c0 c1 c2 c3 c4 c5 c6 c7;go_simp;all_goals go_arith
    ·rintro e w2 ⟨rfl, g2⟩;exact ⟨_, rfl, g2, by rw [← HS.out]; rfl⟩
   ·refine Ze rfl fun a _ _ _ _ A => ?_;have ec : a (.tmp 9) = _ := Zg A 3 rfl;have e : a (.tmp 16) = _ := Zg A 10 rfl;exact Xb rfl ec e
   ·exact Ze rfl fun a _ _ _ _ A => Yx rfl (Zg A 11 rfl)
  ·intro vs w' hg ht;obtain ⟨(r6 : vs 0 = _), (r7 : vs 1 = _), (r8 : vs 2 = _), (r9 : vs 3 = _), (r10 : vs 4 = _), (r11 : vs 5 = _), (r12 : vs 6 = _), (r13 : vs 7 = _), (r14 : vs 8 = _), (r15 : vs 9 = _), (r16 : vs 10 = _), (r17 : vs 11 = _), (r5 : vs 12 = _), -⟩ := ht;simp only [Ye, Act.put, List.setIfInBounds_toArray, List.set_cons_zero, List.set_cons_succ, r6, r7, r8, r9, r10, r11, r12, r13, r14, r15, r16, r17, r5];clear r6 r7 r8 r9 r10 r11 r12 r13 r14 r15 r16 r17 r5;clear cell c0 c1 c2 c3 c4 c5 c6 c7;go_wp2_with fail;go_ret;exact ⟨rfl, hg⟩
 | false =>
  have HS : Hid (X9 r q = false) := hs;clear hs;go_enter Tryz.func81, Tryz.ntmps81;go_wp2_with fail;refine Yb [ex (.slice (some ⟨g, 0, none⟩) 2 cap), ex (.int .i64 2), ex (.bool true), ex (.bool true), ex (.slice (some ⟨g, 0, none⟩) 2 cap), ex (.pointer (some ⟨g, 0, none⟩)), ex (.agg #[.int .i64 r.kind, .int .i64 r.key, .int .i64 r.ver, .slice ao r.data.length c]), ex (.slice (some ⟨g, 0, none⟩) 2 cap), ex (.pointer (some ⟨g, 4, none⟩)), ex (.agg #[.int .i64 q.kind, .int .i64 q.key, .int .i64 q.ver, .slice bo q.data.length c']), ex (.bool false), ex (.bool false), ex (.bool false)] (by kernel_rfl) (by kernel_rfl) ⟨Zj _, Zj _, Zj _, Zj _, Zj _, Zj _, Zj _, Zj _, Zj _, Zj _, Zj _, Zj _, Zj _, trivial⟩ ?_ ?_
  ·refine ⟨?_, ?_, ?_, ?_, ?_, ?_, ?_, ?_, ?_, ?_, ?_, ?_, ?_, trivial⟩
   ·exact Ze rfl fun a _ _ _ _ A => Zx rfl (Zy A 0 rfl)
   ·refine Ze rfl fun a _ _ _ B A => ?_;have e6 : a (.tmp 6) = _ := Zg A 0 rfl;refine Zo ?_ rfl;clear A B;go_simp;all_goals go_arith
   ·refine Ze rfl fun a _ _ _ B A => ?_;have e7 : a (.tmp 7) = _ := Zg A 1 rfl;refine Zo ?_ rfl;clear A B;go_simp;all_goals go_arith
   ·exact Ze rfl fun a _ _ _ _ A => Zx rfl (Zg A 2 rfl)
   ·exact Zw 3 true rfl rfl rfl fun a _ _ _ _ A => Zx rfl (Zy A 0 rfl)
   ·refine Zw 3 true rfl rfl rfl fun a _ _ _ B A => ?_;have e10 : a (.tmp 10) = _ := Zg A 4 rfl;refine Zo ?_ rfl;clear A B;go_simp;all_goals go_arith
   ·refine Zw 3 true rfl rfl rfl fun a _ _ _ B A => ?_;have e11 : a (.tmp 11) = _ := Zg A 5 rfl;have z0 := (cell 0 B).trans c0;have z1 := (cell 1 B).trans c1;have z2 := (cell 2 B).trans c2;have z3 := (cell 3 B).trans c3;refine Zo ?_ rfl;clear A B cell c0 c1 c2 c3 c4 c5 c6 c7;go_simp;all_goals go_arith
   ·exact Zw 3 true rfl rfl rfl fun a _ _ _ _ A => Zx rfl (Zy A 0 rfl)
   ·refine Zw 3 true rfl rfl rfl fun a _ _ _ B A => ?_;have e13 : a (.tmp 13) = _ := Zg A 7 rfl;refine Zo ?_ rfl;clear A B;go_simp;all_goals go_arith
   ·refine Zw 3 true rfl rfl rfl fun a _ _ _ B A => ?_;have e14 : a (.tmp 14) = _ := Zg A 8 rfl;have z0 := (cell 4 B).trans c4;have z1 := (cell 5 B).trans c5;have z2 := (cell 6 B).trans c6;have z3 := (cell 7 B).trans c7;refine Zo ?_ rfl;clear A B cell c0 c1 c2 c3 c4 c5 c6 c7;go_simp;all_goals go_arith
   ·refine Zw 3 true rfl rfl rfl fun a B _ _ C A => ?_;have e12 : a (.tmp 12) = _ := Zg A 6 rfl;have e15 : a (.tmp 15) = _ := Zg A 9 rfl;refine Yv (f := 117) (args := #[.agg #[.int .i64 r.kind, .int .i64 r.key, .int .i64 r.ver, .slice ao r.data.length c], .agg #[.int .i64 q.kind, .int .i64 q.key, .int .i64 q.ver, .slice bo q.data.length c']]) ?_ ((Zgb _ _ _ _ _ _ r.data q.data _ _ B (Z3 hr C) (Z3 hq C)).mono ?_)
    ·clear A C cell c0 c1 c2 c3 c4 c5 c6 c7;go_simp;all_goals go_arith
    ·rintro e w2 ⟨rfl, g2⟩;exact ⟨_, rfl, g2, by rw [← HS.out]; rfl⟩
   ·refine Ze rfl fun a _ _ _ _ A => ?_;have ec : a (.tmp 9) = _ := Zg A 3 rfl;have e : a (.tmp 16) = _ := Zg A 10 rfl;exact Xb rfl ec e
   ·exact Ze rfl fun a _ _ _ _ A => Yx rfl (Zg A 11 rfl)
  ·intro vs w' hg ht;obtain ⟨(r6 : vs 0 = _), (r7 : vs 1 = _), (r8 : vs 2 = _), (r9 : vs 3 = _), (r10 : vs 4 = _), (r11 : vs 5 = _), (r12 : vs 6 = _), (r13 : vs 7 = _), (r14 : vs 8 = _), (r15 : vs 9 = _), (r16 : vs 10 = _), (r17 : vs 11 = _), (r5 : vs 12 = _), -⟩ := ht;simp only [Ye, Act.put, List.setIfInBounds_toArray, List.set_cons_zero, List.set_cons_succ, r6, r7, r8, r9, r10, r11, r12, r13, r14, r15, r16, r17, r5];clear r6 r7 r8 r9 r10 r11 r12 r13 r14 r15 r16 r17 r5;clear cell c0 c1 c2 c3 c4 c5 c6 c7;go_wp2_with fail;go_ret;exact ⟨rfl, hg⟩
theorem Zuk (rs : List Rec) (us : List Value) (s : Int) (B : Nat) (v : Value) (w : World) (h : Vq B v rs us w) (hl : rs.length ≤ 2) :
  Calls Tryz.prog 81 #[v, .int .i64 s] w fun e w' => e = .returned (.int .i64 (Zg5 rs s)) ∧ Zn w w' := by
 match rs, h, hl with
 | [], h, _ =>
  obtain ⟨ao, cap, rfl⟩ := h.form;exact Zrd s ao cap w
 | [r], h, _ =>
  obtain ⟨ao, cap, rfl⟩ := h.form;exact Zuj s ao cap w
 | [r, q], h, _ =>
  obtain ⟨g, cap, ao, c, rfl, c0, c1, c2, c3, hu⟩ := h.first;obtain ⟨bo, c', c4, c5, c6, c7, hu'⟩ := h.second;obtain ⟨x, hx, hox⟩ := h.each 0 (by simp);obtain ⟨y, hy, hoy⟩ := h.each 1 (by simp);rw [hu] at hx;rw [hu'] at hy;cases hx;cases hy;exact Zui r q s g cap c c' ao bo w (Qq hox) (Qq hoy) c0 c1 c2 c3 c4 c5 c6 c7
 | _ :: _ :: _ :: _, _, hl => exact absurd hl (by simp)
theorem Zlj (ao : Option Addr) (cap : Nat) (w : World) :
  Calls Tryz.prog 82 #[.slice ao 0 cap] w fun e w' => e = .returned (.agg #[.int .i64 1, .int .i64 0, .int .i64 0, .slice none 0 0]) ∧ Zn w w' := by
 have g1 := Zb w (.cells #[.int .i64 1, .int .i64 0, .int .i64 0, .slice none 0 0] 61);go_enter Tryz.func82, Tryz.ntmps82;go_wp2_with fail;refine bodyPost_ret (v := .agg #[.int .i64 1, .int .i64 0, .int .i64 0, .slice none 0 0]) (by simp [results, Tryz.results82, go_sem]) rfl ⟨rfl, ?_⟩;exact g1
theorem Zli (r : Rec) (g n cap c : Nat) (ao : Option Addr) (w : World) (hn : 0 < n)
  (c0 : w.cell? ⟨g, 0, none⟩ = some (.int .i64 r.kind)) (c1 : w.cell? ⟨g, 1, none⟩ = some (.int .i64 r.key)) (c2 : w.cell? ⟨g, 2, none⟩ = some (.int .i64 r.ver)) (c3 : w.cell? ⟨g, 3, none⟩ = some (.slice ao r.data.length c)) :
  Calls Tryz.prog 82 #[.slice (some ⟨g, 0, none⟩) n cap] w fun e w' => e = .returned (.agg #[.int .i64 r.kind, .int .i64 r.key, .int .i64 r.ver, .slice ao r.data.length c]) ∧ Zn w w' := by
 have hlt := Zv c0;have g0 := Zb w (.cells #[.int .i64 0, .int .i64 0, .int .i64 0, .slice none 0 0] 61);have z0 := (Below.cell g0 (p := ⟨g, 0, none⟩) hlt).trans c0;have z1 := (Below.cell g0 (p := ⟨g, 1, none⟩) hlt).trans c1;have z2 := (Below.cell g0 (p := ⟨g, 2, none⟩) hlt).trans c2;have z3 := (Below.cell g0 (p := ⟨g, 3, none⟩) hlt).trans c3;have d0 : ((n : Int) == 0) = false := Vj (by omega);have g1 := Zb w (.cells #[.int .i64 r.kind, .int .i64 r.key, .int .i64 r.ver, .slice ao r.data.length c] 61);clear c0 c1 c2 c3 hlt;go_enter Tryz.func82, Tryz.ntmps82;go_wp2_with fail;refine bodyPost_ret (v := .agg #[.int .i64 r.kind, .int .i64 r.key, .int .i64 r.ver, .slice ao r.data.length c]) (by simp [results, Tryz.results82, go_sem]) rfl ⟨rfl, ?_⟩;exact g1
theorem Zn7 (rs : List Rec) (us : List Value) (B : Nat) (v : Value) (w : World) (h : Vq B v rs us w) :
  ∃ ao c, (∀ w', Vq B v rs us w' → w'.ownsRow B 5 1 (.slice ao (rs.headD Rec.free).data.length c) (rs.headD Rec.free).data.length ((rs.headD Rec.free).data.map bv)) ∧
   ∀ w', Vq B v rs us w' → Calls Tryz.prog 82 #[v] w' fun e w'' => e = .returned (.agg #[.int .i64 (rs.headD Rec.free).kind, .int .i64 (rs.headD Rec.free).key, .int .i64 (rs.headD Rec.free).ver, .slice ao (rs.headD Rec.free).data.length c]) ∧ Zn w' w'' := by
 cases rs with
 | nil =>
  obtain ⟨ao, cap, rfl⟩ := h.form;exact ⟨none, 0, fun w' _ => World.ownsRow_nil _ _ _ _, fun w' _ => Zlj ao cap w'⟩
 | cons r rs =>
  obtain ⟨g, cap, ao, c, rfl, -, -, -, -, hu⟩ := h.first;refine ⟨ao, c, fun w' h' => ?_, fun w' h' => ?_⟩
  ·obtain ⟨u, hu2, ho⟩ := h'.each 0 (by simp);rw [hu] at hu2;cases hu2;exact ho
  ·obtain ⟨g', cap', ao', c', hv, c0, c1, c2, c3, hu2⟩ := h'.first;cases hv;rw [hu] at hu2;cases hu2;exact Zli r g _ cap c ao w' (by omega) c0 c1 c2 c3
end Go.Proofs.YtpdnapbchcdhlacGreat
