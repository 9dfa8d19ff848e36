import Derived.Test.YtpdnapbchcdhlacGreatPairC
set_option maxHeartbeats 8000000
namespace Go.Proofs.YtpdnapbchcdhlacGreat
set_option maxRecDepth 100000
open Go.RowKit
open Plain Reg
theorem Zd4 (d : Dk) (a : Int) (v : Value) (w : World) (hF : d.Fine 1000) (hd : Vb d v w) (h0 : 0 ≤ a) (h1 : a < 12) :
  Calls Tryz.prog 80 #[v, .int .i64 a] w fun e w' => ∃ dv, e = .returned (.tuple #[.agg #[.int .i64 (Y3 (Yp d a) a).kind, .int .i64 (Y3 (Yp d a) a).key, .int .i64 (Y3 (Yp d a) a).ver, dv], .int .i64 (Qa d a)]) ∧ w'.ownsRow w.heap.size 5 1 dv (Y3 (Yp d a) a).data.length ((Y3 (Yp d a) a).data.map bv) ∧ Zn w w' := by
 obtain ⟨ab, cb, al, cl, rfl, hb, hl⟩ := hd.form;rw [show Qa d a = X3 (Yp d a) a from rfl];obtain ⟨r, hr⟩ : ∃ r, r = Y3 (Yp d a) a := ⟨_, rfl⟩;obtain ⟨E, hE⟩ : ∃ E, E = X3 (Yp d a) a := ⟨_, rfl⟩;rw [← hr, ← hE];have HR : Hid _ := hr;have HX : Hid _ := hE;clear hr hE;have HE : Hid (d.getE a = 0) := by show d.getE a = 0; unfold Dk.getE; rw [if_neg (by rw [hF.len]; omega)]
 have hb16 := hF.b16;have hl16 := hF.l16;have hm2 : d.late.length ≤ 999990 := by have := hF.few; omega
 have gW := Zp w (.cells #[.slice ab d.blocks.length cb, .slice al d.late.length cl] 26) (.cells #[.int .i64 0, .int .i64 0, .int .i64 0, .slice none 0 0] 61);have hz : ((w.alloc (.cells #[.slice ab d.blocks.length cb, .slice al d.late.length cl] 26)).alloc (.cells #[.int .i64 0, .int .i64 0, .int .i64 0, .slice none 0 0] 61)).heap[w.heap.size + 1]? = some (.cells #[.int .i64 0, .int .i64 0, .int .i64 0, .slice none 0 0] 61 (0, 0)) := by
  have h := Zg (w.alloc (.cells #[.slice ab d.blocks.length cb, .slice al d.late.length cl] 26)) #[.int .i64 0, .int .i64 0, .int .i64 0, .slice none 0 0] 61;rw [World.size_alloc] at h;exact h
 have hbW := hb.grow gW;have hlW := hl.grow gW;clear hd hF hb hl h0 h1;go_enter Tryz.func80, Tryz.ntmps80;go_wp2_with fail;refine (Zwa d a _ _ _ hbW hlW hm2 hb16 hl16).mono ?_;rw [HE.out];rintro e w1 ⟨v1, rfl, ho, g1⟩;have hv : Bytes w1 v1 (Yp d a) := Qk ho;obtain ⟨a1, c1, rfl⟩ := Yc ho;have hz1 := (g1.block _ (Za hz)).trans hz;have gw1 := gW.trans g1;have hsz1 : w.heap.size + 1 < w1.heap.size := Za hz1;clear ho g1 gW hz hbW hlW hb16 hl16 hm2 HE;go_wp2_with fail;refine (Zsp (Yp d a) a _ _ hv).mono ?_;rw [← HR.out, ← HX.out];rintro e w2 ⟨dv, rfl, ho2, g2⟩;have hz2 := (g2.block _ (Za hz1)).trans hz1;have gw2 := gw1.trans g2;obtain ⟨a2, c2, rfl⟩ := Yc ho2;obtain ⟨hp1, hp2⟩ := Yd hz2 (.int .i64 r.kind) (.int .i64 r.key) (.int .i64 r.ver) (.slice a2 r.data.length c2);have gE := hp2.grow gw2 (by omega);have hoE := Yk (Kj hp2 (by omega) ho2) (base' := w.heap.size) (by omega);obtain ⟨y0, y1, y2, y3⟩ := Z4 hz2 rfl rfl rfl rfl;obtain ⟨f0, f1, f2, f3⟩ := Yr hz2;have cs := Zr;clear hp1 hp2 hz1 hz2 gw1 gw2 g2 ho2 hv hsz1;go_wp2_with fail;exact bodyPost_ret (v := .tuple #[.agg #[.int .i64 r.kind, .int .i64 r.key, .int .i64 r.ver, .slice a2 r.data.length c2], .int .i64 E]) (by simp [results, Tryz.results80, go_sem, y0, y1, y2, y3, cs]) rfl ⟨_, rfl, hoE, gE⟩
variable {B : Nat} {r : Rec} {rs : List Rec} {us : List Value} {v : Value} {w w' : World}
def Kz : List Rec → List Value → List Value
 | r :: rs, u :: us => .int .i64 r.kind :: .int .i64 r.key :: .int .i64 r.ver :: u :: Kz rs us
 | _, _ => []
theorem Zib : ∀ (rs : List Rec) (us : List Value) (r : Rec) (u : Value), us.length = rs.length → Kz (rs ++ [r]) (us ++ [u]) = Kz rs us ++ [.int .i64 r.kind, .int .i64 r.key, .int .i64 r.ver, u]
 | [], [], r, u, _ => by simp [Kz]
 | [], _ :: _, r, u, h => by simp at h
 | _ :: _, [], r, u, h => by simp at h
 | x :: rs, y :: us, r, u, h => by simp [Kz, Zib rs us r u (by simpa using h)]
structure Vm (B : Nat) (v : Value) (rs : List Rec) (us : List Value) (w : World) : Prop where
 len : us.length = rs.length
 row : w.ownsRow B 61 4 v rs.length (Kz rs us)
 each : ∀ i (hi : i < rs.length), ∃ u, us[i]? = some u ∧ w.ownsRow B 5 1 u rs[i].data.length (rs[i].data.map bv)
theorem Vm.grow (h : Vm B v rs us w) (hg : Zn w w') : Vm B v rs us w' :=
 ⟨h.len, Yb h.row hg, fun i hi => (h.each i hi).imp fun _ hu => ⟨hu.1, Yb hu.2 hg⟩⟩
theorem Vm.other {q : Nat} (h : Vm B v rs us w) (hg : Zo q w w') (hq : q < B) : Vm B v rs us w' := by
 have key : ∀ {e : TypeId} {sz n : Nat} {v : Value} {xs : List Value}, w.ownsRow B e sz v n xs → w'.ownsRow B e sz v n xs := fun h => by
  refine ⟨h.1, Xq h.2 (fun x => x) fun ⟨g, cap, cur, h1, h2, h3, r⟩ => ⟨g, cap, cur, h1, h2, ?_, r⟩⟩;rw [hg.block _ (Za h3) (by omega)]; exact h3
 exact ⟨h.len, key h.row, fun i hi => (h.each i hi).imp fun _ hu => ⟨hu.1, key hu.2⟩⟩
theorem Vm.nil (B : Nat) (w : World) : Vm B (.slice none 0 0) [] [] w := ⟨rfl, World.ownsRow_nil _ _ _ _, fun i hi => by simp at hi⟩
theorem Vm.form (h : Vm B v rs us w) : ∃ ao cap, v = .slice ao rs.length cap := Y4 h.row
theorem Vm.snoc {u : Value} (hl : us.length = rs.length) (hr : w.ownsRow B 61 4 v (rs.length + 1) (Kz rs us ++ [.int .i64 r.kind, .int .i64 r.key, .int .i64 r.ver, u]))
  (he : ∀ i (hi : i < rs.length), ∃ u, us[i]? = some u ∧ w.ownsRow B 5 1 u rs[i].data.length (rs[i].data.map bv)) (hu : w.ownsRow B 5 1 u r.data.length (r.data.map bv)) : Vm B v (rs ++ [r]) (us ++ [u]) w := by
 refine ⟨by simp [hl], ?_, fun i hi => ?_⟩
 ·rw [Zib rs us r u hl]; simpa using hr
 ·by_cases hi2 : i < rs.length
  ·obtain ⟨y, h1, h2⟩ := he i hi2;refine ⟨y, by rw [List.getElem?_append_left (by omega)]; exact h1, ?_⟩;rw [List.getElem_append_left hi2]; exact h2
  ·have e : i = rs.length := by simp at hi; omega
   subst e;exact ⟨u, by rw [← hl]; simp, by simpa using hu⟩
theorem Ztt : (Tryz.prog.info? 61).map (fun i => (i.zero, i.size, i.bytes)) = some (some (.agg #[.int .i64 0, .int .i64 0, .int .i64 0, .slice none 0 0]), 4, 48) := by kernel_rfl
theorem Zqd (w : World) (x y z u : Value) (e : TypeId) (j : Nat) (c : Value) (h : [x, y, z, u][j]? = some c) : (w.alloc (.cells #[x, y, z, u] e)).cell? ((⟨w.heap.size, 0, none⟩ : Addr).add j) = some c := by
 match j, h with
 | 0, h => simp at h; subst h; simp [Addr.add]
 | 1, h => simp at h; subst h; simp [Addr.add]
 | 2, h => simp at h; subst h; simp [Addr.add]
 | 3, h => simp at h; subst h; simp [Addr.add]
 | j + 4, h => simp at h
theorem Vm.first (h : Vm B v (r :: rs) us w) : ∃ g cap ao c, v = .slice (some ⟨g, 0, none⟩) (rs.length + 1) cap ∧ w.cell? ⟨g, 0, none⟩ = some (.int .i64 r.kind) ∧ w.cell? ⟨g, 1, none⟩ = some (.int .i64 r.key) ∧ w.cell? ⟨g, 2, none⟩ = some (.int .i64 r.ver) ∧ w.cell? ⟨g, 3, none⟩ = some (.slice ao r.data.length c) ∧ us[0]? = some (.slice ao r.data.length c) := by
 obtain ⟨u, hu, ho⟩ := h.each 0 (by simp);obtain ⟨ao, c, rfl⟩ := Yc ho;cases us with
 | nil => simp at hu
 | cons u us =>
  simp only [List.getElem?_cons_zero, Option.some.injEq] at hu;subst hu;rcases h.row.2 with ⟨_, h0⟩ | ⟨g, cap, cur, rfl, _, hh, h1, _⟩
  ·simp at h0
  ·simp only [List.length_cons] at h1;have c0 := h.row.cellAt 0 (by simp only [List.length_cons]; omega);have c1 := h.row.cellAt 1 (by simp only [List.length_cons]; omega);have c2 := h.row.cellAt 2 (by simp only [List.length_cons]; omega);have c3 := h.row.cellAt 3 (by simp only [List.length_cons]; omega);exact ⟨g, cap, ao, c, rfl, by simpa [Kz] using c0, by simpa [Kz] using c1, by simpa [Kz] using c2, by simpa [Kz] using c3, rfl⟩
theorem Vm.second {g cap n : Nat} {q : Rec} (h : Vm B (.slice (some ⟨g, 0, none⟩) n cap) (r :: q :: rs) us w) : ∃ ao c, w.cell? ⟨g, 4, none⟩ = some (.int .i64 q.kind) ∧ w.cell? ⟨g, 5, none⟩ = some (.int .i64 q.key) ∧ w.cell? ⟨g, 6, none⟩ = some (.int .i64 q.ver) ∧ w.cell? ⟨g, 7, none⟩ = some (.slice ao q.data.length c) ∧ us[1]? = some (.slice ao q.data.length c) := by
 obtain ⟨u, hu, ho⟩ := h.each 1 (by simp);obtain ⟨ao, c, hu2⟩ := Yc ho;have hu3 : u = .slice ao q.data.length c := hu2;subst hu3
 match us, hu with
 | [], hu => simp at hu
 | [_], hu => simp at hu
 | u0 :: u1 :: us, hu =>
  simp only [List.getElem?_cons_succ, List.getElem?_cons_zero, Option.some.injEq] at hu;subst hu;have hr := h.row;rcases hr.2 with ⟨_, h0⟩ | ⟨g', cap', cur, hv, _, hh, h1, _⟩
  ·simp at h0
  ·cases hv;simp only [List.length_cons] at h1;have c4 := hr.cellAt 4 (by simp only [List.length_cons]; omega);have c5 := hr.cellAt 5 (by simp only [List.length_cons]; omega);have c6 := hr.cellAt 6 (by simp only [List.length_cons]; omega);have c7 := hr.cellAt 7 (by simp only [List.length_cons]; omega);exact ⟨ao, c, by simpa [Kz] using c4, by simpa [Kz] using c5, by simpa [Kz] using c6, by simpa [Kz] using c7, rfl⟩
def Zgn (rs : List Rec) (s : Int) : Int :=
 match rs with
 | [] => if s = 0 then 0 else if s = 1 then 3 else 4
 | [_] => 2
 | r0 :: r1 :: _ => if Q6 r0 r1 = true then 1 else 5
theorem Zp3 (s : Int) (ao : Option Addr) (cap : Nat) (w : World) :
  Calls Tryz.prog 81 #[.slice ao 0 cap, .int .i64 s] w fun e w' => e = .returned (.int .i64 (Zgn [] s)) ∧ Zn w w' := by
 by_cases h0 : s = 0
 ·subst h0;go_enter Tryz.func81, Tryz.ntmps81;go_wp2_with fail;refine Yh [ex (.slice ao 0 cap), ex (.int .i64 0), ex (.bool false), ex (.bool false), ex (undef), ex (undef), ex (undef), ex (undef), ex (undef), ex (undef), ex (undef), ex (.bool false), ex (.bool false)] (by kernel_rfl) (by kernel_rfl) ⟨Zm _, Zm _, Zm _, Zm _, Zm _, Zm _, Zm _, Zm _, Zm _, Zm _, Zm _, Zm _, Zm _, trivial⟩ ?_ ?_
  ·refine ⟨?_, ?_, ?_, ?_, ?_, ?_, ?_, ?_, ?_, ?_, ?_, ?_, ?_, trivial⟩
   ·exact Zf rfl fun a _ _ _ _ A => Zy rfl (Z2 A 0 rfl)
   ·refine Zf rfl fun a _ _ _ B A => ?_;have e6 : a (.tmp 6) = _ := Zj A 0 rfl;refine Zq ?_ rfl;clear A B;go_simp;all_goals go_arith
   ·refine Zf rfl fun a _ _ _ B A => ?_;have e7 : a (.tmp 7) = _ := Zj A 1 rfl;refine Zq ?_ rfl;clear A B;go_simp;all_goals go_arith
   ·exact Zf rfl fun a _ _ _ _ A => Zy rfl (Zj A 2 rfl)
   ·refine Zz 3 true rfl rfl rfl (fun _ => rfl)
   ·refine Zz 3 true rfl rfl rfl (fun _ => rfl)
   ·refine Zz 3 true rfl rfl rfl (fun _ => rfl)
   ·refine Zz 3 true rfl rfl rfl (fun _ => rfl)
   ·refine Zz 3 true rfl rfl rfl (fun _ => rfl)
   ·refine Zz 3 true rfl rfl rfl (fun _ => rfl)
   ·refine Zz 3 true rfl rfl rfl (fun _ => rfl)
   ·refine Zf rfl fun a _ B _ _ A => ?_;have ec : a (.tmp 9) = _ := Zj A 3 rfl;exact Xx rfl ec (B _)
   ·exact Zf rfl fun a _ _ _ _ A => Yy rfl (Zj A 11 rfl)
  ·intro vs w' hg ht;obtain ⟨(r6 : vs 0 = _), (r7 : vs 1 = _), (r8 : vs 2 = _), (r9 : vs 3 = _), (r10 : vs 4 = _), (r11 : vs 5 = _), (r12 : vs 6 = _), (r13 : vs 7 = _), (r14 : vs 8 = _), (r15 : vs 9 = _), (r16 : vs 10 = _), (r17 : vs 11 = _), (r5 : vs 12 = _), -⟩ := ht;simp only [Yi, Act.put, List.setIfInBounds_toArray, List.set_cons_zero, List.set_cons_succ, r6, r7, r8, r9, r10, r11, r12, r13, r14, r15, r16, r17, r5];clear r6 r7 r8 r9 r10 r11 r12 r13 r14 r15 r16 r17 r5;go_wp2_with fail;go_ret;exact ⟨rfl, hg⟩
 ·by_cases h1 : s = 1
  ·subst h1;clear h0;go_enter Tryz.func81, Tryz.ntmps81;go_wp2_with fail;refine Yh [ex (.slice ao 0 cap), ex (.int .i64 0), ex (.bool false), ex (.bool false), ex (undef), ex (undef), ex (undef), ex (undef), ex (undef), ex (undef), ex (undef), ex (.bool false), ex (.bool false)] (by kernel_rfl) (by kernel_rfl) ⟨Zm _, Zm _, Zm _, Zm _, Zm _, Zm _, Zm _, Zm _, Zm _, Zm _, Zm _, Zm _, Zm _, trivial⟩ ?_ ?_
   ·refine ⟨?_, ?_, ?_, ?_, ?_, ?_, ?_, ?_, ?_, ?_, ?_, ?_, ?_, trivial⟩
    ·exact Zf rfl fun a _ _ _ _ A => Zy rfl (Z2 A 0 rfl)
    ·refine Zf rfl fun a _ _ _ B A => ?_;have e6 : a (.tmp 6) = _ := Zj A 0 rfl;refine Zq ?_ rfl;clear A B;go_simp;all_goals go_arith
    ·refine Zf rfl fun a _ _ _ B A => ?_;have e7 : a (.tmp 7) = _ := Zj A 1 rfl;refine Zq ?_ rfl;clear A B;go_simp;all_goals go_arith
    ·exact Zf rfl fun a _ _ _ _ A => Zy rfl (Zj A 2 rfl)
    ·refine Zz 3 true rfl rfl rfl (fun _ => rfl)
    ·refine Zz 3 true rfl rfl rfl (fun _ => rfl)
    ·refine Zz 3 true rfl rfl rfl (fun _ => rfl)
    ·refine Zz 3 true rfl rfl rfl (fun _ => rfl)
    ·refine Zz 3 true rfl rfl rfl (fun _ => rfl)
    ·refine Zz 3 true rfl rfl rfl (fun _ => rfl)
    ·refine Zz 3 true rfl rfl rfl (fun _ => rfl)
    ·refine Zf rfl fun a _ B _ _ A => ?_;have ec : a (.tmp 9) = _ := Zj A 3 rfl;exact Xx rfl ec (B _)
    ·exact Zf rfl fun a _ _ _ _ A => Yy rfl (Zj A 11 rfl)
   ·intro vs w' hg ht;obtain ⟨(r6 : vs 0 = _), (r7 : vs 1 = _), (r8 : vs 2 = _), (r9 : vs 3 = _), (r10 : vs 4 = _), (r11 : vs 5 = _), (r12 : vs 6 = _), (r13 : vs 7 = _), (r14 : vs 8 = _), (r15 : vs 9 = _), (r16 : vs 10 = _), (r17 : vs 11 = _), (r5 : vs 12 = _), -⟩ := ht;simp only [Yi, Act.put, List.setIfInBounds_toArray, List.set_cons_zero, List.set_cons_succ, r6, r7, r8, r9, r10, r11, r12, r13, r14, r15, r16, r17, r5];clear r6 r7 r8 r9 r10 r11 r12 r13 r14 r15 r16 r17 r5;go_wp2_with fail;go_ret;exact ⟨rfl, hg⟩
  ·have HN : Hid (Zgn [] s = 4) := by show Zgn [] s = 4; unfold Zgn; rw [if_neg h0, if_neg h1]
   rw [HN.out];have d0 : (s == 0) = false := Vg h0;have d1 : (s == 1) = false := Vg h1;clear h0 h1;go_enter Tryz.func81, Tryz.ntmps81;go_wp2_with fail;refine Yh [ex (.slice ao 0 cap), ex (.int .i64 0), ex (.bool false), ex (.bool false), ex (undef), ex (undef), ex (undef), ex (undef), ex (undef), ex (undef), ex (undef), ex (.bool false), ex (.bool false)] (by kernel_rfl) (by kernel_rfl) ⟨Zm _, Zm _, Zm _, Zm _, Zm _, Zm _, Zm _, Zm _, Zm _, Zm _, Zm _, Zm _, Zm _, trivial⟩ ?_ ?_
   ·refine ⟨?_, ?_, ?_, ?_, ?_, ?_, ?_, ?_, ?_, ?_, ?_, ?_, ?_, trivial⟩
    ·exact Zf rfl fun a _ _ _ _ A => Zy rfl (Z2 A 0 rfl)
    ·refine Zf rfl fun a _ _ _ B A => ?_;have e6 : a (.tmp 6) = _ := Zj A 0 rfl;refine Zq ?_ rfl;clear A B;go_simp;all_goals go_arith
    ·refine Zf rfl fun a _ _ _ B A => ?_;have e7 : a (.tmp 7) = _ := Zj A 1 rfl;refine Zq ?_ rfl;clear A B;go_simp;all_goals go_arith
    ·exact Zf rfl fun a _ _ _ _ A => Zy rfl (Zj A 2 rfl)
    ·refine Zz 3 true rfl rfl rfl (fun _ => rfl)
    ·refine Zz 3 true rfl rfl rfl (fun _ => rfl)
    ·refine Zz 3 true rfl rfl rfl (fun _ => rfl)
    ·refine Zz 3 true rfl rfl rfl (fun _ => rfl)
    ·refine Zz 3 true rfl rfl rfl (fun _ => rfl)
    ·refine Zz 3 true rfl rfl rfl (fun _ => rfl)
    ·refine Zz 3 true rfl rfl rfl (fun _ => rfl)
    ·refine Zf rfl fun a _ B _ _ A => ?_;have ec : a (.tmp 9) = _ := Zj A 3 rfl;exact Xx rfl ec (B _)
    ·exact Zf rfl fun a _ _ _ _ A => Yy rfl (Zj A 11 rfl)
   ·intro vs w' hg ht;obtain ⟨(r6 : vs 0 = _), (r7 : vs 1 = _), (r8 : vs 2 = _), (r9 : vs 3 = _), (r10 : vs 4 = _), (r11 : vs 5 = _), (r12 : vs 6 = _), (r13 : vs 7 = _), (r14 : vs 8 = _), (r15 : vs 9 = _), (r16 : vs 10 = _), (r17 : vs 11 = _), (r5 : vs 12 = _), -⟩ := ht;simp only [Yi, Act.put, List.setIfInBounds_toArray, List.set_cons_zero, List.set_cons_succ, r6, r7, r8, r9, r10, r11, r12, r13, r14, r15, r16, r17, r5];clear r6 r7 r8 r9 r10 r11 r12 r13 r14 r15 r16 r17 r5;go_wp2_with fail;go_ret;exact ⟨rfl, hg⟩
theorem Zsy (s : Int) (ao : Option Addr) (cap : Nat) (w : World) :
  Calls Tryz.prog 81 #[.slice ao 1 cap, .int .i64 s] w fun e w' => e = .returned (.int .i64 2) ∧ Zn w w' := by
 go_enter Tryz.func81, Tryz.ntmps81;go_wp2_with fail;refine Yh [ex (.slice ao 1 cap), ex (.int .i64 1), ex (.bool false), ex (.bool false), ex (undef), ex (undef), ex (undef), ex (undef), ex (undef), ex (undef), ex (undef), ex (.bool false), ex (.bool false)] (by kernel_rfl) (by kernel_rfl) ⟨Zm _, Zm _, Zm _, Zm _, Zm _, Zm _, Zm _, Zm _, Zm _, Zm _, Zm _, Zm _, Zm _, trivial⟩ ?_ ?_
 ·refine ⟨?_, ?_, ?_, ?_, ?_, ?_, ?_, ?_, ?_, ?_, ?_, ?_, ?_, trivial⟩
  ·exact Zf rfl fun a _ _ _ _ A => Zy rfl (Z2 A 0 rfl)
  ·refine Zf rfl fun a _ _ _ B A => ?_;have e6 : a (.tmp 6) = _ := Zj A 0 rfl;refine Zq ?_ rfl;clear A B;go_simp;all_goals go_arith
  ·refine Zf rfl fun a _ _ _ B A => ?_;have e7 : a (.tmp 7) = _ := Zj A 1 rfl;refine Zq ?_ rfl;clear A B;go_simp;all_goals go_arith
  ·exact Zf rfl fun a _ _ _ _ A => Zy rfl (Zj A 2 rfl)
  ·refine Zz 3 true rfl rfl rfl (fun _ => rfl)
  ·refine Zz 3 true rfl rfl rfl (fun _ => rfl)
  ·refine Zz 3 true rfl rfl rfl (fun _ => rfl)
  ·refine Zz 3 true rfl rfl rfl (fun _ => rfl)
  ·refine Zz 3 true rfl rfl rfl (fun _ => rfl)
  ·refine Zz 3 true rfl rfl rfl (fun _ => rfl)
  ·refine Zz 3 true rfl rfl rfl (fun _ => rfl)
  ·refine Zf rfl fun a _ B _ _ A => ?_;have ec : a (.tmp 9) = _ := Zj A 3 rfl;exact Xx rfl ec (B _)
  ·exact Zf rfl fun a _ _ _ _ A => Yy rfl (Zj A 11 rfl)
 ·intro vs w' hg ht;obtain ⟨(r6 : vs 0 = _), (r7 : vs 1 = _), (r8 : vs 2 = _), (r9 : vs 3 = _), (r10 : vs 4 = _), (r11 : vs 5 = _), (r12 : vs 6 = _), (r13 : vs 7 = _), (r14 : vs 8 = _), (r15 : vs 9 = _), (r16 : vs 10 = _), (r17 : vs 11 = _), (r5 : vs 12 = _), -⟩ := ht;simp only [Yi, Act.put, List.setIfInBounds_toArray, List.set_cons_zero, List.set_cons_succ, r6, r7, r8, r9, r10, r11, r12, r13, r14, r15, r16, r17, r5];clear r6 r7 r8 r9 r10 r11 r12 r13 r14 r15 r16 r17 r5;go_wp2_with fail;go_ret;exact ⟨rfl, hg⟩
theorem Zsx (r q : Rec) (s : Int) (g cap c c' : Nat) (ao bo : Option Addr) (w : World) (hr : Bytes w (.slice ao r.data.length c) r.data) (hq : Bytes w (.slice bo q.data.length c') q.data)
  (c0 : w.cell? ⟨g, 0, none⟩ = some (.int .i64 r.kind)) (c1 : w.cell? ⟨g, 1, none⟩ = some (.int .i64 r.key)) (c2 : w.cell? ⟨g, 2, none⟩ = some (.int .i64 r.ver)) (c3 : w.cell? ⟨g, 3, none⟩ = some (.slice ao r.data.length c))
  (c4 : w.cell? ⟨g, 4, none⟩ = some (.int .i64 q.kind)) (c5 : w.cell? ⟨g, 5, none⟩ = some (.int .i64 q.key)) (c6 : w.cell? ⟨g, 6, none⟩ = some (.int .i64 q.ver)) (c7 : w.cell? ⟨g, 7, none⟩ = some (.slice bo q.data.length c')) :
  Calls Tryz.prog 81 #[.slice (some ⟨g, 0, none⟩) 2 cap, .int .i64 s] w fun e w' => e = .returned (.int .i64 (if Q6 r q = true then 1 else 5)) ∧ Zn w w' := by
 have hlt := Zv c0;have cell : ∀ {w' : World} (j : Nat), Zn w w' → w'.cell? ⟨g, j, none⟩ = w.cell? ⟨g, j, none⟩ := fun j hg => Below.cell hg (p := ⟨g, j, none⟩) hlt
 cases hs : Q6 r q with
 | true =>
  have HS : Hid (Q6 r q = true) := hs;clear hs;go_enter Tryz.func81, Tryz.ntmps81;go_wp2_with fail;refine Yh [ex (.slice (some ⟨g, 0, none⟩) 2 cap), ex (.int .i64 2), ex (.bool true), ex (.bool true), ex (.slice (some ⟨g, 0, none⟩) 2 cap), ex (.pointer (some ⟨g, 0, none⟩)), ex (.agg #[.int .i64 r.kind, .int .i64 r.key, .int .i64 r.ver, .slice ao r.data.length c]), ex (.slice (some ⟨g, 0, none⟩) 2 cap), ex (.pointer (some ⟨g, 4, none⟩)), ex (.agg #[.int .i64 q.kind, .int .i64 q.key, .int .i64 q.ver, .slice bo q.data.length c']), ex (.bool true), ex (.bool true), ex (.bool true)] (by kernel_rfl) (by kernel_rfl) ⟨Zm _, Zm _, Zm _, Zm _, Zm _, Zm _, Zm _, Zm _, Zm _, Zm _, Zm _, Zm _, Zm _, trivial⟩ ?_ ?_
  ·refine ⟨?_, ?_, ?_, ?_, ?_, ?_, ?_, ?_, ?_, ?_, ?_, ?_, ?_, trivial⟩
   ·exact Zf rfl fun a _ _ _ _ A => Zy rfl (Z2 A 0 rfl)
   ·refine Zf rfl fun a _ _ _ B A => ?_;have e6 : a (.tmp 6) = _ := Zj A 0 rfl;refine Zq ?_ rfl;clear A B;go_simp;all_goals go_arith
   ·refine Zf rfl fun a _ _ _ B A => ?_;have e7 : a (.tmp 7) = _ := Zj A 1 rfl;refine Zq ?_ rfl;clear A B;go_simp;all_goals go_arith
   ·exact Zf rfl fun a _ _ _ _ A => Zy rfl (Zj A 2 rfl)
   ·exact Zu 3 true rfl rfl rfl fun a _ _ _ _ A => Zy rfl (Z2 A 0 rfl)
   ·refine Zu 3 true rfl rfl rfl fun a _ _ _ B A => ?_;have e10 : a (.tmp 10) = _ := Zj A 4 rfl;refine Zq ?_ rfl;clear A B;go_simp;all_goals go_arith
   ·refine Zu 3 true rfl rfl rfl fun a _ _ _ B A => ?_;have e11 : a (.tmp 11) = _ := Zj A 5 rfl;have z0 := (cell 0 B).trans c0;have z1 := (cell 1 B).trans c1;have z2 := (cell 2 B).trans c2;have z3 := (cell 3 B).trans c3;refine Zq ?_ rfl;clear A B cell c0 c1 c2 c3 c4 c5 c6 c7;go_simp;all_goals go_arith
   ·exact Zu 3 true rfl rfl rfl fun a _ _ _ _ A => Zy rfl (Z2 A 0 rfl)
   ·refine Zu 3 true rfl rfl rfl fun a _ _ _ B A => ?_;have e13 : a (.tmp 13) = _ := Zj A 7 rfl;refine Zq ?_ rfl;clear A B;go_simp;all_goals go_arith
   ·refine Zu 3 true rfl rfl rfl fun a _ _ _ B A => ?_;have e14 : a (.tmp 14) = _ := Zj A 8 rfl;have z0 := (cell 4 B).trans c4;have z1 := (cell 5 B).trans c5;have z2 := (cell 6 B).trans c6;have z3 := (cell 7 B).trans c7;refine Zq ?_ rfl;clear A B cell c0 c1 c2 c3 c4 c5 c6 c7;go_simp;all_goals go_arith
   ·refine Zu 3 true rfl rfl rfl fun a B _ _ C A => ?_;have e12 : a (.tmp 12) = _ := Zj A 6 rfl;have e15 : a (.tmp 15) = _ := Zj A 9 rfl;refine Xa (f := 117) (args := #[.agg #[.int .i64 r.kind, .int .i64 r.key, .int .i64 r.ver, .slice ao r.data.length c], .agg #[.int .i64 q.kind, .int .i64 q.key, .int .i64 q.ver, .slice bo q.data.length c']]) ?_ ((Zjy _ _ _ _ _ _ r.data q.data _ _ B (Z1 hr C) (Z1 hq C)).mono ?_)
    ·clear A C cell c0 c1 c2 c3 c4 c5 c6 c7;go_simp;all_goals go_arith
    ·rintro e w2 ⟨rfl, g2⟩;exact ⟨_, rfl, g2, by rw [← HS.out]; rfl⟩
   ·refine Zf rfl fun a _ _ _ _ A => ?_;have ec : a (.tmp 9) = _ := Zj A 3 rfl;have e : a (.tmp 16) = _ := Zj A 10 rfl;exact Xx rfl ec e
   ·exact Zf rfl fun a _ _ _ _ A => Yy rfl (Zj A 11 rfl)
  ·intro vs w' hg ht;obtain ⟨(r6 : vs 0 = _), (r7 : vs 1 = _), (r8 : vs 2 = _), (r9 : vs 3 = _), (r10 : vs 4 = _), (r11 : vs 5 = _), (r12 : vs 6 = _), (r13 : vs 7 = _), (r14 : vs 8 = _), (r15 : vs 9 = _), (r16 : vs 10 = _), (r17 : vs 11 = _), (r5 : vs 12 = _), -⟩ := ht;simp only [Yi, Act.put, List.setIfInBounds_toArray, List.set_cons_zero, List.set_cons_succ, r6, r7, r8, r9, r10, r11, r12, r13, r14, r15, r16, r17, r5];clear r6 r7 r8 r9 r10 r11 r12 r13 r14 r15 r16 r17 r5;clear cell c0 c1 c2 c3 c4 c5 c6 c7;go_wp2_with fail;go_ret;exact ⟨rfl, hg⟩
 | false =>
  have HS : Hid (Q6 r q = false) := hs;clear hs;go_enter Tryz.func81, Tryz.ntmps81;go_wp2_with fail;refine Yh [ex (.slice (some ⟨g, 0, none⟩) 2 cap), ex (.int .i64 2), ex (.bool true), ex (.bool true), ex (.slice (some ⟨g, 0, none⟩) 2 cap), ex (.pointer (some ⟨g, 0, none⟩)), ex (.agg #[.int .i64 r.kind, .int .i64 r.key, .int .i64 r.ver, .slice ao r.data.length c]), ex (.slice (some ⟨g, 0, none⟩) 2 cap), ex (.pointer (some ⟨g, 4, none⟩)), ex (.agg #[.int .i64 q.kind, .int .i64 q.key, .int .i64 q.ver, .slice bo q.data.length c']), ex (.bool false), ex (.bool false), ex (.bool false)] (by kernel_rfl) (by kernel_rfl) ⟨Zm _, Zm _, Zm _, Zm _, Zm _, Zm _, Zm _, Zm _, Zm _, Zm _, Zm _, Zm _, Zm _, trivial⟩ ?_ ?_
  ·refine ⟨?_, ?_, ?_, ?_, ?_, ?_, ?_, ?_, ?_, ?_, ?_, ?_, ?_, trivial⟩
   ·exact Zf rfl fun a _ _ _ _ A => Zy rfl (Z2 A 0 rfl)
   ·refine Zf rfl fun a _ _ _ B A => ?_;have e6 : a (.tmp 6) = _ := Zj A 0 rfl;refine Zq ?_ rfl;clear A B;go_simp;all_goals go_arith
   ·refine Zf rfl fun a _ _ _ B A => ?_;have e7 : a (.tmp 7) = _ := Zj A 1 rfl;refine Zq ?_ rfl;clear A B;go_simp;all_goals go_arith
   ·exact Zf rfl fun a _ _ _ _ A => Zy rfl (Zj A 2 rfl)
   ·exact Zu 3 true rfl rfl rfl fun a _ _ _ _ A => Zy rfl (Z2 A 0 rfl)
   ·refine Zu 3 true rfl rfl rfl fun a _ _ _ B A => ?_;have e10 : a (.tmp 10) = _ := Zj A 4 rfl;refine Zq ?_ rfl;clear A B;go_simp;all_goals go_arith
   ·refine Zu 3 true rfl rfl rfl fun a _ _ _ B A => ?_;have e11 : a (.tmp 11) = _ := Zj A 5 rfl;have z0 := (cell 0 B).trans c0;have z1 := (cell 1 B).trans c1;have z2 := (cell 2 B).trans c2;have z3 := (cell 3 B).trans c3;refine Zq ?_ rfl;clear A B cell c0 c1 c2 c3 c4 c5 c6 c7;go_simp;all_goals go_arith
   ·exact Zu 3 true rfl rfl rfl fun a _ _ _ _ A => Zy rfl (Z2 A 0 rfl)
   ·refine Zu 3 true rfl rfl rfl fun a _ _ _ B A => ?_;have e13 : a (.tmp 13) = _ := Zj A 7 rfl;refine Zq ?_ rfl;clear A B;go_simp;all_goals go_arith
   ·refine Zu 3 true rfl rfl rfl fun a _ _ _ B A => ?_;have e14 : a (.tmp 14) = _ := Zj A 8 rfl;have z0 := (cell 4 B).trans c4;have z1 := (cell 5 B).trans c5;have z2 := (cell 6 B).trans c6;have z3 := (cell 7 B).trans c7;refine Zq ?_ rfl;clear A B cell c0 c1 c2 c3 c4 c5 c6 c7;go_simp;all_goals go_arith
   ·refine Zu 3 true rfl rfl rfl fun a B _ _ C A => ?_;have e12 : a (.tmp 12) = _ := Zj A 6 rfl;have e15 : a (.tmp 15) = _ := Zj A 9 rfl;refine Xa (f := 117) (args := #[.agg #[.int .i64 r.kind, .int .i64 r.key, .int .i64 r.ver, .slice ao r.data.length c], .agg #[.int .i64 q.kind, .int .i64 q.key, .int .i64 q.ver, .slice bo q.data.length c']]) ?_ ((Zjy _ _ _ _ _ _ r.data q.data _ _ B (Z1 hr C) (Z1 hq C)).mono ?_)
    ·clear A C cell c0 c1 c2 c3 c4 c5 c6 c7;go_simp;all_goals go_arith
    ·rintro e w2 ⟨rfl, g2⟩;exact ⟨_, rfl, g2, by rw [← HS.out]; rfl⟩
   ·refine Zf rfl fun a _ _ _ _ A => ?_;have ec : a (.tmp 9) = _ := Zj A 3 rfl;have e : a (.tmp 16) = _ := Zj A 10 rfl;exact Xx rfl ec e
   ·exact Zf rfl fun a _ _ _ _ A => Yy rfl (Zj A 11 rfl)
  ·intro vs w' hg ht;obtain ⟨(r6 : vs 0 = _), (r7 : vs 1 = _), (r8 : vs 2 = _), (r9 : vs 3 = _), (r10 : vs 4 = _), (r11 : vs 5 = _), (r12 : vs 6 = _), (r13 : vs 7 = _), (r14 : vs 8 = _), (r15 : vs 9 = _), (r16 : vs 10 = _), (r17 : vs 11 = _), (r5 : vs 12 = _), -⟩ := ht;simp only [Yi, Act.put, List.setIfInBounds_toArray, List.set_cons_zero, List.set_cons_succ, r6, r7, r8, r9, r10, r11, r12, r13, r14, r15, r16, r17, r5];clear r6 r7 r8 r9 r10 r11 r12 r13 r14 r15 r16 r17 r5;clear cell c0 c1 c2 c3 c4 c5 c6 c7;go_wp2_with fail;go_ret;exact ⟨rfl, hg⟩
theorem Zsz (rs : List Rec) (us : List Value) (s : Int) (B : Nat) (v : Value) (w : World) (h : Vm B v rs us w) (hl : rs.length ≤ 2) :
  Calls Tryz.prog 81 #[v, .int .i64 s] w fun e w' => e = .returned (.int .i64 (Zgn rs s)) ∧ Zn w w' := by
 match rs, h, hl with
 | [], h, _ =>
  obtain ⟨ao, cap, rfl⟩ := h.form;exact Zp3 s ao cap w
 | [r], h, _ =>
  obtain ⟨ao, cap, rfl⟩ := h.form;exact Zsy s ao cap w
 | [r, q], h, _ =>
  obtain ⟨g, cap, ao, c, rfl, c0, c1, c2, c3, hu⟩ := h.first;obtain ⟨bo, c', c4, c5, c6, c7, hu'⟩ := h.second;obtain ⟨x, hx, hox⟩ := h.each 0 (by simp);obtain ⟨y, hy, hoy⟩ := h.each 1 (by simp);rw [hu] at hx;rw [hu'] at hy;cases hx;cases hy;exact Zsx r q s g cap c c' ao bo w (Qk hox) (Qk hoy) c0 c1 c2 c3 c4 c5 c6 c7
 | _ :: _ :: _ :: _, _, hl => exact absurd hl (by simp)
theorem Zkl (ao : Option Addr) (cap : Nat) (w : World) :
  Calls Tryz.prog 82 #[.slice ao 0 cap] w fun e w' => e = .returned (.agg #[.int .i64 1, .int .i64 0, .int .i64 0, .slice none 0 0]) ∧ Zn w w' := by
 have g1 := Zb w (.cells #[.int .i64 1, .int .i64 0, .int .i64 0, .slice none 0 0] 61);go_enter Tryz.func82, Tryz.ntmps82;go_wp2_with fail;refine bodyPost_ret (v := .agg #[.int .i64 1, .int .i64 0, .int .i64 0, .slice none 0 0]) (by simp [results, Tryz.results82, go_sem]) rfl ⟨rfl, ?_⟩;exact g1
theorem Zkk (r : Rec) (g n cap c : Nat) (ao : Option Addr) (w : World) (hn : 0 < n)
  (c0 : w.cell? ⟨g, 0, none⟩ = some (.int .i64 r.kind)) (c1 : w.cell? ⟨g, 1, none⟩ = some (.int .i64 r.key)) (c2 : w.cell? ⟨g, 2, none⟩ = some (.int .i64 r.ver)) (c3 : w.cell? ⟨g, 3, none⟩ = some (.slice ao r.data.length c)) :
  Calls Tryz.prog 82 #[.slice (some ⟨g, 0, none⟩) n cap] w fun e w' => e = .returned (.agg #[.int .i64 r.kind, .int .i64 r.key, .int .i64 r.ver, .slice ao r.data.length c]) ∧ Zn w w' := by
 have hlt := Zv c0;have g0 := Zb w (.cells #[.int .i64 0, .int .i64 0, .int .i64 0, .slice none 0 0] 61);have z0 := (Below.cell g0 (p := ⟨g, 0, none⟩) hlt).trans c0;have z1 := (Below.cell g0 (p := ⟨g, 1, none⟩) hlt).trans c1;have z2 := (Below.cell g0 (p := ⟨g, 2, none⟩) hlt).trans c2;have z3 := (Below.cell g0 (p := ⟨g, 3, none⟩) hlt).trans c3;have d0 : ((n : Int) == 0) = false := Vg (by omega);have g1 := Zb w (.cells #[.int .i64 r.kind, .int .i64 r.key, .int .i64 r.ver, .slice ao r.data.length c] 61);clear c0 c1 c2 c3 hlt;go_enter Tryz.func82, Tryz.ntmps82;go_wp2_with fail;refine bodyPost_ret (v := .agg #[.int .i64 r.kind, .int .i64 r.key, .int .i64 r.ver, .slice ao r.data.length c]) (by simp [results, Tryz.results82, go_sem]) rfl ⟨rfl, ?_⟩;exact g1
theorem Zm4 (rs : List Rec) (us : List Value) (B : Nat) (v : Value) (w : World) (h : Vm B v rs us w) :
  ∃ ao c, (∀ w', Vm B v rs us w' → w'.ownsRow B 5 1 (.slice ao (rs.headD Rec.free).data.length c) (rs.headD Rec.free).data.length ((rs.headD Rec.free).data.map bv)) ∧
   ∀ w', Vm B v rs us w' → Calls Tryz.prog 82 #[v] w' fun e w'' => e = .returned (.agg #[.int .i64 (rs.headD Rec.free).kind, .int .i64 (rs.headD Rec.free).key, .int .i64 (rs.headD Rec.free).ver, .slice ao (rs.headD Rec.free).data.length c]) ∧ Zn w' w'' := by
 cases rs with
 | nil =>
  obtain ⟨ao, cap, rfl⟩ := h.form;exact ⟨none, 0, fun w' _ => World.ownsRow_nil _ _ _ _, fun w' _ => Zkl ao cap w'⟩
 | cons r rs =>
  obtain ⟨g, cap, ao, c, rfl, -, -, -, -, hu⟩ := h.first;refine ⟨ao, c, fun w' h' => ?_, fun w' h' => ?_⟩
  ·obtain ⟨u, hu2, ho⟩ := h'.each 0 (by simp);rw [hu] at hu2;cases hu2;exact ho
  ·obtain ⟨g', cap', ao', c', hv, c0, c1, c2, c3, hu2⟩ := h'.first;cases hv;rw [hu] at hu2;cases hu2;exact Zkk r g _ cap c ao w' (by omega) c0 c1 c2 c3
end Go.Proofs.YtpdnapbchcdhlacGreat
