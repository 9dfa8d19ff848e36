import Derived.Test.YtpdnapbchcdhladGreatDoorSDo
set_option maxHeartbeats 8000000
namespace Go.Proofs.YtpdnapbchcdhladGreatDoor
set_option maxRecDepth 100000
open Go.RowKit Go.Deep
open Plain Reg
variable {B cap g n : Nat} {w w0 : World} {zs : List Int}
structure Q2 (B g n cap : Nat) (w0 : World) (zs : List Int) (w : World) : Prop where
 row : w.ownsRow B 3 1 (.slice (some ⟨g, 0, none⟩) n cap) n (zs.map (Value.int .i64))
 grow : Zj w0 w
theorem Q2.on {w' : World} (h : Q2 B g n cap w0 zs w) (hg : Zj w w') : Q2 B g n cap w0 zs w' := ⟨Z5 h.row hg, h.grow.trans hg⟩
theorem Q2.len (h : Q2 B g n cap w0 zs w) : zs.length = n := by have := h.row.1; simpa using this
theorem Q2.cell (h : Q2 B g n cap w0 zs w) {j : Nat} {x : Int} (hx : zs[j]? = some x) : w.cell? ⟨g, j, none⟩ = some (.int .i64 x) := by
 have hj := (List.getElem?_eq_some_iff.1 hx).1;rw [h.row.cellAt j (by rw [← h.len]; omega), List.getElem?_map, hx]; rfl
theorem Q2.put (h : Q2 B g n cap w0 zs w) (hB : w0.heap.size ≤ B) (j : Nat) (x : Int) : Q2 B g n cap w0 (zs.set j x) (w.setCell ⟨g, j, none⟩ (.int .i64 x)) :=
 ⟨by rw [List.map_set]; exact (h.row.stored j (.int .i64 x)).1, Ya h.grow (Nat.le_trans hB (h.row.lt g rfl).1) _⟩
theorem Q2.cut {ds : List Int} (h : Q2 B g n cap w0 zs w) (hB : w0.heap.size ≤ B) (hd : zs.take ds.length = ds) (hn : ds.length ≤ n) (vs : List Value) : Q2 B g ds.length cap w0 ds (w.setCells g ds.length vs) := by
 have hl := h.len;have hg := h.row.lt g rfl;rcases h.row.2 with ⟨e, h0⟩ | ⟨q, cap', cur, e, hb, hh, hnc, hcm, hsz, ht⟩
 ·cases e
 ·cases e;obtain ⟨c', h1, h2, h3, h4⟩ := Zi5 vs ds.length w cur hh;refine ⟨⟨by simp, .inr ⟨g, cap, c', rfl, hb, h1, by omega, hcm, by rw [h2]; exact hsz, ?_⟩⟩, h4.grow h.grow (by omega)⟩;rw [Nat.mul_one];have e1 : c'.toList.take ds.length = cur.toList.take ds.length := by
   apply List.ext_getElem?;intro i;rw [List.getElem?_take, List.getElem?_take];by_cases hi : i < ds.length
   ·rw [if_pos hi, if_pos hi, Array.getElem?_toList, Array.getElem?_toList, h3 i hi]
   ·rw [if_neg hi, if_neg hi]
  have e2 : (cur.toList.take (n * 1)).take ds.length = (zs.map (Value.int .i64)).take ds.length := by rw [ht]
  rw [List.take_take, Nat.min_eq_left (by omega), ← List.map_take, hd] at e2;rw [e1, e2]
theorem Zmu (B : Nat) (w0 : World) (xs : List Int) (ao : Option Addr) (cap : Nat) (w : World) (hn12 : xs.length ≤ 12) (hs : xs.Pairwise (· ≤ ·)) (hB : w0.heap.size ≤ B) (hG : Zj w0 w) (hR : w.ownsRow B 3 1 (.slice ao xs.length cap) xs.length (xs.map (Value.int .i64))) :
  Calls Tryz.prog 30 #[.slice ao xs.length cap] w fun e w' => ∃ (v : Value) (ds : List Int), e = .returned v ∧ w'.ownsRow B 3 1 v ds.length (ds.map (Value.int .i64)) ∧ ds.Pairwise (· < ·) ∧ (∀ x, x ∈ ds ↔ x ∈ xs) ∧ Zj w0 w' := by
 by_cases h2 : xs.length < 2
 ·have d0 : (xs.length : Int) < 2 := by omega
  have HU : Hid (xs.Pairwise (· < ·)) := by
   show List.Pairwise _ _
   match xs, h2 with
   | [], _ => exact List.Pairwise.nil
   | [_], _ => simp
   | _ :: _ :: _, h2 => simp at h2; omega
  have HR : Hid _ := hR;clear hR;go_enter Tryz.func30, Tryz.ntmps30;go_wp2_with fail;go_ret;exact ⟨_, xs, rfl, HR.out, HU.out, fun _ => Iff.rfl, hG⟩
 ·have d0 : ¬ ((xs.length : Int) < 2) := by omega
  obtain ⟨g, rfl⟩ : ∃ g, ao = some ⟨g, 0, none⟩ := by
   rcases hR.2 with ⟨e, h0⟩ | ⟨q, cap', cur, e, _⟩
   ·omega
   ·cases e; exact ⟨q, rfl⟩
  have hcap : xs.length ≤ cap := by
   rcases hR.2 with ⟨e, h0⟩ | ⟨q, cap', cur, e, hb, hh, hnc, hcm, _⟩
   ·omega
   ·cases e; exact hnc
  have HR : Hid (Q2 B g xs.length cap w0 xs w) := ⟨hR, hG⟩;clear hR hG;go_enter Tryz.func30, Tryz.ntmps30;go_wp2_with fail;go_loopw [3] (fun i wr => ∃ k : Nat, k + 1 ≤ xs.length ∧ i = .int .i64 ((k : Int) + 1) ∧ (xs.take (k + 1)).Pairwise (· < ·) ∧ Q2 B g xs.length cap w0 xs wr) (fun i _ => xs.length - (intOf i).toNat)
  case atStart =>
   refine ⟨0, by omega, rfl, ?_, HR.out⟩;rw [List.take_succ_eq_append_getElem (by omega)];simp
  case round =>
   clear HR d0;obtain ⟨m, hm, rfl, hU, hI⟩ := hrel;have HU : Hid _ := hU;have HI : Hid _ := hI;clear hU hI;by_cases hlt : m + 1 < xs.length
   ·have d1 : (m : Int) + 1 < (xs.length : Int) := by omega
    have q0 := HI.out.cell (j := m + 1) (List.getElem?_eq_getElem (by omega));have p0 := HI.out.cell (j := m) (List.getElem?_eq_getElem (by omega));by_cases he : xs[m + 1]'(by omega) = xs[m]'(by omega)
    ·have HC : Hid (Cpt xs (m + 2) (xs.take (m + 1)) xs) := Cpt.start (by omega) (by omega) he HU.out;have d2 : (xs[m + 1]'(by omega) == xs[m]'(by omega)) = true := by simp [he]
     generalize xs[m + 1]'(by omega) = y at *;generalize xs[m]'(by omega) = x at *;clear he HU;go_wp2_with fail;refine Zz [ex (.slice (some ⟨g, 0, none⟩) xs.length cap), ex (.int .i64 ((m : Int) + 1)), ex (.pointer (some ⟨g, m + 1, none⟩)), ex (.int .i64 y), ex (.slice (some ⟨g, 0, none⟩) xs.length cap), ex (.int .i64 ((m : Int) + 1)), ex (.int .i64 (m : Int)), ex (.pointer (some ⟨g, m, none⟩)), ex (.int .i64 x), ex (.bool true)] (by kernel_rfl) (by kernel_rfl) ⟨Zg _, Zg _, Zg _, Zg _, Zg _, Zg _, Zg _, Zg _, Zg _, Zg _, trivial⟩ ?_ ?_
     ·refine ⟨?_, ?_, ?_, ?_, ?_, ?_, ?_, ?_, ?_, ?_, trivial⟩
      ·exact Zb rfl fun a _ _ _ _ A => Zm rfl (Zp A 0 rfl)
      ·exact Zb rfl fun a _ _ _ _ A => Zm rfl (Zp A 3 rfl)
      ·refine Zb rfl fun a _ _ _ B A => ?_;have e16 : a (.tmp 16) = _ := Zc A 0 rfl;have e17 : a (.tmp 17) = _ := Zc A 1 rfl;refine Zi ?_ rfl;clear A B;go_simp;all_goals go_arith
      ·refine Zb rfl fun a _ _ _ B A => ?_;have e18 : a (.tmp 18) = _ := Zc A 2 rfl;have h0 := (Below.cell B (Zr q0)).trans q0;refine Zi ?_ rfl;clear A B;go_simp;all_goals go_arith
      ·exact Zb rfl fun a _ _ _ _ A => Zm rfl (Zp A 0 rfl)
      ·exact Zb rfl fun a _ _ _ _ A => Zm rfl (Zp A 3 rfl)
      ·refine Zb rfl fun a _ _ _ B A => ?_;have e21 : a (.tmp 21) = _ := Zc A 5 rfl;refine Zi ?_ rfl;clear A B;go_simp;all_goals go_arith
      ·refine Zb rfl fun a _ _ _ B A => ?_;have e20 : a (.tmp 20) = _ := Zc A 4 rfl;have e22 : a (.tmp 22) = _ := Zc A 6 rfl;refine Zi ?_ rfl;clear A B;go_simp;all_goals go_arith
      ·refine Zb rfl fun a _ _ _ B A => ?_;have e23 : a (.tmp 23) = _ := Zc A 7 rfl;have h0 := (Below.cell B (Zr p0)).trans p0;refine Zi ?_ rfl;clear A B;go_simp;all_goals go_arith
      ·refine Zb rfl fun a _ _ _ B A => ?_;have e19 : a (.tmp 19) = _ := Zc A 3 rfl;have e24 : a (.tmp 24) = _ := Zc A 8 rfl;refine Zi ?_ rfl;clear A B;go_simp;all_goals go_arith
     ·intro vs w' hg ht;obtain ⟨(r16 : vs 0 = _), (r17 : vs 1 = _), (r18 : vs 2 = _), (r19 : vs 3 = _), (r20 : vs 4 = _), (r21 : vs 5 = _), (r22 : vs 6 = _), (r23 : vs 7 = _), (r24 : vs 8 = _), (r25 : vs 9 = _), -⟩ := ht;simp only [Z8, Act.put, List.setIfInBounds_toArray, List.set_cons_zero, List.set_cons_succ, r16, r17, r18, r19, r20, r21, r22, r23, r24, r25];clear r16 r17 r18 r19 r20 r21 r22 r23 r24 r25;have HI2 : Hid _ := HI.out.on hg;clear hg HI p0 q0 d2 d1;have hmc : m + 1 < cap := by omega
      have HLX : Hid ((xs.take (m + 1)).length = m + 1) := by show _ = _; rw [List.length_take]; omega
      go_wp2_with fail;obtain ⟨wo, rfl⟩ : ∃ wo : World, wo = w' := ⟨_, rfl⟩;go_loopw [3, 5] (fun i j wq => ∃ (t K : Nat) (ds zs : List Int), i = .int .i64 (K : Int) ∧ j = .int .i64 ((t : Int) + 1) ∧ ds.length = K ∧ m + 1 + t + 1 ≤ xs.length ∧ Cpt xs (m + 1 + t + 1) ds zs ∧ Q2 B g xs.length cap w0 zs wq) (fun _ j _ => xs.length - (intOf j).toNat)
      case atStart => exact ⟨0, m + 1, _, xs, by go_num, rfl, HLX.out, by omega, HC.out, HI2.out⟩
      case round =>
       clear HC HI2 HLX;obtain ⟨u, K, ds, zs, rfl, rfl, hK, hun, hC, hI⟩ := hrel;have HK : Hid _ := hK;have HC : Hid _ := hC;have HI : Hid _ := hI;have hKn : K < m + 1 + u + 1 := by have := hC.few; omega
       clear hK hC hI;by_cases hl2 : m + 1 + u + 1 < xs.length
       ·have d1 : (u : Int) + 1 < ((xs.length - (m + 1) : Nat) : Int) := by omega
        have q0 := HI.out.cell (j := m + 1 + (u + 1)) ((HC.out.tail _ (by omega)).trans (List.getElem?_eq_getElem (by omega)));have p0 := HI.out.cell (j := m + 1 + u) ((HC.out.tail _ (by omega)).trans (List.getElem?_eq_getElem (by omega)));have HSK : Hid (xs[m + 1 + (u + 1)]'(by omega) = xs[m + 1 + u]'(by omega) → Cpt xs (m + 1 + (u + 1) + 1) ds zs) := fun h => HC.out.skip (by omega) (by omega) h
        have HPT : Hid (xs[m + 1 + (u + 1)]'(by omega) ≠ xs[m + 1 + u]'(by omega) → Cpt xs (m + 1 + (u + 1) + 1) (ds ++ [xs[m + 1 + (u + 1)]'(by omega)]) (zs.set ds.length (xs[m + 1 + (u + 1)]'(by omega)))) := fun h => HC.out.put hs (by omega) h
        generalize xs[m + 1 + (u + 1)]'(by omega) = y at *;generalize xs[m + 1 + u]'(by omega) = x at *;clear HC;by_cases he : y = x
        ·have HC2 : Hid _ := HSK.out he;have d2 : (y != x) = false := by simp [he]
         clear he HSK HPT;go_wp2_with fail;refine Zz [ex (.slice (some ⟨g, m + 1, none⟩) (xs.length - (m + 1)) (cap - (m + 1))), ex (.int .i64 ((u : Int) + 1)), ex (.pointer (some ⟨g, m + 1 + (u + 1), none⟩)), ex (.int .i64 y), ex (.slice (some ⟨g, m + 1, none⟩) (xs.length - (m + 1)) (cap - (m + 1))), ex (.int .i64 ((u : Int) + 1)), ex (.int .i64 (u : Int)), ex (.pointer (some ⟨g, m + 1 + u, none⟩)), ex (.int .i64 x), ex (.bool false)] (by kernel_rfl) (by kernel_rfl) ⟨Zg _, Zg _, Zg _, Zg _, Zg _, Zg _, Zg _, Zg _, Zg _, Zg _, trivial⟩ ?_ ?_
         ·refine ⟨?_, ?_, ?_, ?_, ?_, ?_, ?_, ?_, ?_, ?_, trivial⟩
          ·exact Zb rfl fun a _ _ _ _ A => Zm rfl (Zp A 4 rfl)
          ·exact Zb rfl fun a _ _ _ _ A => Zm rfl (Zp A 5 rfl)
          ·refine Zb rfl fun a _ _ _ B A => ?_;have e35 : a (.tmp 35) = _ := Zc A 0 rfl;have e36 : a (.tmp 36) = _ := Zc A 1 rfl;refine Zi ?_ rfl;clear A B;go_simp;all_goals go_arith
          ·refine Zb rfl fun a _ _ _ B A => ?_;have e37 : a (.tmp 37) = _ := Zc A 2 rfl;have h0 := (Below.cell B (Zr q0)).trans q0;refine Zi ?_ rfl;clear A B;go_simp;all_goals go_arith
          ·exact Zb rfl fun a _ _ _ _ A => Zm rfl (Zp A 4 rfl)
          ·exact Zb rfl fun a _ _ _ _ A => Zm rfl (Zp A 5 rfl)
          ·refine Zb rfl fun a _ _ _ B A => ?_;have e40 : a (.tmp 40) = _ := Zc A 5 rfl;refine Zi ?_ rfl;clear A B;go_simp;all_goals go_arith
          ·refine Zb rfl fun a _ _ _ B A => ?_;have e39 : a (.tmp 39) = _ := Zc A 4 rfl;have e41 : a (.tmp 41) = _ := Zc A 6 rfl;refine Zi ?_ rfl;clear A B;go_simp;all_goals go_arith
          ·refine Zb rfl fun a _ _ _ B A => ?_;have e42 : a (.tmp 42) = _ := Zc A 7 rfl;have h0 := (Below.cell B (Zr p0)).trans p0;refine Zi ?_ rfl;clear A B;go_simp;all_goals go_arith
          ·refine Zb rfl fun a _ _ _ B A => ?_;have e38 : a (.tmp 38) = _ := Zc A 3 rfl;have e43 : a (.tmp 43) = _ := Zc A 8 rfl;refine Zi ?_ rfl;clear A B;go_simp;all_goals go_arith
         ·intro vs w' hg ht;obtain ⟨(r35 : vs 0 = _), (r36 : vs 1 = _), (r37 : vs 2 = _), (r38 : vs 3 = _), (r39 : vs 4 = _), (r40 : vs 5 = _), (r41 : vs 6 = _), (r42 : vs 7 = _), (r43 : vs 8 = _), (r44 : vs 9 = _), -⟩ := ht;simp only [Z8, Act.put, List.setIfInBounds_toArray, List.set_cons_zero, List.set_cons_succ, r35, r36, r37, r38, r39, r40, r41, r42, r43, r44];clear r35 r36 r37 r38 r39 r40 r41 r42 r43 r44;have HI2 : Hid _ := HI.out.on hg;clear hg HI p0 q0 d2 d1;go_wp2_with fail;go_roundw
          case rel => exact ⟨u + 1, K, ds, zs, rfl, by go_num, HK.out, by omega, HC2.out, HI2.out⟩
          case measure => simp [intOf]; omega
        ·have HC2 : Hid _ := HPT.out he;have d2 : (y != x) = true := by simp [he]
         clear he HSK HPT;go_wp2_with fail;refine Zz [ex (.slice (some ⟨g, m + 1, none⟩) (xs.length - (m + 1)) (cap - (m + 1))), ex (.int .i64 ((u : Int) + 1)), ex (.pointer (some ⟨g, m + 1 + (u + 1), none⟩)), ex (.int .i64 y), ex (.slice (some ⟨g, m + 1, none⟩) (xs.length - (m + 1)) (cap - (m + 1))), ex (.int .i64 ((u : Int) + 1)), ex (.int .i64 (u : Int)), ex (.pointer (some ⟨g, m + 1 + u, none⟩)), ex (.int .i64 x), ex (.bool true)] (by kernel_rfl) (by kernel_rfl) ⟨Zg _, Zg _, Zg _, Zg _, Zg _, Zg _, Zg _, Zg _, Zg _, Zg _, trivial⟩ ?_ ?_
         ·refine ⟨?_, ?_, ?_, ?_, ?_, ?_, ?_, ?_, ?_, ?_, trivial⟩
          ·exact Zb rfl fun a _ _ _ _ A => Zm rfl (Zp A 4 rfl)
          ·exact Zb rfl fun a _ _ _ _ A => Zm rfl (Zp A 5 rfl)
          ·refine Zb rfl fun a _ _ _ B A => ?_;have e35 : a (.tmp 35) = _ := Zc A 0 rfl;have e36 : a (.tmp 36) = _ := Zc A 1 rfl;refine Zi ?_ rfl;clear A B;go_simp;all_goals go_arith
          ·refine Zb rfl fun a _ _ _ B A => ?_;have e37 : a (.tmp 37) = _ := Zc A 2 rfl;have h0 := (Below.cell B (Zr q0)).trans q0;refine Zi ?_ rfl;clear A B;go_simp;all_goals go_arith
          ·exact Zb rfl fun a _ _ _ _ A => Zm rfl (Zp A 4 rfl)
          ·exact Zb rfl fun a _ _ _ _ A => Zm rfl (Zp A 5 rfl)
          ·refine Zb rfl fun a _ _ _ B A => ?_;have e40 : a (.tmp 40) = _ := Zc A 5 rfl;refine Zi ?_ rfl;clear A B;go_simp;all_goals go_arith
          ·refine Zb rfl fun a _ _ _ B A => ?_;have e39 : a (.tmp 39) = _ := Zc A 4 rfl;have e41 : a (.tmp 41) = _ := Zc A 6 rfl;refine Zi ?_ rfl;clear A B;go_simp;all_goals go_arith
          ·refine Zb rfl fun a _ _ _ B A => ?_;have e42 : a (.tmp 42) = _ := Zc A 7 rfl;have h0 := (Below.cell B (Zr p0)).trans p0;refine Zi ?_ rfl;clear A B;go_simp;all_goals go_arith
          ·refine Zb rfl fun a _ _ _ B A => ?_;have e38 : a (.tmp 38) = _ := Zc A 3 rfl;have e43 : a (.tmp 43) = _ := Zc A 8 rfl;refine Zi ?_ rfl;clear A B;go_simp;all_goals go_arith
         ·intro vs w' hg ht;obtain ⟨(r35 : vs 0 = _), (r36 : vs 1 = _), (r37 : vs 2 = _), (r38 : vs 3 = _), (r39 : vs 4 = _), (r40 : vs 5 = _), (r41 : vs 6 = _), (r42 : vs 7 = _), (r43 : vs 8 = _), (r44 : vs 9 = _), -⟩ := ht;simp only [Z8, Act.put, List.setIfInBounds_toArray, List.set_cons_zero, List.set_cons_succ, r35, r36, r37, r38, r39, r40, r41, r42, r43, r44];clear r35 r36 r37 r38 r39 r40 r41 r42 r43 r44;have hI2 := HI.out.on hg;have q1 := (Below.cell hg (Zr q0)).trans q0;obtain ⟨z, z0⟩ : ∃ z, w'.cell? ⟨g, K, none⟩ = some (.int .i64 z) := ⟨_, hI2.cell (j := K) (List.getElem?_eq_getElem (by rw [hI2.len]; omega))⟩;have f0 := hI2.row.frozenAt K;have HI3 : Hid _ := hI2.put hB K y;clear hg HI p0 q0 d2 d1 hI2;go_wp2_with fail;go_roundw
          case rel => exact ⟨u + 1, K + 1, ds ++ [y], zs.set ds.length y, by go_num, by go_num, by simp [HK.out], by omega, HC2.out, by rw [HK.out]; exact HI3.out⟩
          case measure => simp [intOf]; omega
       ·have d1 : ¬ ((u : Int) + 1 < ((xs.length - (m + 1) : Nat) : Int)) := by omega
        have HM : Hid (∀ x, x ∈ ds ↔ x ∈ xs) := fun x => by rw [HC.out.mem, List.take_of_length_le (by omega)]
        have HUP : Hid _ := HC.out.up;obtain ⟨vs, hvs⟩ : ∃ vs, ∀ ty, (Builtin.clear_ #[22] ty #[.slice (some ⟨g, K, none⟩) (xs.length - K) (cap - K)]).run Tryz.prog wr = .ok (.tuple #[]) (wr.setCells g K vs) := by
         obtain ⟨r, hr⟩ : ∃ r, xs.length - K = r + 1 := ⟨xs.length - K - 1, by omega⟩;have hI := HI.out;have hcl := Zo8 wr g K r (cap - K) (fun j hj => by rw [hI.cell (j := K + j) (List.getElem?_eq_getElem (by rw [hI.len]; omega))]; rfl) (fun j _ => hI.row.frozenAt _);rw [hr];exact hcl
        have HI2 : Hid (Q2 B g ds.length cap w0 ds (wr.setCells g K vs)) := by have := HI.out.cut hB HC.out.head (by rw [HK.out]; omega) vs; rw [HK.out] at this ⊢; exact this
        have hKc : K < cap := by omega
        have hKn2 : K < xs.length := by omega
        clear HI HC;go_wp2_with fail;go_ret;exact ⟨_, rfl, ds, by have := HI2.out.row; rw [HK.out] at this ⊢; exact this, HUP.out, HM.out, HI2.out.grow⟩
    ·have HU2 : Hid _ := Zxb hs (m := m + 1) (by omega) (by omega) he HU.out;have d2 : (xs[m + 1]'(by omega) == xs[m]'(by omega)) = false := by simp [he]
     generalize xs[m + 1]'(by omega) = y at *;generalize xs[m]'(by omega) = x at *;clear he HU;go_wp2_with fail;refine Zz [ex (.slice (some ⟨g, 0, none⟩) xs.length cap), ex (.int .i64 ((m : Int) + 1)), ex (.pointer (some ⟨g, m + 1, none⟩)), ex (.int .i64 y), ex (.slice (some ⟨g, 0, none⟩) xs.length cap), ex (.int .i64 ((m : Int) + 1)), ex (.int .i64 (m : Int)), ex (.pointer (some ⟨g, m, none⟩)), ex (.int .i64 x), ex (.bool false)] (by kernel_rfl) (by kernel_rfl) ⟨Zg _, Zg _, Zg _, Zg _, Zg _, Zg _, Zg _, Zg _, Zg _, Zg _, trivial⟩ ?_ ?_
     ·refine ⟨?_, ?_, ?_, ?_, ?_, ?_, ?_, ?_, ?_, ?_, trivial⟩
      ·exact Zb rfl fun a _ _ _ _ A => Zm rfl (Zp A 0 rfl)
      ·exact Zb rfl fun a _ _ _ _ A => Zm rfl (Zp A 3 rfl)
      ·refine Zb rfl fun a _ _ _ B A => ?_;have e16 : a (.tmp 16) = _ := Zc A 0 rfl;have e17 : a (.tmp 17) = _ := Zc A 1 rfl;refine Zi ?_ rfl;clear A B;go_simp;all_goals go_arith
      ·refine Zb rfl fun a _ _ _ B A => ?_;have e18 : a (.tmp 18) = _ := Zc A 2 rfl;have h0 := (Below.cell B (Zr q0)).trans q0;refine Zi ?_ rfl;clear A B;go_simp;all_goals go_arith
      ·exact Zb rfl fun a _ _ _ _ A => Zm rfl (Zp A 0 rfl)
      ·exact Zb rfl fun a _ _ _ _ A => Zm rfl (Zp A 3 rfl)
      ·refine Zb rfl fun a _ _ _ B A => ?_;have e21 : a (.tmp 21) = _ := Zc A 5 rfl;refine Zi ?_ rfl;clear A B;go_simp;all_goals go_arith
      ·refine Zb rfl fun a _ _ _ B A => ?_;have e20 : a (.tmp 20) = _ := Zc A 4 rfl;have e22 : a (.tmp 22) = _ := Zc A 6 rfl;refine Zi ?_ rfl;clear A B;go_simp;all_goals go_arith
      ·refine Zb rfl fun a _ _ _ B A => ?_;have e23 : a (.tmp 23) = _ := Zc A 7 rfl;have h0 := (Below.cell B (Zr p0)).trans p0;refine Zi ?_ rfl;clear A B;go_simp;all_goals go_arith
      ·refine Zb rfl fun a _ _ _ B A => ?_;have e19 : a (.tmp 19) = _ := Zc A 3 rfl;have e24 : a (.tmp 24) = _ := Zc A 8 rfl;refine Zi ?_ rfl;clear A B;go_simp;all_goals go_arith
     ·intro vs w' hg ht;obtain ⟨(r16 : vs 0 = _), (r17 : vs 1 = _), (r18 : vs 2 = _), (r19 : vs 3 = _), (r20 : vs 4 = _), (r21 : vs 5 = _), (r22 : vs 6 = _), (r23 : vs 7 = _), (r24 : vs 8 = _), (r25 : vs 9 = _), -⟩ := ht;simp only [Z8, Act.put, List.setIfInBounds_toArray, List.set_cons_zero, List.set_cons_succ, r16, r17, r18, r19, r20, r21, r22, r23, r24, r25];clear r16 r17 r18 r19 r20 r21 r22 r23 r24 r25;have HI2 : Hid _ := HI.out.on hg;clear hg HI p0 q0 d2 d1;go_wp2_with fail;go_roundw
      case rel => exact ⟨m + 1, by omega, by go_num, HU2.out, HI2.out⟩
      case measure => simp [intOf]; omega
   ·have d1 : ¬ ((m : Int) + 1 < (xs.length : Int)) := by omega
    have HUP : Hid (xs.Pairwise (· < ·)) := by have := HU.out; rw [List.take_of_length_le (by omega)] at this; exact this
    clear HU;go_wp2_with fail;go_ret;exact ⟨_, rfl, xs, HI.out.row, HUP.out, fun _ => Iff.rfl, HI.out.grow⟩
end Go.Proofs.YtpdnapbchcdhladGreatDoor
