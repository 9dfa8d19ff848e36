import Derived.Test.YtpdnapbchcdhlabRModel
set_option maxHeartbeats 8000000
namespace Go.Proofs.Ytpdnapbchcdhlab
set_option maxRecDepth 100000
open Go.RowKit
open Plain Reg
variable {k : Nat} {l : List Rec}
def Yu (l : List Rec) (r : Rec) : Bool := l.any fun x => Ye x r
def Y3 (a b : List Rec) : Bool := a.all (Yu b) && decide (a.length = b.length)
theorem Zbh (p : Rec → Bool) (h : k < l.length) : (l.take (k + 1)).any p = ((l.take k).any p || p l[k]) := by
 rw [List.take_succ_eq_append_getElem h, List.any_append]; simp
theorem Zbi (p : Rec → Bool) (h : k < l.length) : (l.take (k + 1)).all p = ((l.take k).all p && p l[k]) := by
 rw [List.take_succ_eq_append_getElem h, List.all_append]; simp
theorem Jh (S S' : Nat → Prop) (s t : List Rec) (v u : Value) (w : World) (hs : Zv S w v s) (ht : Zv S' w u t) (hm : s.length ≤ 1000) (hn : t.length ≤ 1000) :
  Calls Try.prog 26 #[v, u] w fun e w' => e = .returned (.bool (Y3 s t)) ∧ Zi w w' := by
 obtain ⟨ao, ca, rfl⟩ := hs.form;obtain ⟨bo, cb, rfl⟩ := ht.form;have g0 := Ze w (.cells #[.slice ao s.length ca, .slice bo t.length cb] 45);have hL0 := Zs w #[.slice ao s.length ca, .slice bo t.length cb] 45;obtain ⟨R, hR⟩ : ∃ R, R = Y3 s t := ⟨_, rfl⟩;rw [← hR];have HR : Hid _ := hR;clear hR;go_enter Try.func26, Try.ntmps26;go_wp2_with fail;generalize World.alloc w _ = W at *;go_loopw [16] (fun i wr => ∃ k : Nat, k ≤ 2 ∧ i = .int .i64 k ∧ (1 ≤ k → s.all (Yu t) = true) ∧ Zi w wr ∧ wr.heap[w.heap.size]? = some (.cells #[.slice ao s.length ca, .slice bo t.length cb] 45 (0, 0))) (fun i _ => 2 - (intOf i).toNat)
 case atStart => exact ⟨0, Nat.zero_le _, rfl, fun h => by omega, g0, hL0⟩
 case round =>
  clear g0 hL0;obtain ⟨k, hk, rfl, hall, hg, hL⟩ := hrel;have HAL : Hid _ := hall;clear hall;by_cases hlt : k < 2
  ·obtain ⟨S1, S2, l1, l2, v1, v2, hl1, hl2, hm1, hm2, hc1, hc2, hc3⟩ : ∃ (S1 S2 : Nat → Prop) (l1 l2 : List Rec) (v1 v2 : Value), Zv S1 w v1 l1 ∧ Zv S2 w v2 l2 ∧ l1.length ≤ 1000 ∧ l2.length ≤ 1000 ∧ (#[.slice ao s.length ca, .slice bo t.length cb] : Array Value)[k]? = some v1 ∧ (#[.slice bo t.length cb, .slice ao s.length ca] : Array Value)[k]? = some v2 ∧ (k = 0 → l1 = s ∧ l2 = t) := by
    rcases k with _ | _ | k
    ·exact ⟨S, S', s, t, _, _, hs, ht, hm, hn, rfl, rfl, fun _ => ⟨rfl, rfl⟩⟩
    ·exact ⟨S', S, t, s, _, _, ht, hs, hn, hm, rfl, rfl, fun h => by omega⟩
    ·omega
   have q0 := Zp hL k _ hc1;have HC2 : Hid (∀ W : World, (W.alloc (.cells #[.slice bo t.length cb, .slice ao s.length ca] 45)).cell? ⟨W.heap.size, k, none⟩ = some v2) := fun W => Zp (Zs W _ _) k _ hc2
   have HC3 : Hid _ := hc3;obtain ⟨b1, d1, hf1⟩ := hl1.form;obtain ⟨b2, d2, hf2⟩ := hl2.form;subst hf1;subst hf2;clear hc1 hc2 hc3;go_wp2_with fail;have HLT : Hid (k < 2) := hlt;have hd : decide ((k : Int) < 2) = true := by simp; omega
   simp only [hd];clear q0 hlt hd;go_loopw [23] (fun i wo => ∃ j : Nat, j ≤ l1.length ∧ i = .int .i64 j ∧ (k = 0 → (l1.take j).all (Yu l2) = true) ∧ Zi w wo ∧ wo.heap[w.heap.size]? = some (.cells #[.slice ao s.length ca, .slice bo t.length cb] 45 (0, 0))) (fun i _ => l1.length - (intOf i).toNat)
   case atStart => exact ⟨0, Nat.zero_le _, rfl, fun _ => rfl, hg, hL⟩
   case round =>
    clear hg hL;obtain ⟨j, hj, rfl, hall, hg, hL⟩ := hrel;have HA1 : Hid _ := hall;clear hall;by_cases hjl : j < l1.length
    ·obtain ⟨b, off, a1, c1, hv1, q0, q1, q2, q3, hu⟩ := Yf (hl1.grow hg) j hjl;cases hv1;have HAN : Hid ((l1.take (j + 1)).all (Yu l2) = ((l1.take j).all (Yu l2) && Yu l2 l1[j])) := Zbi _ hjl;have HMM : Hid (k = 0 → l1[j] ∈ s) := fun h => by have := (HC3.out h).1; rw [← this]; exact List.getElem_mem hjl
     generalize l1[j] = r at *;have g1 := Zt wr (.cells #[.int .i64 r.kind, .int .i64 r.key, .int .i64 r.ver, .slice a1 r.data.length c1] 33) (.cells #[.slice bo t.length cb, .slice ao s.length ca] 45);have hX0 := Zs wr #[.int .i64 r.kind, .int .i64 r.key, .int .i64 r.ver, .slice a1 r.data.length c1] 33;have hX1 := ((Ze (wr.alloc (.cells #[.int .i64 r.kind, .int .i64 r.key, .int .i64 r.ver, .slice a1 r.data.length c1] 33)) (.cells #[.slice bo t.length cb, .slice ao s.length ca] 45)).block _ (Zf hX0)).trans hX0;have hL1 := (g1.block _ (Zf hL)).trans hL;have c2 := HC2.out (wr.alloc (.cells #[.int .i64 r.kind, .int .i64 r.key, .int .i64 r.ver, .slice a1 r.data.length c1] 33));rw [World.size_alloc] at c2;have gw1 := hg.trans g1;have hu1 := hu.grow g1;clear hX0 hL hg hu g1;go_wp2_with fail;clear c2 q0 q1 q2 q3;generalize World.alloc (World.alloc wr _) _ = W2 at *;generalize wr.heap.size = gr at *;go_loopw [9, 34] (fun inn i wq => ∃ m : Nat, m ≤ l2.length ∧ i = .int .i64 m ∧ inn = .bool ((l2.take m).any fun x => Ye x r) ∧ Zi W2 wq) (fun _ i _ => l2.length - (intOf i).toNat)
     case atStart => exact ⟨0, Nat.zero_le _, rfl, rfl, Zi.refl _⟩
     case round =>
      obtain ⟨m, hm3, rfl, rfl, hgq⟩ := hrel;have hXq := (hgq.block _ (Zf hX1)).trans hX1;have hLq := (hgq.block _ (Zf hL1)).trans hL1;have gwq := gw1.trans hgq;have huq := hu1.grow hgq;by_cases hml : m < l2.length
      ·obtain ⟨b3, off3, a3, c3, hv3, p0, p1, p2, p3, hz⟩ := Yf (hl2.grow gwq) m hml;cases hv3;have HAN2 : Hid ((l2.take (m + 1)).any (fun x => Ye x r) = ((l2.take m).any (fun x => Ye x r) || Ye l2[m] r)) := Zbh _ hml;generalize l2[m] = x at *;generalize (l2.take m).any (fun x => Ye x r) = I at *;have g3 := Ze wr (.cells #[.int .i64 x.kind, .int .i64 x.key, .int .i64 x.ver, .slice a3 x.data.length c3] 33);have hY := Zs wr #[.int .i64 x.kind, .int .i64 x.key, .int .i64 x.ver, .slice a3 x.data.length c3] 33;have hXy := (g3.block _ (Zf hXq)).trans hXq;have gq3 := hgq.trans g3;have hz3 := hz.grow g3;have hu3 := huq.grow g3;clear hLq gwq huq hXq hgq g3 hz;cases I with
       | true =>
        have HT : Hid ((l2.take (m + 1)).any (fun x => Ye x r) = true) := by show _ = _; rw [HAN2.out]; rfl
        clear HAN2 hY hXy;go_wp2_with fail;go_roundw
        case rel => exact ⟨m + 1, by omega, by go_num, by rw [HT.out], gq3⟩
        case measure => simp [intOf]; omega
       | false =>
        have HT : Hid ((l2.take (m + 1)).any (fun x => Ye x r) = Ye x r) := by show _ = _; rw [HAN2.out]; rfl
        obtain ⟨x0, x1, x2, x3⟩ := Yt hY rfl rfl rfl rfl;obtain ⟨y0, y1, y2, y3⟩ := Yt hXy rfl rfl rfl rfl;clear HAN2 hY hXy;go_wp2_with fail;refine (Xx _ _ _ _ _ _ x.data r.data _ _ _ hz3.p hu3.p).mono ?_;obtain ⟨I2, hI2⟩ : ∃ I2, I2 = Ye x r := ⟨_, rfl⟩;rintro e w4 ⟨he, g4⟩;have he2 : e = .returned (.bool I2) := by rw [he, hI2]
        clear he;subst he2;have HI2 : Hid _ := hI2;clear hI2;have gq4 := gq3.trans g4;clear g4 gq3 hz3 hu3 x0 x1 x2 x3 y0 y1 y2 y3 p0 p1 p2 p3;go_wp2_with fail;go_roundw
        case rel => exact ⟨m + 1, by omega, by go_num, by rw [HT.out, HI2.out], gq4⟩
        case measure => simp [intOf]; omega
      ·have HIN : Hid ((l2.take m).any (fun x => Ye x r) = Yu l2 r) := by show _ = _; rw [List.take_of_length_le (by omega)]; rfl
       rw [HIN.out];clear HIN hXq huq;generalize hI : Yu l2 r = I at *;cases I with
       | true =>
        have HNX : Hid (k = 0 → (l1.take (j + 1)).all (Yu l2) = true) := fun h => by rw [HAN.out, HA1.out h]; simp
        clear hI HAN HA1 HMM;go_wp2_with fail;go_roundw
        case rel => exact ⟨j + 1, by omega, by go_num, HNX.out, gwq, hLq⟩
        case measure => simp [intOf]; omega
       | false =>
        by_cases hk0 : k = 0
        ·have hRf : R = false := by
          rw [HR.out];unfold Y3;have h1 : s.all (Yu t) = false := by
           rw [List.all_eq_false];exact ⟨r, HMM.out hk0, by rw [← (HC3.out hk0).2, hI]; simp⟩
          rw [h1]; rfl
         subst hRf;have d0 : ((k : Int) == 0) = true := by simp [hk0]
         clear hI HAN HA1 HMM hk0;go_wp2_with fail;go_ret;exact ⟨rfl, gwq⟩
        ·have HNX : Hid (k = 0 → (l1.take (j + 1)).all (Yu l2) = true) := fun h => absurd h hk0
         have d0 : ((k : Int) == 0) = false := by simp; omega
         clear hI HAN HA1 HMM hk0;go_wp2_with fail;go_roundw
         case rel => exact ⟨j + 1, by omega, by go_num, HNX.out, gwq, hLq⟩
         case measure => simp [intOf]; omega
    ·have HNX : Hid (1 ≤ k + 1 → s.all (Yu t) = true) := fun _ => by
      by_cases hk0 : k = 0
      ·have h1 := HA1.out hk0;rw [List.take_of_length_le (by omega), (HC3.out hk0).1, (HC3.out hk0).2] at h1;exact h1
      ·exact HAL.out (by omega)
     clear HA1;go_wp2_with fail;go_roundw
     case rel => exact ⟨k + 1, HLT.out, by go_num, HNX.out, hg, hL⟩
     case measure => have := HLT.out; simp [intOf]; omega
  ·have HRR : Hid (R = decide (s.length = t.length)) := by show R = _; rw [HR.out]; unfold Y3; rw [HAL.out (by omega)]; simp
   by_cases hle : s.length = t.length
   ·have d0 : ((s.length : Int) == (t.length : Int)) = true := by simp [hle]
    have HRT : Hid (R = true) := by show R = _; rw [HRR.out]; simp [hle]
    clear HRR hle;go_wp2_with fail;go_ret;exact ⟨by rw [HRT.out]; rfl, hg⟩
   ·have d0 : ((s.length : Int) == (t.length : Int)) = false := by simp; omega
    have HRF : Hid (R = false) := by show R = _; rw [HRR.out]; simp [hle]
    clear HRR hle;go_wp2_with fail;go_ret;exact ⟨by rw [HRF.out]; rfl, hg⟩
end Go.Proofs.Ytpdnapbchcdhlab
