import Derived.Test.YtikhknkpndhakabGreatRDo
set_option maxHeartbeats 8000000
namespace Go.Proofs.YtikhknkpndhakabGreat
set_option maxRecDepth 100000
open Go.RowKit
open Plain Reg
def K8 (l : List Rec) (r : Rec) : Bool := l.any fun x => X5 x r
def Kd (a b : List Rec) : Bool := a.all (K8 b) && decide (a.length = b.length)
theorem Zul {l : List Rec} {k : Nat} (p : Rec → Bool) (h : k < l.length) : (l.take (k + 1)).any p = ((l.take k).any p || p l[k]) := by
 rw [List.take_succ_eq_append_getElem h, List.any_append]; simp
theorem Zum {l : List Rec} {k : Nat} (p : Rec → Bool) (h : k < l.length) : (l.take (k + 1)).all p = ((l.take k).all p && p l[k]) := by
 rw [List.take_succ_eq_append_getElem h, List.all_append]; simp
theorem Zfz (S S' : Nat → Prop) (s t : List Rec) (v u : Value) (w : World) (hs : Xh S w v s) (ht : Xh S' w u t) (hm : s.length ≤ 1000) (hn : t.length ≤ 1000) :
  Calls Tryz.prog 29 #[v, u] w fun e w' => e = .returned (.bool (Kd s t)) ∧ Zn w w' := by
 obtain ⟨ao, ca, rfl⟩ := hs.form;obtain ⟨bo, cb, rfl⟩ := ht.form;have g0 := Zc w (.cells #[.slice ao s.length ca, .slice bo t.length cb] 47);have hL0 := Zl w #[.slice ao s.length ca, .slice bo t.length cb] 47;obtain ⟨R, hR⟩ : ∃ R, R = Kd s t := ⟨_, rfl⟩;rw [← hR];have HR : Hid _ := hR;clear hR;go_enter Tryz.func29, Tryz.ntmps29;go_wp2_with fail;generalize World.alloc w _ = W at *;go_loopw [16] (fun i wr => ∃ k : Nat, k ≤ 2 ∧ i = .int .i64 k ∧ (1 ≤ k → s.all (K8 t) = true) ∧ Zn w wr ∧ wr.heap[w.heap.size]? = some (.cells #[.slice ao s.length ca, .slice bo t.length cb] 47 (0, 0))) (fun i _ => 2 - (intOf i).toNat)
 case atStart => exact ⟨0, Nat.zero_le _, rfl, fun h => by omega, g0, hL0⟩
 case round =>
  clear g0 hL0;obtain ⟨k, hk, rfl, hall, hg, hL⟩ := hrel;have HAL : Hid _ := hall;clear hall;by_cases hlt : k < 2
  ·obtain ⟨S1, S2, l1, l2, v1, v2, hl1, hl2, hm1, hm2, hc1, hc2, hc3⟩ : ∃ (S1 S2 : Nat → Prop) (l1 l2 : List Rec) (v1 v2 : Value), Xh S1 w v1 l1 ∧ Xh S2 w v2 l2 ∧ l1.length ≤ 1000 ∧ l2.length ≤ 1000 ∧ (#[.slice ao s.length ca, .slice bo t.length cb] : Array Value)[k]? = some v1 ∧ (#[.slice bo t.length cb, .slice ao s.length ca] : Array Value)[k]? = some v2 ∧ (k = 0 → l1 = s ∧ l2 = t) := by
    rcases k with _ | _ | k
    ·exact ⟨S, S', s, t, _, _, hs, ht, hm, hn, rfl, rfl, fun _ => ⟨rfl, rfl⟩⟩
    ·exact ⟨S', S, t, s, _, _, ht, hs, hn, hm, rfl, rfl, fun h => by omega⟩
    ·omega
   have q0 := Ze hL k _ hc1;have HC2 : Hid (∀ W : World, (W.alloc (.cells #[.slice bo t.length cb, .slice ao s.length ca] 47)).cell? ⟨W.heap.size, k, none⟩ = some v2) := fun W => Ze (Zl W _ _) k _ hc2
   have HC3 : Hid _ := hc3;obtain ⟨b1, d1, hf1⟩ := hl1.form;obtain ⟨b2, d2, hf2⟩ := hl2.form;subst hf1;subst hf2;clear hc1 hc2 hc3;go_wp2_with fail;have HLT : Hid (k < 2) := hlt;have hd : decide ((k : Int) < 2) = true := by simp; omega
   simp only [hd];clear q0 hlt hd;go_loopw [23] (fun i wo => ∃ j : Nat, j ≤ l1.length ∧ i = .int .i64 j ∧ (k = 0 → (l1.take j).all (K8 l2) = true) ∧ Zn w wo ∧ wo.heap[w.heap.size]? = some (.cells #[.slice ao s.length ca, .slice bo t.length cb] 47 (0, 0))) (fun i _ => l1.length - (intOf i).toNat)
   case atStart => exact ⟨0, Nat.zero_le _, rfl, fun _ => rfl, hg, hL⟩
   case round =>
    clear hg hL;obtain ⟨j, hj, rfl, hall, hg, hL⟩ := hrel;have HA1 : Hid _ := hall;clear hall;by_cases hjl : j < l1.length
    ·obtain ⟨b, off, a1, c1, hv1, q0, q1, q2, q3, hu⟩ := Kq (hl1.grow hg) j hjl;cases hv1;have HAN : Hid ((l1.take (j + 1)).all (K8 l2) = ((l1.take j).all (K8 l2) && K8 l2 l1[j])) := Zum _ hjl;have HMM : Hid (k = 0 → l1[j] ∈ s) := fun h => by have := (HC3.out h).1; rw [← this]; exact List.getElem_mem hjl
     generalize l1[j] = r at *;have g1 := Zv wr (.cells #[.int .i64 r.kind, .int .i64 r.key, .int .i64 r.ver, .slice a1 r.data.length c1] 51) (.cells #[.slice bo t.length cb, .slice ao s.length ca] 47);have hX0 := Zl wr #[.int .i64 r.kind, .int .i64 r.key, .int .i64 r.ver, .slice a1 r.data.length c1] 51;have hX1 := ((Zc (wr.alloc (.cells #[.int .i64 r.kind, .int .i64 r.key, .int .i64 r.ver, .slice a1 r.data.length c1] 51)) (.cells #[.slice bo t.length cb, .slice ao s.length ca] 47)).block _ (Za hX0)).trans hX0;have hL1 := (g1.block _ (Za hL)).trans hL;have c2 := HC2.out (wr.alloc (.cells #[.int .i64 r.kind, .int .i64 r.key, .int .i64 r.ver, .slice a1 r.data.length c1] 51));rw [World.size_alloc] at c2;have gw1 := hg.trans g1;have hu1 := hu.grow g1;clear hX0 hL hg hu g1;go_wp2_with fail;clear c2 q0 q1 q2 q3;generalize World.alloc (World.alloc wr _) _ = W2 at *;generalize wr.heap.size = gr at *;go_loopw [9, 34] (fun inn i wq => ∃ m : Nat, m ≤ l2.length ∧ i = .int .i64 m ∧ inn = .bool ((l2.take m).any fun x => X5 x r) ∧ Zn W2 wq) (fun _ i _ => l2.length - (intOf i).toNat)
     case atStart => exact ⟨0, Nat.zero_le _, rfl, rfl, Zn.refl _⟩
     case round =>
      obtain ⟨m, hm3, rfl, rfl, hgq⟩ := hrel;have hXq := (hgq.block _ (Za hX1)).trans hX1;have hLq := (hgq.block _ (Za hL1)).trans hL1;have gwq := gw1.trans hgq;have huq := hu1.grow hgq;by_cases hml : m < l2.length
      ·obtain ⟨b3, off3, a3, c3, hv3, p0, p1, p2, p3, hz⟩ := Kq (hl2.grow gwq) m hml;cases hv3;have HAN2 : Hid ((l2.take (m + 1)).any (fun x => X5 x r) = ((l2.take m).any (fun x => X5 x r) || X5 l2[m] r)) := Zul _ hml;generalize l2[m] = x at *;generalize (l2.take m).any (fun x => X5 x r) = I at *;have g3 := Zc wr (.cells #[.int .i64 x.kind, .int .i64 x.key, .int .i64 x.ver, .slice a3 x.data.length c3] 51);have hY := Zl wr #[.int .i64 x.kind, .int .i64 x.key, .int .i64 x.ver, .slice a3 x.data.length c3] 51;have hXy := (g3.block _ (Za hXq)).trans hXq;have gq3 := hgq.trans g3;have hz3 := hz.grow g3;have hu3 := huq.grow g3;clear hLq gwq huq hXq hgq g3 hz;cases I with
       | true =>
        have HT : Hid ((l2.take (m + 1)).any (fun x => X5 x r) = true) := by show _ = _; rw [HAN2.out]; rfl
        clear HAN2 hY hXy;go_wp2_with fail;go_roundw
        case rel => exact ⟨m + 1, by omega, by go_num, by rw [HT.out], gq3⟩
        case measure => simp [intOf]; omega
       | false =>
        have HT : Hid ((l2.take (m + 1)).any (fun x => X5 x r) = X5 x r) := by show _ = _; rw [HAN2.out]; rfl
        obtain ⟨x0, x1, x2, x3⟩ := Yf hY rfl rfl rfl rfl;obtain ⟨y0, y1, y2, y3⟩ := Yf hXy rfl rfl rfl rfl;clear HAN2 hY hXy;go_wp2_with fail;refine (Zcg _ _ _ _ _ _ x.data r.data _ _ _ hz3.p hu3.p).mono ?_;obtain ⟨I2, hI2⟩ : ∃ I2, I2 = X5 x r := ⟨_, rfl⟩;rintro e w4 ⟨he, g4⟩;have he2 : e = .returned (.bool I2) := by rw [he, hI2]
        clear he;subst he2;have HI2 : Hid _ := hI2;clear hI2;have gq4 := gq3.trans g4;clear g4 gq3 hz3 hu3 x0 x1 x2 x3 y0 y1 y2 y3 p0 p1 p2 p3;go_wp2_with fail;go_roundw
        case rel => exact ⟨m + 1, by omega, by go_num, by rw [HT.out, HI2.out], gq4⟩
        case measure => simp [intOf]; omega
      ·have HIN : Hid ((l2.take m).any (fun x => X5 x r) = K8 l2 r) := by show _ = _; rw [List.take_of_length_le (by omega)]; rfl
       rw [HIN.out];clear HIN hXq huq;generalize hI : K8 l2 r = I at *;cases I with
       | true =>
        have HNX : Hid (k = 0 → (l1.take (j + 1)).all (K8 l2) = true) := fun h => by rw [HAN.out, HA1.out h]; simp
        clear hI HAN HA1 HMM;go_wp2_with fail;go_roundw
        case rel => exact ⟨j + 1, by omega, by go_num, HNX.out, gwq, hLq⟩
        case measure => simp [intOf]; omega
       | false =>
        by_cases hk0 : k = 0
        ·have hRf : R = false := by
          rw [HR.out];unfold Kd;have h1 : s.all (K8 t) = false := by
           rw [List.all_eq_false];exact ⟨r, HMM.out hk0, by rw [← (HC3.out hk0).2, hI]; simp⟩
          rw [h1]; rfl
         subst hRf;have d0 : ((k : Int) == 0) = true := by simp [hk0]
         clear hI HAN HA1 HMM hk0;go_wp2_with fail;go_ret;exact ⟨rfl, gwq⟩
        ·have HNX : Hid (k = 0 → (l1.take (j + 1)).all (K8 l2) = true) := fun h => absurd h hk0
         have d0 : ((k : Int) == 0) = false := by simp; omega
         clear hI HAN HA1 HMM hk0;go_wp2_with fail;go_roundw
         case rel => exact ⟨j + 1, by omega, by go_num, HNX.out, gwq, hLq⟩
         case measure => simp [intOf]; omega
    ·have HNX : Hid (1 ≤ k + 1 → s.all (K8 t) = true) := fun _ => by
      by_cases hk0 : k = 0
      ·have h1 := HA1.out hk0;rw [List.take_of_length_le (by omega), (HC3.out hk0).1, (HC3.out hk0).2] at h1;exact h1
      ·exact HAL.out (by omega)
     clear HA1;go_wp2_with fail;go_roundw
     case rel => exact ⟨k + 1, HLT.out, by go_num, HNX.out, hg, hL⟩
     case measure => have := HLT.out; simp [intOf]; omega
  ·have HRR : Hid (R = decide (s.length = t.length)) := by show R = _; rw [HR.out]; unfold Kd; rw [HAL.out (by omega)]; simp
   by_cases hle : s.length = t.length
   ·have d0 : ((s.length : Int) == (t.length : Int)) = true := by simp [hle]
    have HRT : Hid (R = true) := by show R = _; rw [HRR.out]; simp [hle]
    clear HRR hle;go_wp2_with fail;go_ret;exact ⟨by rw [HRT.out]; rfl, hg⟩
   ·have d0 : ((s.length : Int) == (t.length : Int)) = false := by simp; omega
    have HRF : Hid (R = false) := by show R = _; rw [HRR.out]; simp [hle]
    clear HRR hle;go_wp2_with fail;go_ret;exact ⟨by rw [HRF.out]; rfl, hg⟩
def Zwx : Prop := ∀ (d : Dd) (a : Option Addr) (c : Nat) (w : World), d.data.length ≤ 140737488355328 → Bytes w (.slice a d.data.length c) d.data →
 Calls Tryz.prog 63 #[.agg #[.int .i64 d.kind, .int .i64 d.key, .int .i64 d.num, .slice a d.data.length c]] w fun r w' => r = .returned (.int .i64 (Yn d)) ∧ Zn w w'
def Zx2 : Prop := ∀ (S : Nat → Prop) (l : List Rec) (v : Value) (w : World), Zah l = true → Xh S w v l →
 Calls Tryz.prog 105 #[v] w fun r w' => r = .returned (.int .i64 (Xx l)) ∧ Zn w w'
def Zy0 : Prop := ∀ (S : Nat → Prop) (l : List Rec) (d : Dd) (v : Value) (a : Option Addr) (c : Nat) (w : World), (∀ b, S b → b < w.heap.size) → Zah l = true → Yn d = 0 → Xh S w v l → Z0 S w (.slice a d.data.length c) d.data →
 Calls Tryz.prog 36 #[v, .agg #[.int .i64 d.kind, .int .i64 d.key, .int .i64 d.num, .slice a d.data.length c]] w fun r w' => ∃ v', r = .returned (.tuple #[v', .int .i64 (doR l d).n, .int .i64 (doR l d).e]) ∧ Xh (Zx S w.heap.size) w' v' (doR l d).l ∧ Zn w w'
def Zyo : Prop := ∀ (S : Nat → Prop) (l : List Rec) (key : Int) (v : Value) (w : World), (∀ b, S b → b < w.heap.size) → Zah l = true → Xh S w v l →
 Calls Tryz.prog 50 #[v, .int .i64 key] w fun r w' => ∃ u, r = .returned (.tuple #[u, .int .i64 (Je l key).e]) ∧ Z0 (Zx S w.heap.size) w' u (Je l key).data ∧ Zn w w'
theorem Zf1 (l : List Rec) : Zah l = true ↔ (∀ r ∈ l, Ya r = 0 ∧ r.kind ≠ 1) ∧ l.length ≤ 40 := by
 unfold Zah Zw0;simp only [Bool.and_eq_true, List.all_eq_true, decide_eq_true_eq]
theorem Jf {d : Dd} (h : Yn d = 0) : 1 ≤ d.kind ∧ d.kind ≤ 3 ∧ 1 ≤ d.key ∧ d.key ≤ 255 ∧ d.data.length ≤ 8 ∧ (d.kind = 1 ∨ d.data.length = 0) := by
 unfold Yn at h;by_cases h1 : d.kind < 1 ∨ 3 < d.kind
 ·rw [if_pos h1] at h; omega
 ·rw [if_neg h1] at h;generalize (if d.kind = 3 then (1 : Int) else 0) = lo at h;generalize (if d.kind = 3 then (60000 : Int) else 0) = hi at h;by_cases h2 : d.key < 1 ∨ 255 < d.key ∨ d.num < lo ∨ hi < d.num
  ·rw [if_pos h2] at h; omega
  ·rw [if_neg h2] at h;by_cases h3 : 8 < d.data.length ∨ d.kind ≠ 1 ∧ d.data.length ≠ 0
   ·rw [if_pos h3] at h; omega
   ·omega
theorem Zsy (w : World) (v : Value) (l : List UInt8) (h : Bytes w v l) : (convert 23 9 v).run Tryz.prog w = .ok (.string ⟨l.toArray⟩) w := Ke w v l h
theorem Zih : ∀ (l : List Rec) (n : Int), n ≤ l.foldl (fun n r => if n ≤ r.ver then r.ver + 1 else n) n ∧ ∀ r ∈ l, r.ver < l.foldl (fun n r => if n ≤ r.ver then r.ver + 1 else n) n
 | [], n => ⟨Int.le_refl _, fun r h => by cases h⟩
 | x :: l, n => by
  rw [List.foldl_cons];obtain ⟨h1, h2⟩ := Zih l (if n ≤ x.ver then x.ver + 1 else n);have h3 : n ≤ (if n ≤ x.ver then x.ver + 1 else n) ∧ x.ver < (if n ≤ x.ver then x.ver + 1 else n) := by split <;> omega
  refine ⟨by omega, fun r hr => ?_⟩;rcases List.mem_cons.1 hr with rfl | hr
  ·omega
  ·exact h2 r hr
theorem Ze8 {l : List Rec} : 1 ≤ Xx l ∧ ∀ r ∈ l, r.ver < Xx l := Zih l 1
theorem Zc3 {d : Dd} {n : Int} (hw : Yn d = 0) (hk : d.kind ≠ 3) (h0 : 1 ≤ n) (h1 : n ≤ 60000) : Ya (Xv d n) = 0 ∧ (Xv d n).kind ≠ 1 := by
 obtain ⟨a1, a2, a3, a4, a5, a6⟩ := Jf hw;have hkk : d.kind = 1 ∨ d.kind = 2 := by omega
 refine ⟨?_, show 1 + d.kind ≠ 1 by omega⟩;obtain ⟨dk, dy, dn, dd⟩ := d;simp only at hkk a3 a4 a5 a6;rcases hkk with rfl | rfl
 ·show Ya ⟨2, dy, n, dd⟩ = 0;have h2 : Xm ⟨2, dy, n, dd⟩ = true := by simp [Xm]; omega
  unfold Ya;rw [if_neg (by simp), h2, if_neg (by simp), if_neg (by simp [Yx]; omega)]
 ·have h6 : dd = [] := List.eq_nil_of_length_eq_zero (by omega);show Ya ⟨3, dy, n, dd⟩ = 0;have h2 : Xm ⟨3, dy, n, dd⟩ = true := by simp [Xm]; omega
  unfold Ya;rw [if_neg (by simp), h2, if_neg (by simp), if_neg (by simp [Yx, h6])]
theorem Zem (l : List Rec) : Kd l l = true := by
 unfold Kd;simp only [Bool.and_eq_true, List.all_eq_true, decide_eq_true_eq, and_true];intro r hr;unfold K8;rw [List.any_eq_true];exact ⟨r, hr, Zm5 r⟩
def K1 (d : Dd) : Bool := if d.kind = 3 then decide (1 ≤ d.key ∧ d.key ≤ 255 ∧ 1 ≤ d.num ∧ d.num ≤ 60000) else decide (1 ≤ d.key ∧ d.key ≤ 255 ∧ d.num = 0)
def Kp (k : Int) : Int := if k = 1 then 8 else 0
theorem Zda (d : Dd) : Yn d = if d.kind < 1 ∨ 3 < d.kind then 1 else if K1 d = false then 3 else if Kp d.kind < (d.data.length : Int) then 4 else 0 := by
 unfold Yn K1 Kp;by_cases hk : d.kind < 1 ∨ 3 < d.kind
 ·rw [if_pos hk, if_pos hk]
 ·rw [if_neg hk, if_neg hk];by_cases h3 : d.kind = 3
  ·rw [if_pos h3, if_pos h3, if_pos h3, if_neg (show ¬ d.kind = 1 by omega)];by_cases hr : 1 ≤ d.key ∧ d.key ≤ 255 ∧ 1 ≤ d.num ∧ d.num ≤ 60000
   ·rw [if_neg (show ¬ (d.key < 1 ∨ 255 < d.key ∨ d.num < 1 ∨ 60000 < d.num) by omega), decide_eq_true hr, if_neg (show ¬ true = false by simp)];by_cases h0 : d.data.length = 0
    ·rw [if_neg (by omega), if_neg (by omega)]
    ·rw [if_pos (by omega), if_pos (by omega)]
   ·rw [if_pos (show d.key < 1 ∨ 255 < d.key ∨ d.num < 1 ∨ 60000 < d.num by omega), decide_eq_false hr, if_pos rfl]
  ·rw [if_neg h3, if_neg h3, if_neg h3];by_cases hr : 1 ≤ d.key ∧ d.key ≤ 255 ∧ d.num = 0
   ·rw [if_neg (show ¬ (d.key < 1 ∨ 255 < d.key ∨ d.num < 0 ∨ 0 < d.num) by omega), decide_eq_true hr, if_neg (show ¬ true = false by simp)];by_cases h1 : d.kind = 1
    ·rw [if_pos h1];by_cases h8 : 8 < d.data.length
     ·rw [if_pos (by omega), if_pos (by omega)]
     ·rw [if_neg (by omega), if_neg (by omega)]
    ·rw [if_neg h1];by_cases h0 : d.data.length = 0
     ·rw [if_neg (by omega), if_neg (by omega)]
     ·rw [if_pos (by omega), if_pos (by omega)]
   ·rw [if_pos (show d.key < 1 ∨ 255 < d.key ∨ d.num < 0 ∨ 0 < d.num by omega), decide_eq_false hr, if_pos rfl]
theorem Jd (k y n : Int) (l : List UInt8) (v : Value) (w : World) :
  Calls Tryz.prog 100 #[.agg #[.int .i64 k, .int .i64 y, .int .i64 n, v]] w fun e w' => e = .returned (.bool (K1 ⟨k, y, n, l⟩)) ∧ Zn w w' := by
 go_enter Tryz.func100, Tryz.ntmps100;go_wp2;all_goals go_ret
 all_goals refine ⟨?_, Zc _ _⟩
 all_goals simp_all [K1]
 all_goals first | omega | (split <;> omega) | (rw [Bool.eq_iff_iff]; simp; done) | (rw [Bool.eq_iff_iff]; simp; omega)
theorem Zbb (k : Int) (w : World) :
  Calls Tryz.prog 101 #[.int .i64 k] w fun e w' => e = .returned (.int .i64 (Kp k)) ∧ w = w' := by
 go_enter Tryz.func101, Tryz.ntmps101;go_wp2;all_goals go_ret
 all_goals simp_all [Kp]
theorem Zlh (k y n : Int) (l : List UInt8) (v : Value) (w : World) (hk : k < 1 ∨ 3 < k) :
  Calls Tryz.prog 63 #[.agg #[.int .i64 k, .int .i64 y, .int .i64 n, v]] w fun e w' => e = .returned (.int .i64 (Yn ⟨k, y, n, l⟩)) ∧ Zn w w' := by
 have HW : Hid (Yn ⟨k, y, n, l⟩ = 1) := by show Yn _ = 1; rw [Zda, if_pos (by exact hk)]
 have d1 : (k != 1) = true := by simp; omega
 have d2 : (k != 2) = true := by simp; omega
 have d3 : (k != 3) = true := by simp; omega
 go_enter Tryz.func63, Tryz.ntmps63;go_wp2_with fail;go_ret;exact ⟨Xj HW.out.symm, Zc _ _⟩
theorem Zqt (k y n : Int) (l : List UInt8) (v : Value) (w : World) (hk : 1 ≤ k ∧ k ≤ 3) (hv : Bytes w v l) :
  Calls Tryz.prog 63 #[.agg #[.int .i64 k, .int .i64 y, .int .i64 n, v]] w fun e w' => e = .returned (.int .i64 (Yn ⟨k, y, n, l⟩)) ∧ Zn w w' := by
 obtain ⟨ao, cap, rfl, -, -⟩ := Yi hv;clear hv;have HK : Hid (k = 1 ∨ k = 2 ∨ k = 3) := by show _ ∨ _; omega
 have hw : Yn ⟨k, y, n, l⟩ = if K1 ⟨k, y, n, l⟩ = false then 3 else if Kp k < (l.length : Int) then 4 else 0 := by
  rw [Zda, if_neg (by simp; omega)]
 clear hk;cases hr : K1 ⟨k, y, n, l⟩ with
 | false =>
  have HF : Hid (Yn ⟨k, y, n, l⟩ = 3) := by show Yn _ = 3; rw [hw, hr]; rfl
  have HR : Hid (K1 ⟨k, y, n, l⟩ = false) := hr;clear hw hr;rcases HK.out with h | h | h
  all_goals
   first
    | (have d1 : (k != 1) = false := by simp [h])
    | (have d1 : (k != 1) = true := by simp [h]); (have d2 : (k != 2) = false := by simp [h])
    | (have d1 : (k != 1) = true := by simp [h]); (have d2 : (k != 2) = true := by simp [h]); (have d3 : (k != 3) = false := by simp [h])
   clear h;go_enter Tryz.func63, Tryz.ntmps63;go_wp2_with fail;refine (Jd k y n l _ _).mono ?_;rw [HR.out];rintro e w1 ⟨rfl, g1⟩;go_wp2_with fail;go_ret;exact ⟨Xj HF.out.symm, (Zc _ _).trans g1⟩
 | true =>
  have HW : Hid (Yn ⟨k, y, n, l⟩ = if Kp k < (l.length : Int) then 4 else 0) := by show Yn _ = _; rw [hw, hr]; rfl
  have HR : Hid (K1 ⟨k, y, n, l⟩ = true) := hr;clear hw hr;rcases HK.out with h | h | h
  ·have d1 : (k != 1) = false := by simp [h]
   clear h;go_enter Tryz.func63, Tryz.ntmps63;go_wp2_with fail;refine (Jd k y n l _ _).mono ?_;rw [HR.out];rintro e w1 ⟨rfl, g1⟩;have g : Zn w w1 := (Zc _ _).trans g1;have hc0 : w1.cell? ⟨w.heap.size, 0, none⟩ = some (.int .i64 k) := (Below.cell g1 (p := ⟨w.heap.size, 0, none⟩) (by simp)).trans (by simp);have hc3 : w1.cell? ⟨w.heap.size, 3, none⟩ = some (.slice ao l.length cap) := (Below.cell g1 (p := ⟨w.heap.size, 3, none⟩) (by simp)).trans (by simp);clear g1;go_wp2_with fail;refine Z3 [ex (.pointer (some ⟨w.heap.size, 3, none⟩)), ex (.slice ao l.length cap), ex (.int .i64 l.length), ex (.pointer (some ⟨w.heap.size, 0, none⟩)), ex (.int .i64 k), ex (.int .i64 (Kp k)), ex (.bool (decide (Kp k < (l.length : Int)))), ex (.bool (decide (Kp k < (l.length : Int))))] (by kernel_rfl) (by kernel_rfl) ⟨Zh _, Zh _, Zh _, Zh _, Zh _, Zh _, Zh _, Zh _, trivial⟩ ?_ ?_
   ·refine ⟨?_, ?_, ?_, ?_, ?_, ?_, ?_, ?_, trivial⟩
    ·refine Zb rfl fun a w' ek ef hg hin => ?_;have e1 : a (.tmp 1) = .pointer (some ⟨w.heap.size, 0, none⟩) := Zu hin 1 rfl;refine Zi ?_ rfl;clear hin hg;go_simp;all_goals go_arith
    ·refine Zb rfl fun a w' ek ef hg hin => ?_;have e22 : a (.tmp 22) = _ := Zd hin 0 rfl;have h1 := (Below.cell hg (Zt hc3)).trans hc3;refine Zi ?_ rfl;clear hin hg;go_simp;all_goals go_arith
    ·refine Zb rfl fun a w' ek ef hg hin => ?_;have e23 : a (.tmp 23) = _ := Zd hin 1 rfl;refine Zi ?_ rfl;clear hin hg;go_simp;all_goals go_arith
    ·refine Zb rfl fun a w' ek ef hg hin => ?_;have e1 : a (.tmp 1) = .pointer (some ⟨w.heap.size, 0, none⟩) := Zu hin 1 rfl;refine Zi ?_ rfl;clear hin hg;go_simp;all_goals go_arith
    ·refine Zb rfl fun a w' ek ef hg hin => ?_;have e25 : a (.tmp 25) = _ := Zd hin 3 rfl;have h1 := (Below.cell hg (Zt hc0)).trans hc0;refine Zi ?_ rfl;clear hin hg;go_simp;all_goals go_arith
    ·refine Zb rfl fun a w' ek ef hg hin => ?_;have e26 : a (.tmp 26) = _ := Zd hin 4 rfl;refine Yu (f := 101) (args := #[.int .i64 k]) ?_ ((Zbb k w').mono ?_)
     ·clear hin hg;go_simp;all_goals go_arith
     ·rintro e w2 ⟨rfl, rfl⟩;exact ⟨_, rfl, Zn.refl _, rfl⟩
    ·refine Zb rfl fun a w' ek ef hg hin => ?_;have e24 : a (.tmp 24) = _ := Zd hin 2 rfl;have e27 : a (.tmp 27) = _ := Zd hin 5 rfl;refine Zi ?_ rfl;clear hin hg;go_simp;all_goals go_arith
    ·refine Zb rfl fun a w' ek ef hg hin => ?_;have e : a (.tmp 28) = _ := Zd hin 6 rfl;exact Yq rfl e
   ·intro vs w' hg ht;obtain ⟨q22, q23, q24, q25, q26, q27, q28, q21, -⟩ := ht;have r22 : vs 0 = .pointer (some ⟨w.heap.size, 3, none⟩) := q22;have r23 : vs 1 = .slice ao l.length cap := q23;have r24 : vs 2 = .int .i64 l.length := q24;have r25 : vs 3 = .pointer (some ⟨w.heap.size, 0, none⟩) := q25;have r26 : vs 4 = .int .i64 k := q26;have r27 : vs 5 = .int .i64 (Kp k) := q27;have r28 : vs 6 = .bool (decide (Kp k < (l.length : Int))) := q28;have r21 : vs 7 = .bool (decide (Kp k < (l.length : Int))) := q21;clear q22 q23 q24 q25 q26 q27 q28 q21;simp only [Z6, Act.put, List.setIfInBounds_toArray, List.set_cons_zero, List.set_cons_succ, r22, r23, r24, r25, r26, r27, r28, r21];clear r22 r23 r24 r25 r26 r27 r28 r21;have g2 : Zn w w' := g.trans hg;clear hg g hc0 hc3;by_cases hlt : Kp k < (l.length : Int)
    ·have HF : Hid (Yn ⟨k, y, n, l⟩ = 4) := by show Yn _ = 4; rw [HW.out, if_pos hlt]
     rw [decide_eq_true hlt];clear hlt;go_wp2;go_ret;exact ⟨Xj HF.out.symm, g2⟩
    ·have HF : Hid (Yn ⟨k, y, n, l⟩ = 0) := by show Yn _ = 0; rw [HW.out, if_neg hlt]
     rw [decide_eq_false hlt];clear hlt;go_wp2;go_ret;exact ⟨Xj HF.out.symm, g2⟩
  ·have d1 : (k != 1) = true := by simp [h]
   have d2 : (k != 2) = false := by simp [h]
   clear h;go_enter Tryz.func63, Tryz.ntmps63;go_wp2_with fail;refine (Jd k y n l _ _).mono ?_;rw [HR.out];rintro e w1 ⟨rfl, g1⟩;have g : Zn w w1 := (Zc _ _).trans g1;have hc0 : w1.cell? ⟨w.heap.size, 0, none⟩ = some (.int .i64 k) := (Below.cell g1 (p := ⟨w.heap.size, 0, none⟩) (by simp)).trans (by simp);have hc3 : w1.cell? ⟨w.heap.size, 3, none⟩ = some (.slice ao l.length cap) := (Below.cell g1 (p := ⟨w.heap.size, 3, none⟩) (by simp)).trans (by simp);clear g1;go_wp2_with fail;refine Z3 [ex (.pointer (some ⟨w.heap.size, 3, none⟩)), ex (.slice ao l.length cap), ex (.int .i64 l.length), ex (.pointer (some ⟨w.heap.size, 0, none⟩)), ex (.int .i64 k), ex (.int .i64 (Kp k)), ex (.bool (decide (Kp k < (l.length : Int)))), ex (.bool (decide (Kp k < (l.length : Int))))] (by kernel_rfl) (by kernel_rfl) ⟨Zh _, Zh _, Zh _, Zh _, Zh _, Zh _, Zh _, Zh _, trivial⟩ ?_ ?_
   ·refine ⟨?_, ?_, ?_, ?_, ?_, ?_, ?_, ?_, trivial⟩
    ·refine Zb rfl fun a w' ek ef hg hin => ?_;have e1 : a (.tmp 1) = .pointer (some ⟨w.heap.size, 0, none⟩) := Zu hin 1 rfl;refine Zi ?_ rfl;clear hin hg;go_simp;all_goals go_arith
    ·refine Zb rfl fun a w' ek ef hg hin => ?_;have e22 : a (.tmp 22) = _ := Zd hin 0 rfl;have h1 := (Below.cell hg (Zt hc3)).trans hc3;refine Zi ?_ rfl;clear hin hg;go_simp;all_goals go_arith
    ·refine Zb rfl fun a w' ek ef hg hin => ?_;have e23 : a (.tmp 23) = _ := Zd hin 1 rfl;refine Zi ?_ rfl;clear hin hg;go_simp;all_goals go_arith
    ·refine Zb rfl fun a w' ek ef hg hin => ?_;have e1 : a (.tmp 1) = .pointer (some ⟨w.heap.size, 0, none⟩) := Zu hin 1 rfl;refine Zi ?_ rfl;clear hin hg;go_simp;all_goals go_arith
    ·refine Zb rfl fun a w' ek ef hg hin => ?_;have e25 : a (.tmp 25) = _ := Zd hin 3 rfl;have h1 := (Below.cell hg (Zt hc0)).trans hc0;refine Zi ?_ rfl;clear hin hg;go_simp;all_goals go_arith
    ·refine Zb rfl fun a w' ek ef hg hin => ?_;have e26 : a (.tmp 26) = _ := Zd hin 4 rfl;refine Yu (f := 101) (args := #[.int .i64 k]) ?_ ((Zbb k w').mono ?_)
     ·clear hin hg;go_simp;all_goals go_arith
     ·rintro e w2 ⟨rfl, rfl⟩;exact ⟨_, rfl, Zn.refl _, rfl⟩
    ·refine Zb rfl fun a w' ek ef hg hin => ?_;have e24 : a (.tmp 24) = _ := Zd hin 2 rfl;have e27 : a (.tmp 27) = _ := Zd hin 5 rfl;refine Zi ?_ rfl;clear hin hg;go_simp;all_goals go_arith
    ·refine Zb rfl fun a w' ek ef hg hin => ?_;have e : a (.tmp 28) = _ := Zd hin 6 rfl;exact Yq rfl e
   ·intro vs w' hg ht;obtain ⟨q22, q23, q24, q25, q26, q27, q28, q21, -⟩ := ht;have r22 : vs 0 = .pointer (some ⟨w.heap.size, 3, none⟩) := q22;have r23 : vs 1 = .slice ao l.length cap := q23;have r24 : vs 2 = .int .i64 l.length := q24;have r25 : vs 3 = .pointer (some ⟨w.heap.size, 0, none⟩) := q25;have r26 : vs 4 = .int .i64 k := q26;have r27 : vs 5 = .int .i64 (Kp k) := q27;have r28 : vs 6 = .bool (decide (Kp k < (l.length : Int))) := q28;have r21 : vs 7 = .bool (decide (Kp k < (l.length : Int))) := q21;clear q22 q23 q24 q25 q26 q27 q28 q21;simp only [Z6, Act.put, List.setIfInBounds_toArray, List.set_cons_zero, List.set_cons_succ, r22, r23, r24, r25, r26, r27, r28, r21];clear r22 r23 r24 r25 r26 r27 r28 r21;have g2 : Zn w w' := g.trans hg;clear hg g hc0 hc3;by_cases hlt : Kp k < (l.length : Int)
    ·have HF : Hid (Yn ⟨k, y, n, l⟩ = 4) := by show Yn _ = 4; rw [HW.out, if_pos hlt]
     rw [decide_eq_true hlt];clear hlt;go_wp2;go_ret;exact ⟨Xj HF.out.symm, g2⟩
    ·have HF : Hid (Yn ⟨k, y, n, l⟩ = 0) := by show Yn _ = 0; rw [HW.out, if_neg hlt]
     rw [decide_eq_false hlt];clear hlt;go_wp2;go_ret;exact ⟨Xj HF.out.symm, g2⟩
  ·have d1 : (k != 1) = true := by simp [h]
   have d2 : (k != 2) = true := by simp [h]
   have d3 : (k != 3) = false := by simp [h]
   clear h;go_enter Tryz.func63, Tryz.ntmps63;go_wp2_with fail;refine (Jd k y n l _ _).mono ?_;rw [HR.out];rintro e w1 ⟨rfl, g1⟩;have g : Zn w w1 := (Zc _ _).trans g1;have hc0 : w1.cell? ⟨w.heap.size, 0, none⟩ = some (.int .i64 k) := (Below.cell g1 (p := ⟨w.heap.size, 0, none⟩) (by simp)).trans (by simp);have hc3 : w1.cell? ⟨w.heap.size, 3, none⟩ = some (.slice ao l.length cap) := (Below.cell g1 (p := ⟨w.heap.size, 3, none⟩) (by simp)).trans (by simp);clear g1;go_wp2_with fail;refine Z3 [ex (.pointer (some ⟨w.heap.size, 3, none⟩)), ex (.slice ao l.length cap), ex (.int .i64 l.length), ex (.pointer (some ⟨w.heap.size, 0, none⟩)), ex (.int .i64 k), ex (.int .i64 (Kp k)), ex (.bool (decide (Kp k < (l.length : Int)))), ex (.bool (decide (Kp k < (l.length : Int))))] (by kernel_rfl) (by kernel_rfl) ⟨Zh _, Zh _, Zh _, Zh _, Zh _, Zh _, Zh _, Zh _, trivial⟩ ?_ ?_
   ·refine ⟨?_, ?_, ?_, ?_, ?_, ?_, ?_, ?_, trivial⟩
    ·refine Zb rfl fun a w' ek ef hg hin => ?_;have e1 : a (.tmp 1) = .pointer (some ⟨w.heap.size, 0, none⟩) := Zu hin 1 rfl;refine Zi ?_ rfl;clear hin hg;go_simp;all_goals go_arith
    ·refine Zb rfl fun a w' ek ef hg hin => ?_;have e22 : a (.tmp 22) = _ := Zd hin 0 rfl;have h1 := (Below.cell hg (Zt hc3)).trans hc3;refine Zi ?_ rfl;clear hin hg;go_simp;all_goals go_arith
    ·refine Zb rfl fun a w' ek ef hg hin => ?_;have e23 : a (.tmp 23) = _ := Zd hin 1 rfl;refine Zi ?_ rfl;clear hin hg;go_simp;all_goals go_arith
    ·refine Zb rfl fun a w' ek ef hg hin => ?_;have e1 : a (.tmp 1) = .pointer (some ⟨w.heap.size, 0, none⟩) := Zu hin 1 rfl;refine Zi ?_ rfl;clear hin hg;go_simp;all_goals go_arith
    ·refine Zb rfl fun a w' ek ef hg hin => ?_;have e25 : a (.tmp 25) = _ := Zd hin 3 rfl;have h1 := (Below.cell hg (Zt hc0)).trans hc0;refine Zi ?_ rfl;clear hin hg;go_simp;all_goals go_arith
    ·refine Zb rfl fun a w' ek ef hg hin => ?_;have e26 : a (.tmp 26) = _ := Zd hin 4 rfl;refine Yu (f := 101) (args := #[.int .i64 k]) ?_ ((Zbb k w').mono ?_)
     ·clear hin hg;go_simp;all_goals go_arith
     ·rintro e w2 ⟨rfl, rfl⟩;exact ⟨_, rfl, Zn.refl _, rfl⟩
    ·refine Zb rfl fun a w' ek ef hg hin => ?_;have e24 : a (.tmp 24) = _ := Zd hin 2 rfl;have e27 : a (.tmp 27) = _ := Zd hin 5 rfl;refine Zi ?_ rfl;clear hin hg;go_simp;all_goals go_arith
    ·refine Zb rfl fun a w' ek ef hg hin => ?_;have e : a (.tmp 28) = _ := Zd hin 6 rfl;exact Yq rfl e
   ·intro vs w' hg ht;obtain ⟨q22, q23, q24, q25, q26, q27, q28, q21, -⟩ := ht;have r22 : vs 0 = .pointer (some ⟨w.heap.size, 3, none⟩) := q22;have r23 : vs 1 = .slice ao l.length cap := q23;have r24 : vs 2 = .int .i64 l.length := q24;have r25 : vs 3 = .pointer (some ⟨w.heap.size, 0, none⟩) := q25;have r26 : vs 4 = .int .i64 k := q26;have r27 : vs 5 = .int .i64 (Kp k) := q27;have r28 : vs 6 = .bool (decide (Kp k < (l.length : Int))) := q28;have r21 : vs 7 = .bool (decide (Kp k < (l.length : Int))) := q21;clear q22 q23 q24 q25 q26 q27 q28 q21;simp only [Z6, Act.put, List.setIfInBounds_toArray, List.set_cons_zero, List.set_cons_succ, r22, r23, r24, r25, r26, r27, r28, r21];clear r22 r23 r24 r25 r26 r27 r28 r21;have g2 : Zn w w' := g.trans hg;clear hg g hc0 hc3;by_cases hlt : Kp k < (l.length : Int)
    ·have HF : Hid (Yn ⟨k, y, n, l⟩ = 4) := by show Yn _ = 4; rw [HW.out, if_pos hlt]
     rw [decide_eq_true hlt];clear hlt;go_wp2;go_ret;exact ⟨Xj HF.out.symm, g2⟩
    ·have HF : Hid (Yn ⟨k, y, n, l⟩ = 0) := by show Yn _ = 0; rw [HW.out, if_neg hlt]
     rw [decide_eq_false hlt];clear hlt;go_wp2;go_ret;exact ⟨Xj HF.out.symm, g2⟩
theorem Zpc : Zwx := by
 rintro ⟨k, y, n, l⟩ a c w _ hb;by_cases hk : 1 ≤ k ∧ k ≤ 3
 ·exact Zqt k y n l _ w hk hb
 ·exact Zlh k y n l _ w (by omega)
end Go.Proofs.YtikhknkpndhakabGreat
