import Derived.Test.YtikhknkpndhakabGreatRDo
set_option maxHeartbeats 8000000
namespace Go.Proofs.YtikhknkpndhakabGreat
set_option maxRecDepth 100000
open Go.RowKit
open Plain Reg
def K5 (l : List Rec) (r : Rec) : Bool := l.any fun x => Qd x r
def K1 (a b : List Rec) : Bool := a.all (K5 b) && decide (a.length = b.length)
theorem Zua {l : List Rec} {k : Nat} (p : Rec → Bool) (h : k < l.length) : (l.take (k + 1)).any p = ((l.take k).any p || p l[k]) := by
 rw [List.take_succ_eq_append_getElem h, List.any_append]; simp
theorem Zub {l : List Rec} {k : Nat} (p : Rec → Bool) (h : k < l.length) : (l.take (k + 1)).all p = ((l.take k).all p && p l[k]) := by
 rw [List.take_succ_eq_append_getElem h, List.all_append]; simp
theorem Zfu (S S' : Nat → Prop) (s t : List Rec) (v u : Value) (w : World) (hs : Xg S w v s) (ht : Xg S' w u t) (hm : s.length ≤ 1000) (hn : t.length ≤ 1000) :
  Calls Tryz.prog 29 #[v, u] w fun e w' => e = .returned (.bool (K1 s t)) ∧ Zo w w' := by
 obtain ⟨ao, ca, rfl⟩ := hs.form;obtain ⟨bo, cb, rfl⟩ := ht.form;have g0 := Zb w (.cells #[.slice ao s.length ca, .slice bo t.length cb] 47);have hL0 := Zk w #[.slice ao s.length ca, .slice bo t.length cb] 47;obtain ⟨R, hR⟩ : ∃ R, R = K1 s t := ⟨_, rfl⟩;rw [← hR];have HR : Hid _ := hR;clear hR;go_enter Tryz.func29, Tryz.ntmps29;go_wp2_with fail;generalize World.alloc w _ = W at *;go_loopw [16] (fun i wr => ∃ k : Nat, k ≤ 2 ∧ i = .int .i64 k ∧ (1 ≤ k → s.all (K5 t) = true) ∧ Zo w wr ∧ wr.heap[w.heap.size]? = some (.cells #[.slice ao s.length ca, .slice bo t.length cb] 47 (0, 0))) (fun i _ => 2 - (intOf i).toNat)
 case atStart => exact ⟨0, Nat.zero_le _, rfl, fun h => by omega, g0, hL0⟩
 case round =>
  clear g0 hL0;obtain ⟨k, hk, rfl, hall, hg, hL⟩ := hrel;have HAL : Hid _ := hall;clear hall;by_cases hlt : k < 2
  ·obtain ⟨S1, S2, l1, l2, v1, v2, hl1, hl2, hm1, hm2, hc1, hc2, hc3⟩ : ∃ (S1 S2 : Nat → Prop) (l1 l2 : List Rec) (v1 v2 : Value), Xg S1 w v1 l1 ∧ Xg S2 w v2 l2 ∧ l1.length ≤ 1000 ∧ l2.length ≤ 1000 ∧ (#[.slice ao s.length ca, .slice bo t.length cb] : Array Value)[k]? = some v1 ∧ (#[.slice bo t.length cb, .slice ao s.length ca] : Array Value)[k]? = some v2 ∧ (k = 0 → l1 = s ∧ l2 = t) := by
    rcases k with _ | _ | k
    ·exact ⟨S, S', s, t, _, _, hs, ht, hm, hn, rfl, rfl, fun _ => ⟨rfl, rfl⟩⟩
    ·exact ⟨S', S, t, s, _, _, ht, hs, hn, hm, rfl, rfl, fun h => by omega⟩
    ·omega
   have q0 := Zd hL k _ hc1;have HC2 : Hid (∀ W : World, (W.alloc (.cells #[.slice bo t.length cb, .slice ao s.length ca] 47)).cell? ⟨W.heap.size, k, none⟩ = some v2) := fun W => Zd (Zk W _ _) k _ hc2
   have HC3 : Hid _ := hc3;obtain ⟨b1, d1, hf1⟩ := hl1.form;obtain ⟨b2, d2, hf2⟩ := hl2.form;subst hf1;subst hf2;clear hc1 hc2 hc3;go_wp2_with fail;have HLT : Hid (k < 2) := hlt;have hd : decide ((k : Int) < 2) = true := by simp; omega
   simp only [hd];clear q0 hlt hd;go_loopw [23] (fun i wo => ∃ j : Nat, j ≤ l1.length ∧ i = .int .i64 j ∧ (k = 0 → (l1.take j).all (K5 l2) = true) ∧ Zo w wo ∧ wo.heap[w.heap.size]? = some (.cells #[.slice ao s.length ca, .slice bo t.length cb] 47 (0, 0))) (fun i _ => l1.length - (intOf i).toNat)
   case atStart => exact ⟨0, Nat.zero_le _, rfl, fun _ => rfl, hg, hL⟩
   case round =>
    clear hg hL;obtain ⟨j, hj, rfl, hall, hg, hL⟩ := hrel;have HA1 : Hid _ := hall;clear hall;by_cases hjl : j < l1.length
    ·obtain ⟨b, off, a1, c1, hv1, q0, q1, q2, q3, hu⟩ := Kl (hl1.grow hg) j hjl;cases hv1;have HAN : Hid ((l1.take (j + 1)).all (K5 l2) = ((l1.take j).all (K5 l2) && K5 l2 l1[j])) := Zub _ hjl;have HMM : Hid (k = 0 → l1[j] ∈ s) := fun h => by have := (HC3.out h).1; rw [← this]; exact List.getElem_mem hjl
     generalize l1[j] = r at *;have g1 := Zr wr (.cells #[.int .i64 r.kind, .int .i64 r.key, .int .i64 r.ver, .slice a1 r.data.length c1] 51) (.cells #[.slice bo t.length cb, .slice ao s.length ca] 47);have hX0 := Zk wr #[.int .i64 r.kind, .int .i64 r.key, .int .i64 r.ver, .slice a1 r.data.length c1] 51;have hX1 := ((Zb (wr.alloc (.cells #[.int .i64 r.kind, .int .i64 r.key, .int .i64 r.ver, .slice a1 r.data.length c1] 51)) (.cells #[.slice bo t.length cb, .slice ao s.length ca] 47)).block _ (Za hX0)).trans hX0;have hL1 := (g1.block _ (Za hL)).trans hL;have c2 := HC2.out (wr.alloc (.cells #[.int .i64 r.kind, .int .i64 r.key, .int .i64 r.ver, .slice a1 r.data.length c1] 51));rw [World.size_alloc] at c2;have gw1 := hg.trans g1;have hu1 := hu.grow g1;clear hX0 hL hg hu g1;go_wp2_with fail;clear c2 q0 q1 q2 q3;generalize World.alloc (World.alloc wr _) _ = W2 at *;generalize wr.heap.size = gr at *;go_loopw [9, 34] (fun inn i wq => ∃ m : Nat, m ≤ l2.length ∧ i = .int .i64 m ∧ inn = .bool ((l2.take m).any fun x => Qd x r) ∧ Zo W2 wq) (fun _ i _ => l2.length - (intOf i).toNat)
     case atStart => exact ⟨0, Nat.zero_le _, rfl, rfl, Zo.refl _⟩
     case round =>
      obtain ⟨m, hm3, rfl, rfl, hgq⟩ := hrel;have hXq := (hgq.block _ (Za hX1)).trans hX1;have hLq := (hgq.block _ (Za hL1)).trans hL1;have gwq := gw1.trans hgq;have huq := hu1.grow hgq;by_cases hml : m < l2.length
      ·obtain ⟨b3, off3, a3, c3, hv3, p0, p1, p2, p3, hz⟩ := Kl (hl2.grow gwq) m hml;cases hv3;have HAN2 : Hid ((l2.take (m + 1)).any (fun x => Qd x r) = ((l2.take m).any (fun x => Qd x r) || Qd l2[m] r)) := Zua _ hml;generalize l2[m] = x at *;generalize (l2.take m).any (fun x => Qd x r) = I at *;have g3 := Zb wr (.cells #[.int .i64 x.kind, .int .i64 x.key, .int .i64 x.ver, .slice a3 x.data.length c3] 51);have hY := Zk wr #[.int .i64 x.kind, .int .i64 x.key, .int .i64 x.ver, .slice a3 x.data.length c3] 51;have hXy := (g3.block _ (Za hXq)).trans hXq;have gq3 := hgq.trans g3;have hz3 := hz.grow g3;have hu3 := huq.grow g3;clear hLq gwq huq hXq hgq g3 hz;cases I with
       | true =>
        have HT : Hid ((l2.take (m + 1)).any (fun x => Qd x r) = true) := by show _ = _; rw [HAN2.out]; rfl
        clear HAN2 hY hXy;go_wp2_with fail;go_roundw
        case rel => exact ⟨m + 1, by omega, by go_num, by rw [HT.out], gq3⟩
        case measure => simp [intOf]; omega
       | false =>
        have HT : Hid ((l2.take (m + 1)).any (fun x => Qd x r) = Qd x r) := by show _ = _; rw [HAN2.out]; rfl
        obtain ⟨x0, x1, x2, x3⟩ := Ye hY rfl rfl rfl rfl;obtain ⟨y0, y1, y2, y3⟩ := Ye hXy rfl rfl rfl rfl;clear HAN2 hY hXy;go_wp2_with fail;refine (Zh4 _ _ _ _ _ _ x.data r.data _ _ _ hz3.p hu3.p).mono ?_;obtain ⟨I2, hI2⟩ : ∃ I2, I2 = Qd x r := ⟨_, rfl⟩;rintro e w4 ⟨he, g4⟩;have he2 : e = .returned (.bool I2) := by rw [he, hI2]
        clear he;subst he2;have HI2 : Hid _ := hI2;clear hI2;have gq4 := gq3.trans g4;clear g4 gq3 hz3 hu3 x0 x1 x2 x3 y0 y1 y2 y3 p0 p1 p2 p3;go_wp2_with fail;go_roundw
        case rel => exact ⟨m + 1, by omega, by go_num, by rw [HT.out, HI2.out], gq4⟩
        case measure => simp [intOf]; omega
      ·have HIN : Hid ((l2.take m).any (fun x => Qd x r) = K5 l2 r) := by show _ = _; rw [List.take_of_length_le (by omega)]; rfl
       rw [HIN.out];clear HIN hXq huq;generalize hI : K5 l2 r = I at *;cases I with
       | true =>
        have HNX : Hid (k = 0 → (l1.take (j + 1)).all (K5 l2) = true) := fun h => by rw [HAN.out, HA1.out h]; simp
        clear hI HAN HA1 HMM;go_wp2_with fail;go_roundw
        case rel => exact ⟨j + 1, by omega, by go_num, HNX.out, gwq, hLq⟩
        case measure => simp [intOf]; omega
       | false =>
        by_cases hk0 : k = 0
        ·have hRf : R = false := by
          rw [HR.out];unfold K1;have h1 : s.all (K5 t) = false := by
           rw [List.all_eq_false];exact ⟨r, HMM.out hk0, by rw [← (HC3.out hk0).2, hI]; simp⟩
          rw [h1]; rfl
         subst hRf;have d0 : ((k : Int) == 0) = true := by simp [hk0]
         clear hI HAN HA1 HMM hk0;go_wp2_with fail;go_ret;exact ⟨rfl, gwq⟩
        ·have HNX : Hid (k = 0 → (l1.take (j + 1)).all (K5 l2) = true) := fun h => absurd h hk0
         have d0 : ((k : Int) == 0) = false := by simp; omega
         clear hI HAN HA1 HMM hk0;go_wp2_with fail;go_roundw
         case rel => exact ⟨j + 1, by omega, by go_num, HNX.out, gwq, hLq⟩
         case measure => simp [intOf]; omega
    ·have HNX : Hid (1 ≤ k + 1 → s.all (K5 t) = true) := fun _ => by
      by_cases hk0 : k = 0
      ·have h1 := HA1.out hk0;rw [List.take_of_length_le (by omega), (HC3.out hk0).1, (HC3.out hk0).2] at h1;exact h1
      ·exact HAL.out (by omega)
     clear HA1;go_wp2_with fail;go_roundw
     case rel => exact ⟨k + 1, HLT.out, by go_num, HNX.out, hg, hL⟩
     case measure => have := HLT.out; simp [intOf]; omega
  ·have HRR : Hid (R = decide (s.length = t.length)) := by show R = _; rw [HR.out]; unfold K1; rw [HAL.out (by omega)]; simp
   by_cases hle : s.length = t.length
   ·have d0 : ((s.length : Int) == (t.length : Int)) = true := by simp [hle]
    have HRT : Hid (R = true) := by show R = _; rw [HRR.out]; simp [hle]
    clear HRR hle;go_wp2_with fail;go_ret;exact ⟨by rw [HRT.out]; rfl, hg⟩
   ·have d0 : ((s.length : Int) == (t.length : Int)) = false := by simp; omega
    have HRF : Hid (R = false) := by show R = _; rw [HRR.out]; simp [hle]
    clear HRR hle;go_wp2_with fail;go_ret;exact ⟨by rw [HRF.out]; rfl, hg⟩
def Zwk : Prop := ∀ (d : Dd) (a : Option Addr) (c : Nat) (w : World), d.data.length ≤ 140737488355328 → Bytes w (.slice a d.data.length c) d.data →
 Calls Tryz.prog 63 #[.agg #[.int .i64 d.kind, .int .i64 d.key, .int .i64 d.num, .slice a d.data.length c]] w fun r w' => r = .returned (.int .i64 (Yj d)) ∧ Zo w w'
def Zxr : Prop := ∀ (S : Nat → Prop) (l : List Rec) (v : Value) (w : World), Zab l = true → Xg S w v l →
 Calls Tryz.prog 105 #[v] w fun r w' => r = .returned (.int .i64 (Xw l)) ∧ Zo w w'
def Zyp : Prop := ∀ (S : Nat → Prop) (l : List Rec) (d : Dd) (v : Value) (a : Option Addr) (c : Nat) (w : World), (∀ b, S b → b < w.heap.size) → Zab l = true → Yj d = 0 → Xg S w v l → Zz S w (.slice a d.data.length c) d.data →
 Calls Tryz.prog 36 #[v, .agg #[.int .i64 d.kind, .int .i64 d.key, .int .i64 d.num, .slice a d.data.length c]] w fun r w' => ∃ v', r = .returned (.tuple #[v', .int .i64 (doR l d).n, .int .i64 (doR l d).e]) ∧ Xg (Zw S w.heap.size) w' v' (doR l d).l ∧ Zo w w'
def Zyd : Prop := ∀ (S : Nat → Prop) (l : List Rec) (key : Int) (v : Value) (w : World), (∀ b, S b → b < w.heap.size) → Zab l = true → Xg S w v l →
 Calls Tryz.prog 50 #[v, .int .i64 key] w fun r w' => ∃ u, r = .returned (.tuple #[u, .int .i64 (Jb l key).e]) ∧ Zz (Zw S w.heap.size) w' u (Jb l key).data ∧ Zo w w'
theorem Zfw (l : List Rec) : Zab l = true ↔ (∀ r ∈ l, Z9 r = 0 ∧ r.kind ≠ 1) ∧ l.length ≤ 40 := by
 unfold Zab Zwn;simp only [Bool.and_eq_true, List.all_eq_true, decide_eq_true_eq]
theorem Jc {d : Dd} (h : Yj d = 0) : 1 ≤ d.kind ∧ d.kind ≤ 3 ∧ 1 ≤ d.key ∧ d.key ≤ 255 ∧ d.data.length ≤ 8 ∧ (d.kind = 1 ∨ d.data.length = 0) := by
 unfold Yj at h;by_cases h1 : d.kind < 1 ∨ 3 < d.kind
 ·rw [if_pos h1] at h; omega
 ·rw [if_neg h1] at h;generalize (if d.kind = 3 then (1 : Int) else 0) = lo at h;generalize (if d.kind = 3 then (60000 : Int) else 0) = hi at h;by_cases h2 : d.key < 1 ∨ 255 < d.key ∨ d.num < lo ∨ hi < d.num
  ·rw [if_pos h2] at h; omega
  ·rw [if_neg h2] at h;by_cases h3 : 8 < d.data.length ∨ d.kind ≠ 1 ∧ d.data.length ≠ 0
   ·rw [if_pos h3] at h; omega
   ·omega
theorem Zsk (w : World) (v : Value) (l : List UInt8) (h : Bytes w v l) : (convert 23 9 v).run Tryz.prog w = .ok (.string ⟨l.toArray⟩) w := Za1 w v l h
theorem Zic : ∀ (l : List Rec) (n : Int), n ≤ l.foldl (fun n r => if n ≤ r.ver then r.ver + 1 else n) n ∧ ∀ r ∈ l, r.ver < l.foldl (fun n r => if n ≤ r.ver then r.ver + 1 else n) n
 | [], n => ⟨Int.le_refl _, fun r h => by cases h⟩
 | x :: l, n => by
  rw [List.foldl_cons];obtain ⟨h1, h2⟩ := Zic l (if n ≤ x.ver then x.ver + 1 else n);have h3 : n ≤ (if n ≤ x.ver then x.ver + 1 else n) ∧ x.ver < (if n ≤ x.ver then x.ver + 1 else n) := by split <;> omega
  refine ⟨by omega, fun r hr => ?_⟩;rcases List.mem_cons.1 hr with rfl | hr
  ·omega
  ·exact h2 r hr
theorem Ze3 {l : List Rec} : 1 ≤ Xw l ∧ ∀ r ∈ l, r.ver < Xw l := Zic l 1
theorem Zc0 {d : Dd} {n : Int} (hw : Yj d = 0) (hk : d.kind ≠ 3) (h0 : 1 ≤ n) (h1 : n ≤ 60000) : Z9 (Xu d n) = 0 ∧ (Xu d n).kind ≠ 1 := by
 obtain ⟨a1, a2, a3, a4, a5, a6⟩ := Jc hw;have hkk : d.kind = 1 ∨ d.kind = 2 := by omega
 refine ⟨?_, show 1 + d.kind ≠ 1 by omega⟩;obtain ⟨dk, dy, dn, dd⟩ := d;simp only at hkk a3 a4 a5 a6;rcases hkk with rfl | rfl
 ·show Z9 ⟨2, dy, n, dd⟩ = 0;have h2 : Xl ⟨2, dy, n, dd⟩ = true := by simp [Xl]; omega
  unfold Z9;rw [if_neg (by simp), h2, if_neg (by simp), if_neg (by simp [Yw]; omega)]
 ·have h6 : dd = [] := List.eq_nil_of_length_eq_zero (by omega);show Z9 ⟨3, dy, n, dd⟩ = 0;have h2 : Xl ⟨3, dy, n, dd⟩ = true := by simp [Xl]; omega
  unfold Z9;rw [if_neg (by simp), h2, if_neg (by simp), if_neg (by simp [Yw, h6])]
theorem Zbs (l : List Rec) : K1 l l = true := by
 unfold K1;simp only [Bool.and_eq_true, List.all_eq_true, decide_eq_true_eq, and_true];intro r hr;unfold K5;rw [List.any_eq_true];exact ⟨r, hr, Zmv r⟩
end Go.Proofs.YtikhknkpndhakabGreat
