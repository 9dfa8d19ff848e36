import Derived.Test.YtpdnapbchcdhlabRow
set_option maxHeartbeats 8000000
namespace Go.Proofs.Ytpdnapbchcdhlab
set_option maxRecDepth 100000
open Go.RowKit
open Plain Reg
structure Dd where
 kind : Int
 key : Int
 num : Int
 data : List UInt8
def Zq (d : Dd) : Int :=
 if d.kind < 1 ∨ 3 < d.kind then 1
 else if d.key < 1 ∨ 255 < d.key ∨ d.num < (if d.kind = 3 then 1 else 0) ∨ (if d.kind = 3 then 60000 else 0) < d.num then 3
 else if 8 < d.data.length ∨ d.kind ≠ 1 ∧ d.data.length ≠ 0 then 4 else 0
theorem Qz (d : Dd) (a : Option Addr) (c : Nat) (w : World) (hm : d.data.length ≤ 140737488355328) :
  Calls Try.prog 19 #[.agg #[.int .i64 d.kind, .int .i64 d.key, .int .i64 d.num, .slice a d.data.length c]] w fun r w' => r = .returned (.int .i64 (Zq d)) ∧ Zi w w' := by
 have g0 := Ze w (.cells #[.int .i64 d.kind, .int .i64 d.key, .int .i64 d.num, .slice a d.data.length c] 47);obtain ⟨R, hR⟩ : ∃ R, R = Zq d := ⟨_, rfl⟩;rw [← hR];have HR : Hid _ := hR;clear hR;by_cases hk : d.kind < 1 ∨ 3 < d.kind
 ·have hRR : R = 1 := by rw [HR.out]; unfold Zq; rw [if_pos hk]
  subst hRR;rcases Int.lt_or_le d.kind 1 with h1 | h1
  ·clear hk;go_enter Try.func19, Try.ntmps19;go_wp2_with fail;go_ret;exact ⟨rfl, g0⟩
  ·have h2 : 3 < d.kind := by omega
   clear hk;go_enter Try.func19, Try.ntmps19;go_wp2_with fail;go_ret;exact ⟨rfl, g0⟩
 ·have h1 : 1 ≤ d.kind := by omega
  have h2 : d.kind ≤ 3 := by omega
  have HR2 : Hid (R = if d.key < 1 ∨ 255 < d.key ∨ d.num < (if d.kind = 3 then 1 else 0) ∨ (if d.kind = 3 then 60000 else 0) < d.num then 3 else if 8 < d.data.length ∨ d.kind ≠ 1 ∧ d.data.length ≠ 0 then 4 else 0) := by
   show R = _; rw [HR.out]; unfold Zq; rw [if_neg hk]
  clear hk HR;have key : ∀ lo hi : Int, (if d.kind = 3 then 1 else 0) = lo → (if d.kind = 3 then 60000 else 0) = hi → (d.key < 1 → R = 3) ∧ (255 < d.key → R = 3) ∧ (d.num < lo → R = 3) ∧ (hi < d.num → R = 3) ∧ (1 ≤ d.key → d.key ≤ 255 → lo ≤ d.num → d.num ≤ hi → (8 < d.data.length → R = 4) ∧ (d.kind ≠ 1 → d.data.length ≠ 0 → R = 4) ∧ (d.data.length ≤ 8 → (d.kind = 1 ∨ d.data.length = 0) → R = 0)) := by
   rintro lo hi rfl rfl;refine ⟨fun h => ?_, fun h => ?_, fun h => ?_, fun h => ?_, fun a1 a2 a3 a4 => ⟨fun h => ?_, fun h h' => ?_, fun h h' => ?_⟩⟩
   ·rw [HR2.out, if_pos (.inl h)]
   ·rw [HR2.out, if_pos (.inr (.inl h))]
   ·rw [HR2.out, if_pos (.inr (.inr (.inl h)))]
   ·rw [HR2.out, if_pos (.inr (.inr (.inr h)))]
   ·rw [HR2.out, if_neg (by omega), if_pos (.inl h)]
   ·rw [HR2.out, if_neg (by omega), if_pos (.inr ⟨h, h'⟩)]
   ·rw [HR2.out, if_neg (by omega), if_neg (by omega)]
  by_cases h3 : d.kind = 3
  ·obtain ⟨k1, k2, k3, k4, k5⟩ := key 1 60000 (by rw [if_pos h3]) (by rw [if_pos h3]);have K : Hid _ := And.intro k1 (And.intro k2 (And.intro k3 (And.intro k4 k5)));have d3 : (d.kind == 3) = true := by simp [h3]
   have d1 : (d.kind != 1) = true := by simp; omega
   clear key HR2 k1 k2 k3 k4 k5;by_cases y1 : d.key < 1
   ·obtain rfl := (K.out.1 y1).symm;clear h3 K;go_enter Try.func19, Try.ntmps19;go_wp2_with fail;go_ret;exact ⟨rfl, g0⟩
   ·by_cases y2 : 255 < d.key
    ·obtain rfl := (K.out.2.1 y2).symm;clear h3 K;go_enter Try.func19, Try.ntmps19;go_wp2_with fail;go_ret;exact ⟨rfl, g0⟩
    ·by_cases y3 : d.num < 1
     ·obtain rfl := (K.out.2.2.1 y3).symm;clear h3 K;go_enter Try.func19, Try.ntmps19;go_wp2_with fail;go_ret;exact ⟨rfl, g0⟩
     ·by_cases y4 : 60000 < d.num
      ·obtain rfl := (K.out.2.2.2.1 y4).symm;clear h3 K;go_enter Try.func19, Try.ntmps19;go_wp2_with fail;go_ret;exact ⟨rfl, g0⟩
      ·obtain ⟨k1, k2, k3⟩ := K.out.2.2.2.2 (by omega) (by omega) (by omega) (by omega);by_cases y5 : 8 < d.data.length
       ·obtain rfl := (k1 y5).symm;clear h3 K k1 k2 k3;go_enter Try.func19, Try.ntmps19;go_wp2_with fail;go_ret;exact ⟨rfl, g0⟩
       ·by_cases y6 : d.data.length = 0
        ·obtain rfl := (k3 (by omega) (.inr y6)).symm;have d6 : ((d.data.length : Int) != 0) = false := by simp; exact List.eq_nil_of_length_eq_zero y6
         clear h3 K k1 k2 k3 y6;go_enter Try.func19, Try.ntmps19;go_wp2_with fail;go_ret;exact ⟨rfl, g0⟩
        ·obtain rfl := (k2 (by omega) y6).symm;have d6 : ((d.data.length : Int) != 0) = true := by simp; intro e; exact y6 (by rw [e]; rfl)
         clear h3 K k1 k2 k3 y6;go_enter Try.func19, Try.ntmps19;go_wp2_with fail;go_ret;exact ⟨rfl, g0⟩
  ·obtain ⟨k1, k2, k3, k4, k5⟩ := key 0 0 (by rw [if_neg h3]) (by rw [if_neg h3]);have K : Hid _ := And.intro k1 (And.intro k2 (And.intro k3 (And.intro k4 k5)));have d3 : (d.kind == 3) = false := by simp [h3]
   clear key HR2 k1 k2 k3 k4 k5;by_cases y1 : d.key < 1
   ·obtain rfl := (K.out.1 y1).symm;clear h3 K;go_enter Try.func19, Try.ntmps19;go_wp2_with fail;go_ret;exact ⟨rfl, g0⟩
   ·by_cases y2 : 255 < d.key
    ·obtain rfl := (K.out.2.1 y2).symm;clear h3 K;go_enter Try.func19, Try.ntmps19;go_wp2_with fail;go_ret;exact ⟨rfl, g0⟩
    ·by_cases y3 : d.num < 0
     ·obtain rfl := (K.out.2.2.1 y3).symm;clear h3 K;go_enter Try.func19, Try.ntmps19;go_wp2_with fail;go_ret;exact ⟨rfl, g0⟩
     ·by_cases y4 : 0 < d.num
      ·obtain rfl := (K.out.2.2.2.1 y4).symm;clear h3 K;go_enter Try.func19, Try.ntmps19;go_wp2_with fail;go_ret;exact ⟨rfl, g0⟩
      ·obtain ⟨k1, k2, k3⟩ := K.out.2.2.2.2 (by omega) (by omega) (by omega) (by omega);by_cases y5 : 8 < d.data.length
       ·obtain rfl := (k1 y5).symm;clear h3 K k1 k2 k3;go_enter Try.func19, Try.ntmps19;go_wp2_with fail;go_ret;exact ⟨rfl, g0⟩
       ·by_cases y7 : d.kind = 1
        ·obtain rfl := (k3 (by omega) (.inl y7)).symm;have d7 : (d.kind != 1) = false := by simp [y7]
         clear h3 K k1 k2 k3 y7;go_enter Try.func19, Try.ntmps19;go_wp2_with fail;go_ret;exact ⟨rfl, g0⟩
        ·have d7 : (d.kind != 1) = true := by simp [y7]
         by_cases y6 : d.data.length = 0
         ·obtain rfl := (k3 (by omega) (.inr y6)).symm;have d6 : ((d.data.length : Int) != 0) = false := by simp; exact List.eq_nil_of_length_eq_zero y6
          clear h3 K k1 k2 k3 y6 y7;go_enter Try.func19, Try.ntmps19;go_wp2_with fail;go_ret;exact ⟨rfl, g0⟩
         ·obtain rfl := (k2 y7 y6).symm;have d6 : ((d.data.length : Int) != 0) = true := by simp; intro e; exact y6 (by rw [e]; rfl)
          clear h3 K k1 k2 k3 y6 y7;go_enter Try.func19, Try.ntmps19;go_wp2_with fail;go_ret;exact ⟨rfl, g0⟩
def Qe (r : Rec) : Bool := decide (Yd r = 0 ∧ r.kind ≠ 1)
def Z6 (l : List Rec) : Bool := l.all Qe && decide (l.length ≤ 40)
theorem Xr (S : Nat → Prop) (l : List Rec) (v : Value) (w : World) (hs : Zv S w v l) (hm : l.length ≤ 140737488355328) :
  Calls Try.prog 20 #[v] w fun r w' => r = .returned (.bool (Z6 l)) ∧ Zi w w' := by
 obtain ⟨ao, cp, rfl⟩ := hs.form;obtain ⟨R, hR⟩ : ∃ R, R = Z6 l := ⟨_, rfl⟩;rw [← hR];have HR : Hid _ := hR;clear hR;go_enter Try.func20, Try.ntmps20;go_wp2_with fail;go_loopw [7] (fun i wr => ∃ k : Nat, k ≤ l.length ∧ i = .int .i64 k ∧ Hid ((l.take k).all Qe = true) ∧ Zi w wr) (fun i _ => l.length - (intOf i).toNat)
 case atStart => exact ⟨0, Nat.zero_le _, rfl, (by show _ = true; simp), Zi.refl _⟩
 case round =>
  obtain ⟨k, hk, rfl, HK, gw⟩ := hrel;by_cases hlt : k < l.length
  ·obtain ⟨b, off, a1, c1, hv1, q0, q1, q2, q3, hu⟩ := Yf (hs.grow gw) k hlt;cases hv1;have HN : Hid ((Qe l[k] = true → (l.take (k + 1)).all Qe = true) ∧ (Qe l[k] = false → R = false)) := by
    refine ⟨fun h => ?_, fun h => ?_⟩
    ·rw [List.take_succ_eq_append_getElem hlt, List.all_append, HK.out]; simp [h]
    ·rw [HR.out];unfold Z6;have : l.all Qe = false := by
      rw [List.all_eq_false];exact ⟨l[k], List.getElem_mem _, by simp [h]⟩
     rw [this]; rfl
   generalize l[k] = x at *;have g1 := Ze wr (.cells #[.int .i64 x.kind, .int .i64 x.key, .int .i64 x.ver, .slice a1 x.data.length c1] 33);have hX1 := Zs wr #[.int .i64 x.kind, .int .i64 x.key, .int .i64 x.ver, .slice a1 x.data.length c1] 33;have gw1 := gw.trans g1;have hu1 := Zo hu.p g1;obtain ⟨x0, x1, x2, x3⟩ := Yt hX1 rfl rfl rfl rfl;clear g1 hu gw HK;go_wp2_with fail;refine (Jg _ _ _ x.data _ _ hu1).mono ?_;have HW : Hid (Yd ⟨x.kind, x.key, x.ver, x.data⟩ = Yd x) := rfl;rw [HW.out];by_cases hw : Yd x = 0
   ·rw [hw];rintro r w2 ⟨rfl, g2⟩;have hX2 := (g2.block _ (Zf hX1)).trans hX1;have gw2 := gw1.trans g2;clear x0 x1 x2 x3 gw1 hu1 hX1;have x0 := Zp hX2 0 _ rfl;by_cases hk1 : x.kind = 1
    ·have d1 : (x.kind == 1) = true := by simp [hk1]
     have hRf : R = false := HN.out.2 (by simp [Qe, hk1]);subst hRf;clear HN hk1 hw HW;go_wp2_with fail;go_ret;exact ⟨rfl, gw2⟩
    ·have d1 : (x.kind == 1) = false := by simp [hk1]
     have HN2 : Hid _ := HN.out.1 (by simp [Qe, hk1, hw]);clear HN hk1 hw HW;go_wp2_with fail;go_roundw
     case rel => exact ⟨k + 1, by omega, by go_num, HN2, gw2⟩
     case measure => simp [intOf]; omega
   ·have hRf : R = false := HN.out.2 (by simp [Qe, hw]);subst hRf;have d0 : (Yd x != 0) = true := by simp [hw]
    generalize Yd x = E at *;clear HN HW hw;rintro r w2 ⟨rfl, g2⟩;have gw2 := gw1.trans g2;clear x0 x1 x2 x3 gw1 hu1 hX1;go_wp2_with fail;go_ret;exact ⟨rfl, gw2⟩
  ·have HE : Hid (R = decide (l.length ≤ 40)) := by
    show R = _;have h := HK.out;rw [show k = l.length from by omega, List.take_length] at h;rw [HR.out]; unfold Z6; rw [h, Bool.true_and]
   clear HK HR;go_wp2_with fail;go_ret;refine ⟨?_, gw⟩;show Ending.returned (.bool (decide ((l.length : Int) ≤ 40))) = _;rw [HE.out];by_cases h40 : l.length ≤ 40
   ·rw [decide_eq_true h40, decide_eq_true (by omega)]
   ·rw [decide_eq_false h40, decide_eq_false (by omega)]
def Yc (l : List Rec) : Int := l.foldl (fun n r => if n ≤ r.ver then r.ver + 1 else n) 1
theorem Vf (l : List Rec) (k : Nat) (h : k < l.length) : Yc (l.take (k + 1)) = if Yc (l.take k) ≤ l[k].ver then l[k].ver + 1 else Yc (l.take k) := by
 unfold Yc;rw [List.take_succ_eq_append_getElem h, List.foldl_append]; rfl
theorem Za2 (l : List Rec) (h : ∀ r ∈ l, r.ver ≤ 60000) : 1 ≤ Yc l ∧ Yc l ≤ 60001 := by
 have key : ∀ (l : List Rec) (n : Int), (∀ r ∈ l, r.ver ≤ 60000) → 1 ≤ n → n ≤ 60001 → 1 ≤ l.foldl (fun n r => if n ≤ r.ver then r.ver + 1 else n) n ∧ l.foldl (fun n r => if n ≤ r.ver then r.ver + 1 else n) n ≤ 60001 := by
  intro l
  induction l with
  | nil => intro n _ h1 h2; exact ⟨h1, h2⟩
  | cons x l ih =>
   intro n hb h1 h2;rw [List.foldl_cons];have hx := hb x (by simp);refine ih _ (fun r hr => hb r (by simp [hr])) ?_ ?_ <;> split <;> omega
 exact key l 1 h (by omega) (by omega)
theorem V1 (S : Nat → Prop) (l : List Rec) (v : Value) (w : World) (hs : Zv S w v l) (hm : l.length ≤ 1000000) (hv : ∀ r ∈ l, r.ver ≤ 60000) :
  Calls Try.prog 24 #[v] w fun r w' => r = .returned (.int .i64 (Yc l)) ∧ Zi w w' := by
 obtain ⟨ao, cp, rfl⟩ := hs.form;obtain ⟨R, hR⟩ : ∃ R, R = Yc l := ⟨_, rfl⟩;rw [← hR];have HR : Hid _ := hR;have HV : Hid _ := hv;clear hR hv;go_enter Try.func24, Try.ntmps24;go_wp2_with fail;go_loopw [3, 8] (fun n i wr => ∃ (k : Nat) (N : Int), k ≤ l.length ∧ i = .int .i64 k ∧ n = .int .i64 N ∧ Hid (N = Yc (l.take k)) ∧ Zi w wr) (fun _ i _ => l.length - (intOf i).toNat)
 case atStart => exact ⟨0, 1, Nat.zero_le _, rfl, rfl, (by show _ = _; rfl), Zi.refl _⟩
 case round =>
  obtain ⟨k, N, hk, rfl, rfl, HK, gw⟩ := hrel;by_cases hlt : k < l.length
  ·obtain ⟨b, off, a1, c1, hv1, q0, q1, q2, q3, hu⟩ := Yf (hs.grow gw) k hlt;cases hv1;have HN : Hid (Yc (l.take (k + 1)) = if N ≤ l[k].ver then l[k].ver + 1 else N) := by show _ = _; rw [Vf l k hlt, HK.out]
   have hb1 : 1 ≤ N ∧ N ≤ 60001 := by rw [HK.out]; exact Za2 _ fun r hr => HV.out r (List.mem_of_mem_take hr)
   have hb2 : l[k].ver ≤ 60000 := HV.out _ (List.getElem_mem _);generalize l[k] = x at *;have g1 := Ze wr (.cells #[.int .i64 x.kind, .int .i64 x.key, .int .i64 x.ver, .slice a1 x.data.length c1] 33);have hX1 := Zs wr #[.int .i64 x.kind, .int .i64 x.key, .int .i64 x.ver, .slice a1 x.data.length c1] 33;have gw1 := gw.trans g1;have x2 := Zp hX1 2 _ rfl;clear g1 hu gw HK hX1;by_cases hn : N ≤ x.ver
   ·have HN2 : Hid (x.ver + 1 = Yc (l.take (k + 1))) := by show _ = _; rw [HN.out, if_pos hn]
    clear HN;go_wp2_with fail;go_roundw
    case rel => exact ⟨k + 1, x.ver + 1, by omega, by go_num, rfl, HN2, gw1⟩
    case measure => simp [intOf]; omega
   ·have HN2 : Hid (N = Yc (l.take (k + 1))) := by show _ = _; rw [HN.out, if_neg hn]
    clear HN;go_wp2_with fail;go_roundw
    case rel => exact ⟨k + 1, N, by omega, by go_num, rfl, HN2, gw1⟩
    case measure => simp [intOf]; omega
  ·have hNR : N = R := by rw [HK.out, HR.out, show k = l.length from by omega, List.take_length]
   subst hNR;clear HK HR;go_wp2_with fail;go_ret;exact ⟨rfl, gw⟩
def Zy (d : Dd) (n : Int) : Rec := ⟨1 + d.kind, d.key, n, d.data⟩
theorem V2 (d : Dd) (n : Int) (a : Option Addr) (c : Nat) (w : World) (hk0 : -1000 ≤ d.kind) (hk1 : d.kind ≤ 1000) :
  Calls Try.prog 30 #[.agg #[.int .i64 d.kind, .int .i64 d.key, .int .i64 d.num, .slice a d.data.length c], .int .i64 n] w fun r w' => r = .returned (.agg #[.int .i64 (1 + d.kind), .int .i64 d.key, .int .i64 n, .slice a d.data.length c]) ∧ Zi w w' := by
 have g0 := Zt w (.cells #[.int .i64 d.kind, .int .i64 d.key, .int .i64 d.num, .slice a d.data.length c] 47) (.cells #[.int .i64 (1 + d.kind), .int .i64 d.key, .int .i64 n, .slice a d.data.length c] 33);go_enter Try.func30, Try.ntmps30;go_wp2_with fail;exact bodyPost_ret (v := .agg #[.int .i64 (1 + d.kind), .int .i64 d.key, .int .i64 n, .slice a d.data.length c]) (by simp [results, Try.results30, go_sem]) rfl ⟨rfl, g0⟩
structure Got where
 n : Int
 e : Int
 data : List UInt8
def Yq (key : Int) (g : Got) (r : Rec) : Got := if r.key ≠ key ∨ r.ver ≤ g.n then g else if r.kind = 3 then ⟨r.ver, 10, []⟩ else ⟨r.ver, 0, r.data⟩
def Xm (l : List Rec) (key : Int) : Got := l.foldl (Yq key) ⟨0, 6, []⟩
theorem Kb (l : List Rec) (key : Int) (k : Nat) (h : k < l.length) : Xm (l.take (k + 1)) key = Yq key (Xm (l.take k) key) l[k] := by
 unfold Xm;rw [List.take_succ_eq_append_getElem h, List.foldl_append]; rfl
theorem Zab (S : Nat → Prop) (l : List Rec) (key : Int) (v : Value) (w : World) (hs : Zv S w v l) (hm : l.length ≤ 1000000) :
  Calls Try.prog 22 #[v, .int .i64 key] w fun r w' => ∃ u, r = .returned (.tuple #[u, .int .i64 (Xm l key).e]) ∧ Zu S w' u (Xm l key).data ∧ Zi w w' := by
 obtain ⟨ao, cp, rfl⟩ := hs.form;obtain ⟨G, hG⟩ : ∃ G, G = Xm l key := ⟨_, rfl⟩;rw [← hG];have HG : Hid _ := hG;clear hG;go_enter Try.func22, Try.ntmps22;go_wp2_with fail;go_loopw [6, 7, 8, 13] (fun n u e i wr => ∃ (k : Nat) (g : Got), k ≤ l.length ∧ i = .int .i64 k ∧ n = .int .i64 g.n ∧ e = .int .i64 g.e ∧ Zu S wr u g.data ∧ Hid (g = Xm (l.take k) key) ∧ Zi w wr) (fun _ _ _ i _ => l.length - (intOf i).toNat)
 case atStart => exact ⟨0, ⟨0, 6, []⟩, Nat.zero_le _, rfl, rfl, rfl, .inl ⟨none, 0, rfl, rfl, fun _ => rfl⟩, (by show _ = _; rfl), Zi.refl _⟩
 case round =>
  obtain ⟨k, g, hk, rfl, rfl, rfl, hB, HK, gw⟩ := hrel;obtain ⟨a0, c0, rfl⟩ := hB.form;by_cases hlt : k < l.length
  ·obtain ⟨b, off, a1, c1, hv1, q0, q1, q2, q3, hu⟩ := Yf (hs.grow gw) k hlt;cases hv1;have HN : Hid (Xm (l.take (k + 1)) key = Yq key g l[k]) := by show _ = _; rw [Kb l key k hlt, HK.out]
   generalize l[k] = x at *;have g1 := Ze wr (.cells #[.int .i64 x.kind, .int .i64 x.key, .int .i64 x.ver, .slice a1 x.data.length c1] 33);have hX1 := Zs wr #[.int .i64 x.kind, .int .i64 x.key, .int .i64 x.ver, .slice a1 x.data.length c1] 33;have gw1 := gw.trans g1;have hB1 := hB.grow g1;have hu1 := hu.grow g1;obtain ⟨x0, x1, x2, x3⟩ := Yt hX1 rfl rfl rfl rfl;clear g1 hu gw HK hX1 hB;by_cases hy : x.key = key
   ·have dy : (x.key != key) = false := by simp [hy]
    by_cases hn : x.ver ≤ g.n
    ·have HN2 : Hid (g = Xm (l.take (k + 1)) key) := by show _ = _; rw [HN.out]; unfold Yq; rw [if_pos (.inr hn)]
     clear HN hy;go_wp2_with fail;go_roundw
     case rel => exact ⟨k + 1, g, by omega, by go_num, rfl, rfl, hB1, HN2, gw1⟩
     case measure => simp [intOf]; omega
    ·by_cases h3 : x.kind = 3
     ·have d3 : (x.kind == 3) = true := by simp [h3]
      have HN2 : Hid (Got.mk x.ver 10 [] = Xm (l.take (k + 1)) key) := by show _ = _; rw [HN.out]; unfold Yq; rw [if_neg (by omega), if_pos h3]
      clear HN hy h3;go_wp2_with fail;go_roundw
      case rel => exact ⟨k + 1, ⟨x.ver, 10, []⟩, by omega, by go_num, rfl, rfl, .inl ⟨none, 0, rfl, rfl, fun _ => rfl⟩, HN2, gw1⟩
      case measure => simp [intOf]; omega
     ·have d3 : (x.kind == 3) = false := by simp [h3]
      have HN2 : Hid (Got.mk x.ver 0 x.data = Xm (l.take (k + 1)) key) := by show _ = _; rw [HN.out]; unfold Yq; rw [if_neg (by omega), if_neg h3]
      clear HN hy h3;go_wp2_with fail;go_roundw
      case rel => exact ⟨k + 1, ⟨x.ver, 0, x.data⟩, by omega, by go_num, rfl, rfl, hu1, HN2, gw1⟩
      case measure => simp [intOf]; omega
   ·have dy : (x.key != key) = true := by simp [hy]
    have HN2 : Hid (g = Xm (l.take (k + 1)) key) := by show _ = _; rw [HN.out]; unfold Yq; rw [if_pos (.inl hy)]
    clear HN hy;go_wp2_with fail;go_roundw
    case rel => exact ⟨k + 1, g, by omega, by go_num, rfl, rfl, hB1, HN2, gw1⟩
    case measure => simp [intOf]; omega
  ·have hgG : g = G := by rw [HK.out, HG.out, show k = l.length from by omega, List.take_length]
   subst hgG;clear HK HG;go_wp2_with fail
   go_ret2
   exact ⟨_, rfl, hB, gw⟩
end Go.Proofs.Ytpdnapbchcdhlab
