import Derived.Test.YtgaecpdokgklpacGreatDkLaw
set_option maxHeartbeats 8000000
namespace Go.Proofs.YtgaecpdokgklpacGreat
set_option maxRecDepth 100000
open Go.RowKit Go.ChangeShapes Go.WideShapes Go.ChangeAt Go.Deep
open Plain Reg
section
variable {H : Type} {enc : TypeId × Value → H} {W : World}
end
end Go.Proofs.YtgaecpdokgklpacGreat
namespace Go.Proofs.YtgaecpdokgklpacGreat
set_option maxRecDepth 100000
open Go.RowKit
open Plain Reg
structure Dd where
 kind : Int
 key : Int
 num : Int
 data : List UInt8
def Yw (d : Dd) : Int :=
 if d.kind < 1 ∨ 3 < d.kind then 1
 else if d.key < 1 ∨ 255 < d.key ∨ d.num < (if d.kind = 3 then 1 else 0) ∨ (if d.kind = 3 then 60000 else 0) < d.num then 3
 else if 8 < d.data.length ∨ d.kind ≠ 1 ∧ d.data.length ≠ 0 then 4 else 0
theorem Zjk (d : Dd) (a : Option Addr) (c : Nat) (w : World) (hm : d.data.length ≤ 140737488355328) :
  Calls Tryz.prog 76 #[.agg #[.int .i64 d.kind, .int .i64 d.key, .int .i64 d.num, .slice a d.data.length c]] w fun r w' => r = .returned (.int .i64 (Yw d)) ∧ Zo w w' := by
 have g0 := Zc w (.cells #[.int .i64 d.kind, .int .i64 d.key, .int .i64 d.num, .slice a d.data.length c] 47);obtain ⟨R, hR⟩ : ∃ R, R = Yw d := ⟨_, rfl⟩;rw [← hR];have HR : Hid _ := hR;clear hR;by_cases hk : d.kind < 1 ∨ 3 < d.kind
 ·have hRR : R = 1 := by rw [HR.out]; unfold Yw; rw [if_pos hk]
  subst hRR;rcases Int.lt_or_le d.kind 1 with h1 | h1
  ·clear hk;go_enter Tryz.func76, Tryz.ntmps76;go_wp2_with fail;go_ret;exact ⟨rfl, g0⟩
  ·have h2 : 3 < d.kind := by omega
   clear hk;go_enter Tryz.func76, Tryz.ntmps76;go_wp2_with fail;go_ret;exact ⟨rfl, g0⟩
 ·have h1 : 1 ≤ d.kind := by omega
  have h2 : d.kind ≤ 3 := by omega
  have HR2 : Hid (R = if d.key < 1 ∨ 255 < d.key ∨ d.num < (if d.kind = 3 then 1 else 0) ∨ (if d.kind = 3 then 60000 else 0) < d.num then 3 else if 8 < d.data.length ∨ d.kind ≠ 1 ∧ d.data.length ≠ 0 then 4 else 0) := by
   show R = _; rw [HR.out]; unfold Yw; rw [if_neg hk]
  clear hk HR;have key : ∀ lo hi : Int, (if d.kind = 3 then 1 else 0) = lo → (if d.kind = 3 then 60000 else 0) = hi → (d.key < 1 → R = 3) ∧ (255 < d.key → R = 3) ∧ (d.num < lo → R = 3) ∧ (hi < d.num → R = 3) ∧ (1 ≤ d.key → d.key ≤ 255 → lo ≤ d.num → d.num ≤ hi → (8 < d.data.length → R = 4) ∧ (d.kind ≠ 1 → d.data.length ≠ 0 → R = 4) ∧ (d.data.length ≤ 8 → (d.kind = 1 ∨ d.data.length = 0) → R = 0)) := by
   rintro lo hi rfl rfl;refine ⟨fun h => ?_, fun h => ?_, fun h => ?_, fun h => ?_, fun a1 a2 a3 a4 => ⟨fun h => ?_, fun h h' => ?_, fun h h' => ?_⟩⟩
   ·rw [HR2.out, if_pos (.inl h)]
   ·rw [HR2.out, if_pos (.inr (.inl h))]
   ·rw [HR2.out, if_pos (.inr (.inr (.inl h)))]
   ·rw [HR2.out, if_pos (.inr (.inr (.inr h)))]
   ·rw [HR2.out, if_neg (by omega), if_pos (.inl h)]
   ·rw [HR2.out, if_neg (by omega), if_pos (.inr ⟨h, h'⟩)]
   ·rw [HR2.out, if_neg (by omega), if_neg (by omega)]
  by_cases h3 : d.kind = 3
  ·obtain ⟨k1, k2, k3, k4, k5⟩ := key 1 60000 (by rw [if_pos h3]) (by rw [if_pos h3]);have K : Hid _ := And.intro k1 (And.intro k2 (And.intro k3 (And.intro k4 k5)));have d3 : (d.kind == 3) = true := by simp [h3]
   have d1 : (d.kind != 1) = true := by simp; omega
   clear key HR2 k1 k2 k3 k4 k5;by_cases y1 : d.key < 1
   ·obtain rfl := (K.out.1 y1).symm;clear h3 K;go_enter Tryz.func76, Tryz.ntmps76;go_wp2_with fail;go_ret;exact ⟨rfl, g0⟩
   ·by_cases y2 : 255 < d.key
    ·obtain rfl := (K.out.2.1 y2).symm;clear h3 K;go_enter Tryz.func76, Tryz.ntmps76;go_wp2_with fail;go_ret;exact ⟨rfl, g0⟩
    ·by_cases y3 : d.num < 1
     ·obtain rfl := (K.out.2.2.1 y3).symm;clear h3 K;go_enter Tryz.func76, Tryz.ntmps76;go_wp2_with fail;go_ret;exact ⟨rfl, g0⟩
     ·by_cases y4 : 60000 < d.num
      ·obtain rfl := (K.out.2.2.2.1 y4).symm;clear h3 K;go_enter Tryz.func76, Tryz.ntmps76;go_wp2_with fail;go_ret;exact ⟨rfl, g0⟩
      ·obtain ⟨k1, k2, k3⟩ := K.out.2.2.2.2 (by omega) (by omega) (by omega) (by omega);by_cases y5 : 8 < d.data.length
       ·obtain rfl := (k1 y5).symm;clear h3 K k1 k2 k3;go_enter Tryz.func76, Tryz.ntmps76;go_wp2_with fail;go_ret;exact ⟨rfl, g0⟩
       ·by_cases y6 : d.data.length = 0
        ·obtain rfl := (k3 (by omega) (.inr y6)).symm;have d6 : ((d.data.length : Int) != 0) = false := by simp; exact List.eq_nil_of_length_eq_zero y6
         clear h3 K k1 k2 k3 y6;go_enter Tryz.func76, Tryz.ntmps76;go_wp2_with fail;go_ret;exact ⟨rfl, g0⟩
        ·obtain rfl := (k2 (by omega) y6).symm;have d6 : ((d.data.length : Int) != 0) = true := by simp; intro e; exact y6 (by rw [e]; rfl)
         clear h3 K k1 k2 k3 y6;go_enter Tryz.func76, Tryz.ntmps76;go_wp2_with fail;go_ret;exact ⟨rfl, g0⟩
  ·obtain ⟨k1, k2, k3, k4, k5⟩ := key 0 0 (by rw [if_neg h3]) (by rw [if_neg h3]);have K : Hid _ := And.intro k1 (And.intro k2 (And.intro k3 (And.intro k4 k5)));have d3 : (d.kind == 3) = false := by simp [h3]
   clear key HR2 k1 k2 k3 k4 k5;by_cases y1 : d.key < 1
   ·obtain rfl := (K.out.1 y1).symm;clear h3 K;go_enter Tryz.func76, Tryz.ntmps76;go_wp2_with fail;go_ret;exact ⟨rfl, g0⟩
   ·by_cases y2 : 255 < d.key
    ·obtain rfl := (K.out.2.1 y2).symm;clear h3 K;go_enter Tryz.func76, Tryz.ntmps76;go_wp2_with fail;go_ret;exact ⟨rfl, g0⟩
    ·by_cases y3 : d.num < 0
     ·obtain rfl := (K.out.2.2.1 y3).symm;clear h3 K;go_enter Tryz.func76, Tryz.ntmps76;go_wp2_with fail;go_ret;exact ⟨rfl, g0⟩
     ·by_cases y4 : 0 < d.num
      ·obtain rfl := (K.out.2.2.2.1 y4).symm;clear h3 K;go_enter Tryz.func76, Tryz.ntmps76;go_wp2_with fail;go_ret;exact ⟨rfl, g0⟩
      ·obtain ⟨k1, k2, k3⟩ := K.out.2.2.2.2 (by omega) (by omega) (by omega) (by omega);by_cases y5 : 8 < d.data.length
       ·obtain rfl := (k1 y5).symm;clear h3 K k1 k2 k3;go_enter Tryz.func76, Tryz.ntmps76;go_wp2_with fail;go_ret;exact ⟨rfl, g0⟩
       ·by_cases y7 : d.kind = 1
        ·obtain rfl := (k3 (by omega) (.inl y7)).symm;have d7 : (d.kind != 1) = false := by simp [y7]
         clear h3 K k1 k2 k3 y7;go_enter Tryz.func76, Tryz.ntmps76;go_wp2_with fail;go_ret;exact ⟨rfl, g0⟩
        ·have d7 : (d.kind != 1) = true := by simp [y7]
         by_cases y6 : d.data.length = 0
         ·obtain rfl := (k3 (by omega) (.inr y6)).symm;have d6 : ((d.data.length : Int) != 0) = false := by simp; exact List.eq_nil_of_length_eq_zero y6
          clear h3 K k1 k2 k3 y6 y7;go_enter Tryz.func76, Tryz.ntmps76;go_wp2_with fail;go_ret;exact ⟨rfl, g0⟩
         ·obtain rfl := (k2 y7 y6).symm;have d6 : ((d.data.length : Int) != 0) = true := by simp; intro e; exact y6 (by rw [e]; rfl)
          clear h3 K k1 k2 k3 y6 y7;go_enter Tryz.func76, Tryz.ntmps76;go_wp2_with fail;go_ret;exact ⟨rfl, g0⟩
def Zvc (r : Rec) : Bool := decide (Ye r = 0 ∧ r.kind ≠ 1)
def Zah (l : List Rec) : Bool := l.all Zvc && decide (l.length ≤ 40)
def Qp (l : List Rec) : Int := l.foldl (fun n r => if n ≤ r.ver then r.ver + 1 else n) 1
theorem Zfj (l : List Rec) (k : Nat) (h : k < l.length) : Qp (l.take (k + 1)) = if Qp (l.take k) ≤ l[k].ver then l[k].ver + 1 else Qp (l.take k) := by
 unfold Qp;rw [List.take_succ_eq_append_getElem h, List.foldl_append]; rfl
theorem Zr9 (l : List Rec) (h : ∀ r ∈ l, r.ver ≤ 60000) : 1 ≤ Qp l ∧ Qp l ≤ 60001 := by
 have key : ∀ (l : List Rec) (n : Int), (∀ r ∈ l, r.ver ≤ 60000) → 1 ≤ n → n ≤ 60001 → 1 ≤ l.foldl (fun n r => if n ≤ r.ver then r.ver + 1 else n) n ∧ l.foldl (fun n r => if n ≤ r.ver then r.ver + 1 else n) n ≤ 60001 := by
  intro l
  induction l with
  | nil => intro n _ h1 h2; exact ⟨h1, h2⟩
  | cons x l ih =>
   intro n hb h1 h2;rw [List.foldl_cons];have hx := hb x (by simp);refine ih _ (fun r hr => hb r (by simp [hr])) ?_ ?_ <;> split <;> omega
 exact key l 1 h (by omega) (by omega)
theorem Zov (S : Nat → Prop) (l : List Rec) (v : Value) (w : World) (hs : Ql S w v l) (hm : l.length ≤ 1000000) (hv : ∀ r ∈ l, r.ver ≤ 60000) :
  Calls Tryz.prog 106 #[v] w fun r w' => r = .returned (.int .i64 (Qp l)) ∧ Zo w w' := by
 obtain ⟨ao, cp, rfl⟩ := hs.form;obtain ⟨R, hR⟩ : ∃ R, R = Qp l := ⟨_, rfl⟩;rw [← hR];have HR : Hid _ := hR;have HV : Hid _ := hv;clear hR hv;go_enter Tryz.func106, Tryz.ntmps106;go_wp2_with fail;go_loopw [3, 8] (fun n i wr => ∃ (k : Nat) (N : Int), k ≤ l.length ∧ i = .int .i64 k ∧ n = .int .i64 N ∧ Hid (N = Qp (l.take k)) ∧ Zo w wr) (fun _ i _ => l.length - (intOf i).toNat)
 case atStart => exact ⟨0, 1, Nat.zero_le _, rfl, rfl, (by show _ = _; rfl), Zo.refl _⟩
 case round =>
  obtain ⟨k, N, hk, rfl, rfl, HK, gw⟩ := hrel;by_cases hlt : k < l.length
  ·obtain ⟨b, off, a1, c1, hv1, q0, q1, q2, q3, hu⟩ := Zai (hs.grow gw) k hlt;cases hv1;have HN : Hid (Qp (l.take (k + 1)) = if N ≤ l[k].ver then l[k].ver + 1 else N) := by show _ = _; rw [Zfj l k hlt, HK.out]
   have hb1 : 1 ≤ N ∧ N ≤ 60001 := by rw [HK.out]; exact Zr9 _ fun r hr => HV.out r (List.mem_of_mem_take hr)
   have hb2 : l[k].ver ≤ 60000 := HV.out _ (List.getElem_mem _);generalize l[k] = x at *;have g1 := Zc wr (.cells #[.int .i64 x.kind, .int .i64 x.key, .int .i64 x.ver, .slice a1 x.data.length c1] 61);have hX1 := Zj wr #[.int .i64 x.kind, .int .i64 x.key, .int .i64 x.ver, .slice a1 x.data.length c1] 61;have gw1 := gw.trans g1;have x2 := Zd hX1 2 _ rfl;clear g1 hu gw HK hX1;by_cases hn : N ≤ x.ver
   ·have HN2 : Hid (x.ver + 1 = Qp (l.take (k + 1))) := by show _ = _; rw [HN.out, if_pos hn]
    clear HN;go_wp2_with fail;go_roundw
    case rel => exact ⟨k + 1, x.ver + 1, by omega, by go_num, rfl, HN2, gw1⟩
    case measure => simp [intOf]; omega
   ·have HN2 : Hid (N = Qp (l.take (k + 1))) := by show _ = _; rw [HN.out, if_neg hn]
    clear HN;go_wp2_with fail;go_roundw
    case rel => exact ⟨k + 1, N, by omega, by go_num, rfl, HN2, gw1⟩
    case measure => simp [intOf]; omega
  ·have hNR : N = R := by rw [HK.out, HR.out, show k = l.length from by omega, List.take_length]
   subst hNR;clear HK HR;go_wp2_with fail;go_ret;exact ⟨rfl, gw⟩
def Qb (d : Dd) (n : Int) : Rec := ⟨1 + d.kind, d.key, n, d.data⟩
theorem Zg8 (d : Dd) (n : Int) (a : Option Addr) (c : Nat) (w : World) (hk0 : -1000 ≤ d.kind) (hk1 : d.kind ≤ 1000) :
  Calls Tryz.prog 78 #[.agg #[.int .i64 d.kind, .int .i64 d.key, .int .i64 d.num, .slice a d.data.length c], .int .i64 n] w fun r w' => r = .returned (.agg #[.int .i64 (1 + d.kind), .int .i64 d.key, .int .i64 n, .slice a d.data.length c]) ∧ Zo w w' := by
 have g0 := Zs w (.cells #[.int .i64 d.kind, .int .i64 d.key, .int .i64 d.num, .slice a d.data.length c] 47) (.cells #[.int .i64 (1 + d.kind), .int .i64 d.key, .int .i64 n, .slice a d.data.length c] 61);go_enter Tryz.func78, Tryz.ntmps78;go_wp2_with fail;exact bodyPost_ret (v := .agg #[.int .i64 (1 + d.kind), .int .i64 d.key, .int .i64 n, .slice a d.data.length c]) (by simp [results, Tryz.results78, go_sem]) rfl ⟨rfl, g0⟩
end Go.Proofs.YtgaecpdokgklpacGreat
namespace Go.Proofs.YtgaecpdokgklpacGreat
set_option maxRecDepth 100000
open Go.RowKit Go.ChangeShapes Go.WideShapes Go.ChangeAt Go.Deep
open Plain Reg
section
variable {H : Type} {enc : TypeId × Value → H} {W : World}
end
end Go.Proofs.YtgaecpdokgklpacGreat
namespace Go.Proofs.YtgaecpdokgklpacGreat
set_option maxRecDepth 100000
open Go.RowKit
open Plain Reg
def Y8 (a b : Ent) : Bool := if a.rc.key = b.rc.key then (if a.rc.ver = b.rc.ver then decide (a.pair < b.pair) else decide (a.rc.ver < b.rc.ver)) else decide (a.rc.key < b.rc.key)
def Xv (e : Ent) (st : List Ent × Bool) (x : Ent) : List Ent × Bool := if st.2 = false ∧ Y8 e x = true then (st.1 ++ [e] ++ [x], true) else (st.1 ++ [x], st.2)
def Q3 (e : Ent) (l : List Ent) : List Ent × Bool := l.foldl (Xv e) ([], false)
def Qi (e : Ent) (l : List Ent) : List Ent := if (Q3 e l).2 = true then (Q3 e l).1 else (Q3 e l).1 ++ [e]
theorem Zox (x y : Ent) (a b : Option Addr) (c c' : Nat) (w : World) :
  Calls Tryz.prog 79 #[.agg #[.int .i64 x.rc.kind, .int .i64 x.rc.key, .int .i64 x.rc.ver, .slice a x.rc.data.length c, .int .i64 x.pair], .agg #[.int .i64 y.rc.kind, .int .i64 y.rc.key, .int .i64 y.rc.ver, .slice b y.rc.data.length c', .int .i64 y.pair]] w fun e w' => e = .returned (.bool (Y8 x y)) ∧ Zo w w' := by
 have gW := Zs w (.cells #[.int .i64 x.rc.kind, .int .i64 x.rc.key, .int .i64 x.rc.ver, .slice a x.rc.data.length c, .int .i64 x.pair] 84) (.cells #[.int .i64 y.rc.kind, .int .i64 y.rc.key, .int .i64 y.rc.ver, .slice b y.rc.data.length c', .int .i64 y.pair] 84);by_cases hk : x.rc.key = y.rc.key
 ·have d0 : (x.rc.key != y.rc.key) = false := by simp [hk]
  by_cases hv : x.rc.ver = y.rc.ver
  ·have d1 : (x.rc.ver != y.rc.ver) = false := by simp [hv]
   have HL : Hid (Y8 x y = decide (x.pair < y.pair)) := by show Y8 x y = _; unfold Y8; rw [if_pos hk, if_pos hv]
   rw [HL.out];clear hk hv;go_enter Tryz.func79, Tryz.ntmps79;go_wp2_with fail;go_ret;exact ⟨rfl, gW⟩
  ·have d1 : (x.rc.ver != y.rc.ver) = true := by simp [hv]
   have HL : Hid (Y8 x y = decide (x.rc.ver < y.rc.ver)) := by show Y8 x y = _; unfold Y8; rw [if_pos hk, if_neg hv]
   rw [HL.out];clear hk hv;go_enter Tryz.func79, Tryz.ntmps79;go_wp2_with fail;go_ret;exact ⟨rfl, gW⟩
 ·have d0 : (x.rc.key != y.rc.key) = true := by simp [hk]
  have HL : Hid (Y8 x y = decide (x.rc.key < y.rc.key)) := by show Y8 x y = _; unfold Y8; rw [if_neg hk]
  rw [HL.out];clear hk;go_enter Tryz.func79, Tryz.ntmps79;go_wp2_with fail;go_ret;exact ⟨rfl, gW⟩
theorem Zhj (e : Ent) (l : List Ent) : (Q3 e l).1.length ≤ 2 * l.length := by
 have key : ∀ (l : List Ent) (st : List Ent × Bool), (l.foldl (Xv e) st).1.length ≤ st.1.length + 2 * l.length := by
  intro l
  induction l with
  | nil => intro st; simp
  | cons x l ih =>
   intro st;rw [List.foldl_cons, List.length_cons];have h1 := ih (Xv e st x);have h2 : (Xv e st x).1.length ≤ st.1.length + 2 := by unfold Xv; split <;> simp
   omega
 have h := key l ([], false);rw [List.length_nil] at h;unfold Q3;omega
theorem Zmn (e : Ent) (l : List Ent) (k : Nat) (h : k < l.length) : Q3 e (l.take (k + 1)) = Xv e (Q3 e (l.take k)) l[k] := by
 unfold Q3;rw [List.take_succ_eq_append_getElem h, List.foldl_append]; rfl
theorem Zd5 (S : Nat → Prop) (l : List Ent) (e : Ent) (v : Value) (a : Option Addr) (c : Nat) (w : World) (hS : ∀ b, S b → b < w.heap.size) (hl : Yr S w v l) (he : Z3 S w (.slice a e.rc.data.length c) e.rc.data) (hn : l.length ≤ 1000000) :
  Calls Tryz.prog 50 #[v, .agg #[.int .i64 e.rc.kind, .int .i64 e.rc.key, .int .i64 e.rc.ver, .slice a e.rc.data.length c, .int .i64 e.pair]] w fun r w' => ∃ v', r = .returned v' ∧ Yr (Zw S w.heap.size) w' v' (Qi e l) ∧ Zo w w' := by
 obtain ⟨i0, hif, hz0, hz1, hz2⟩ := info_parts J3;obtain ⟨ao, cp, rfl⟩ := hl.form;have g0 := Zc w (.cells #[.int .i64 e.rc.kind, .int .i64 e.rc.key, .int .i64 e.rc.ver, .slice a e.rc.data.length c, .int .i64 e.pair] 84);have hE0 := Zj w #[.int .i64 e.rc.kind, .int .i64 e.rc.key, .int .i64 e.rc.ver, .slice a e.rc.data.length c, .int .i64 e.pair] 84;obtain ⟨R, hR⟩ : ∃ R, R = Qi e l := ⟨_, rfl⟩;rw [← hR];have HR : Hid _ := hR;clear hR;go_enter Tryz.func50, Tryz.ntmps50;go_wp2_with fail;generalize World.alloc w _ = W at *;go_loopw [5, 6, 11] (fun o dn i wr => ∃ (k : Nat) (css : List (List Value)), k ≤ l.length ∧ i = .int .i64 k ∧ dn = .bool (Q3 e (l.take k)).2 ∧ Yt Xa S (w.heap.size + 1) o (Q3 e (l.take k)).1 css wr ∧ Zo w wr ∧ wr.heap[w.heap.size]? = some (.cells #[.int .i64 e.rc.kind, .int .i64 e.rc.key, .int .i64 e.rc.ver, .slice a e.rc.data.length c, .int .i64 e.pair] 84 (0, 0))) (fun _ _ i _ => l.length - (intOf i).toNat)
 case atStart => exact ⟨0, [], Nat.zero_le _, rfl, rfl, Yt.nil _ _ _ _, g0, hE0⟩
 case round =>
  clear g0 hE0;obtain ⟨k, css, hk, rfl, rfl, hR, hg, hE⟩ := hrel;have HS2 : Hid (∀ b, S b → b < w.heap.size) := hS;by_cases hlt : k < l.length
  ·obtain ⟨b, off, a1, c1, hv1, q0, q1, q2, q3, q4, hu⟩ := V2 (hl.grow hg) k hlt;cases hv1;have HT : Hid (Q3 e (l.take (k + 1)) = Xv e (Q3 e (l.take k)) l[k]) := Zmn e l k hlt;have hxl : (Q3 e (l.take k)).1.length ≤ 2 * k := by have := Zhj e (l.take k); rw [List.length_take] at this; omega
   generalize l[k] = x at *;generalize Q3 e (l.take k) = st at *;obtain ⟨xs, dn⟩ := st;simp only at hR hxl;obtain ⟨a0, c0, rfl⟩ := hR.form;have g1 := Zc wr (.cells #[.int .i64 x.rc.kind, .int .i64 x.rc.key, .int .i64 x.rc.ver, .slice a1 x.rc.data.length c1, .int .i64 x.pair] 84);have hX1 := Zj wr #[.int .i64 x.rc.kind, .int .i64 x.rc.key, .int .i64 x.rc.ver, .slice a1 x.rc.data.length c1, .int .i64 x.pair] 84;have hR1 := hR.grow g1;have hE1 := (g1.block _ (Za hE)).trans hE;have hu1 := hu.grow g1;have gw1 := hg.trans g1;have he1 := he.grow gw1;have HSZ : Hid (w.heap.size + 1 ≤ wr.heap.size) := Za hE;cases dn with
   | true =>
    have HT2 : Hid (Q3 e (l.take (k + 1)) = (xs ++ [x], true)) := by show _ = _; rw [HT.out]; rfl
    obtain ⟨x0, x1, x2, x3, x4⟩ := Qa hX1 rfl rfl rfl rfl rfl;have hnew : ∀ (j : Nat) u, ([.int .i64 x.rc.kind, .int .i64 x.rc.key, .int .i64 x.rc.ver, .slice a1 x.rc.data.length c1, .int .i64 x.pair] : List Value)[j]? = some u → ((wr.alloc (.cells #[.int .i64 x.rc.kind, .int .i64 x.rc.key, .int .i64 x.rc.ver, .slice a1 x.rc.data.length c1, .int .i64 x.pair] 84)).alloc (.cells #[.int .i64 x.rc.kind, .int .i64 x.rc.key, .int .i64 x.rc.ver, .slice a1 x.rc.data.length c1, .int .i64 x.pair] 84)).cell? ((⟨wr.heap.size + 1, 0, none⟩ : Addr).add j) = some u := by
     intro j u hj;have h := Vw (wr.alloc (.cells #[.int .i64 x.rc.kind, .int .i64 x.rc.key, .int .i64 x.rc.ver, .slice a1 x.rc.data.length c1, .int .i64 x.pair] 84)) _ _ _ _ _ 84 j u hj;rw [World.size_alloc] at h;exact h
    clear hX1 hR hE hu hg g1 HT;go_wp2_with (first | (at_builtin; refine wpList_append_own _ rfl (.tmp 26) (.tmp 28) 27 rfl (w.heap.size + 1) 84 i0 (.agg #[.int .i64 0, .int .i64 0, .int .i64 0, .slice none 0 0, .int .i64 0]) 5 56 Tryz.underlying27 hif hz0 hz1 hz2 rfl (by decide) (.slice a0 xs.length c0) _ _ rfl (hR1.row.alloc _) ⟨wr.heap.size + 1, 0, none⟩ 1 1 [.int .i64 x.rc.kind, .int .i64 x.rc.key, .int .i64 x.rc.ver, .slice a1 x.rc.data.length c1, .int .i64 x.pair] rfl rfl hnew (by intro u hu; simp at hu; rcases hu with rfl | rfl | rfl | rfl | rfl <;> rfl) (by unfold maxLen; omega) (by omega) (by have := HSZ.out; simp; omega) ?_; intro v4 w4 hown4 hgrow4 _; have hR6 := hR1.step (x := x) (by decide) (fun b h => by have := HS2.out b h; omega) ⟨_, rfl, hu1.mono (fun _ h => .inl h)⟩ hgrow4 hown4; have g6 : Zo w w4 := Yb (gw1.trans (Zc _ _)) hgrow4 (fun k hk => by have := (hR1.row.lt k hk).1; omega); have hE6 := (Xx hR1.row hgrow4 (Vt hR1.row (by omega)) (Za hE1)).trans hE1; have hsl := Y4 hown4; obtain ⟨a4, c4, hv4⟩ := hsl; subst hv4; clear hgrow4 hown4 hR1 hnew hE1 gw1 hu1 he1));go_roundw
    case rel => exact ⟨k + 1, _, by omega, by go_num, by rw [HT2.out], by rw [HT2.out]; exact hR6, g6, hE6⟩
    case measure => simp [intOf]; omega
   | false =>
    obtain ⟨x0, x1, x2, x3, x4⟩ := Qa hX1 rfl rfl rfl rfl rfl;obtain ⟨e0, e1, e2, e3, e4⟩ := Qa hE1 rfl rfl rfl rfl rfl;have HNE : Hid (some wr.heap.size ≠ (Value.slice a0 xs.length c0).ownBlock) := Zvu hR.row (Nat.le_refl _);go_wp2_with fail;refine (Zox e x _ _ _ _ _).mono ?_;cases hls : Y8 e x with
    | true =>
     have HT2 : Hid (Q3 e (l.take (k + 1)) = ((xs ++ [e]) ++ [x], true)) := by show _ = _; rw [HT.out]; simp [Xv, hls]
     clear hls;rintro r w2 ⟨rfl, g2⟩;have hX2 := (g2.block _ (Za hX1)).trans hX1;have hE2 := (g2.block _ (Za hE1)).trans hE1;have hR2 := hR1.grow g2;have hu2 := hu1.grow g2;have he2 := he1.grow g2;have gw2 := gw1.trans g2;replace HSZ : Hid (w.heap.size + 1 ≤ w2.heap.size) := Za hE2;clear x0 x1 x2 x3 x4 e0 e1 e2 e3 e4 q0 q1 q2 q3 q4 hX1 hE1 hR hR1 hE hu hu1 he1 hg g1 g2 gw1 HT;obtain ⟨e0, e1, e2, e3, e4⟩ := Qa hE2 rfl rfl rfl rfl rfl;go_wp2_with (first
      | (at_builtin; refine wpList_append_own _ rfl (.tmp 22) (.tmp 24) 27 rfl (w.heap.size + 1) 84 i0 (.agg #[.int .i64 0, .int .i64 0, .int .i64 0, .slice none 0 0, .int .i64 0]) 5 56 Tryz.underlying27 hif hz0 hz1 hz2 rfl (by decide) (.slice a0 xs.length c0) _ _ rfl (hR2.row.alloc _) ⟨w2.heap.size, 0, none⟩ 1 1 [.int .i64 e.rc.kind, .int .i64 e.rc.key, .int .i64 e.rc.ver, .slice a e.rc.data.length c, .int .i64 e.pair] rfl rfl (fun j u hj => Vw w2 _ _ _ _ _ _ j u hj) (by intro u hu; simp at hu; rcases hu with rfl | rfl | rfl | rfl | rfl <;> rfl) (by unfold maxLen; omega) (by omega) (by have := HSZ.out; simp; omega) ?_; intro v4 w4 hown4 hgrow4 _; have hR6 := hR2.step (x := e) (by decide) (fun b h => by have := HS2.out b h; omega) ⟨_, rfl, he2.mono (fun _ h => .inl h)⟩ hgrow4 hown4; have g6 : Zo w w4 := Yb (gw2.trans (Zc _ _)) hgrow4 (fun k hk => by have := (hR2.row.lt k hk).1; omega); have hE6 := (Xx hR2.row hgrow4 (Vt hR2.row (by omega)) (Za hE2)).trans hE2; have hX6 := (Xx hR2.row hgrow4 HNE.out (Za hX2)).trans hX2; have hk6 := Zim (S0 := S) hR2.row (by decide) (fun b h => by have := HS2.out b h; omega) hgrow4; have hu6 := hu2.keeps (fun b h1 h2 => hk6 b (.inl h1) h2); have hsl := Y4 hown4; obtain ⟨a4, c4, hv4⟩ := hsl; subst hv4; clear hgrow4 hown4 hR2 hE2 gw2 hu2 he2 hX2 hk6 e0 e1 e2 e3 e4; have hyl : (xs ++ [e]).length = xs.length + 1 := List.length_append; replace HSZ : Hid (w.heap.size + 1 ≤ w4.heap.size) := Za hE6; have x0 := Zd hX6 0 _ rfl; have x1 := Zd hX6 1 _ rfl; have x2 := Zd hX6 2 _ rfl; have x3 := Zd hX6 3 _ rfl; have x4 := Zd hX6 4 _ rfl)
      | (at_builtin; refine wpList_append_own _ rfl (.tmp 26) (.tmp 28) 27 rfl (w.heap.size + 1) 84 i0 (.agg #[.int .i64 0, .int .i64 0, .int .i64 0, .slice none 0 0, .int .i64 0]) 5 56 Tryz.underlying27 hif hz0 hz1 hz2 rfl (by decide) (.slice a4 (xs.length + 1) c4) _ _ rfl (hR6.row.alloc _) ⟨w4.heap.size, 0, none⟩ 1 1 [.int .i64 x.rc.kind, .int .i64 x.rc.key, .int .i64 x.rc.ver, .slice a1 x.rc.data.length c1, .int .i64 x.pair] rfl rfl (fun j u hj => Vw w4 _ _ _ _ _ _ j u hj) (by intro u hu; simp at hu; rcases hu with rfl | rfl | rfl | rfl | rfl <;> rfl) (by unfold maxLen; omega) (by omega) (by have := HSZ.out; simp; omega) ?_; intro v7 w7 hown7 hgrow7 _; have hR9 := hR6.step (x := x) (by decide) (fun b h => by have := HS2.out b h; omega) ⟨_, rfl, hu6.mono (fun _ h => .inl h)⟩ hgrow7 hown7; have g9 : Zo w w7 := Yb (g6.trans (Zc _ _)) hgrow7 (fun k hk => by have := (hR6.row.lt k hk).1; omega); have hE9 := (Xx hR6.row hgrow7 (Vt hR6.row (by omega)) (Za hE6)).trans hE6; have hsl7 := Y4 hown7; obtain ⟨a7, c7, hv7⟩ := hsl7; subst hv7; clear hgrow7 hown7 hR6 hE6 g6 hu6 hX6 x0 x1 x2 x3 x4))
     go_roundw
     case rel => exact ⟨k + 1, _, by omega, by go_num, by rw [HT2.out], by rw [HT2.out]; rw [hyl] at hR9; exact hR9, g9, hE9⟩
     case measure => simp [intOf]; omega
    | false =>
     have HT2 : Hid (Q3 e (l.take (k + 1)) = (xs ++ [x], false)) := by show _ = _; rw [HT.out]; simp [Xv, hls]
     clear hls;rintro r w2 ⟨rfl, g2⟩;have hX2 := (g2.block _ (Za hX1)).trans hX1;have hE2 := (g2.block _ (Za hE1)).trans hE1;have hR2 := hR1.grow g2;have hu2 := hu1.grow g2;have gw2 := gw1.trans g2;replace HSZ : Hid (w.heap.size + 1 ≤ w2.heap.size) := Za hE2;clear x0 x1 x2 x3 x4 e0 e1 e2 e3 e4 q0 q1 q2 q3 q4 hX1 hE1 hR hR1 hE hu hu1 he1 hg g1 g2 gw1 HT;obtain ⟨x0, x1, x2, x3, x4⟩ := Qa hX2 rfl rfl rfl rfl rfl;go_wp2_with (first
      | (at_builtin; refine wpList_append_own _ rfl (.tmp 26) (.tmp 28) 27 rfl (w.heap.size + 1) 84 i0 (.agg #[.int .i64 0, .int .i64 0, .int .i64 0, .slice none 0 0, .int .i64 0]) 5 56 Tryz.underlying27 hif hz0 hz1 hz2 rfl (by decide) (.slice a0 xs.length c0) _ _ rfl (hR2.row.alloc _) ⟨w2.heap.size, 0, none⟩ 1 1 [.int .i64 x.rc.kind, .int .i64 x.rc.key, .int .i64 x.rc.ver, .slice a1 x.rc.data.length c1, .int .i64 x.pair] rfl rfl (fun j u hj => Vw w2 _ _ _ _ _ _ j u hj) (by intro u hu; simp at hu; rcases hu with rfl | rfl | rfl | rfl | rfl <;> rfl) (by unfold maxLen; omega) (by omega) (by have := HSZ.out; simp; omega) ?_; intro v4 w4 hown4 hgrow4 _; have hR6 := hR2.step (x := x) (by decide) (fun b h => by have := HS2.out b h; omega) ⟨_, rfl, hu2.mono (fun _ h => .inl h)⟩ hgrow4 hown4; have g6 : Zo w w4 := Yb (gw2.trans (Zc _ _)) hgrow4 (fun k hk => by have := (hR2.row.lt k hk).1; omega); have hE6 := (Xx hR2.row hgrow4 (Vt hR2.row (by omega)) (Za hE2)).trans hE2; have hsl := Y4 hown4; obtain ⟨a4, c4, hv4⟩ := hsl; subst hv4; clear hgrow4 hown4 hR2 hE2 gw2 hu2 hX2 x0 x1 x2 x3 x4))
     go_roundw
     case rel => exact ⟨k + 1, _, by omega, by go_num, by rw [HT2.out], by rw [HT2.out]; exact hR6, g6, hE6⟩
     case measure => simp [intOf]; omega
  ·have hk' : k = l.length := by omega
   subst hk';rw [List.take_length] at hR;have HRE : Hid (Qi e l = if (Q3 e l).2 = true then (Q3 e l).1 else (Q3 e l).1 ++ [e]) := rfl;have hxl : (Q3 e l).1.length ≤ 2 * l.length := Zhj e l;have HL : Hid (l.take l.length = l) := List.take_length;rw [HL.out];generalize Q3 e l = st at *;obtain ⟨xs, dn⟩ := st;simp only at hR hxl;obtain ⟨a0, c0, rfl⟩ := hR.form;have HSZ : Hid (w.heap.size + 1 ≤ wr.heap.size) := Za hE;have he1 := he.grow hg;cases dn with
   | true =>
    have hRR : R = xs := by rw [HR.out, HRE.out, if_pos rfl]
    subst hRR;have hfin := hR.slice.mono (Z0 (B := w.heap.size) (by omega));clear hR hE;go_wp2_with fail;go_ret;exact ⟨_, rfl, hfin, hg⟩
   | false =>
    have hRR : R = xs ++ [e] := by rw [HR.out, HRE.out, if_neg (by simp)]
    subst hRR;obtain ⟨e0, e1, e2, e3, e4⟩ := Qa hE rfl rfl rfl rfl rfl;go_wp2_with (first
     | (at_builtin; refine wpList_append_own _ rfl (.tmp 33) (.tmp 35) 27 rfl (w.heap.size + 1) 84 i0 (.agg #[.int .i64 0, .int .i64 0, .int .i64 0, .slice none 0 0, .int .i64 0]) 5 56 Tryz.underlying27 hif hz0 hz1 hz2 rfl (by decide) (.slice a0 xs.length c0) _ _ rfl (hR.row.alloc _) ⟨wr.heap.size, 0, none⟩ 1 1 [.int .i64 e.rc.kind, .int .i64 e.rc.key, .int .i64 e.rc.ver, .slice a e.rc.data.length c, .int .i64 e.pair] rfl rfl (fun j u hj => Vw wr _ _ _ _ _ _ j u hj) (by intro u hu; simp at hu; rcases hu with rfl | rfl | rfl | rfl | rfl <;> rfl) (by unfold maxLen; omega) (by omega) (by have := HSZ.out; simp; omega) ?_; intro v4 w4 hown4 hgrow4 _; have hR6 := hR.step (x := e) (by decide) (fun b h => by have := HS2.out b h; omega) ⟨_, rfl, he1.mono (fun _ h => .inl h)⟩ hgrow4 hown4; have g6 : Zo w w4 := Yb (hg.trans (Zc _ _)) hgrow4 (fun k hk => by have := (hR.row.lt k hk).1; omega); have hsl := Y4 hown4; obtain ⟨a4, c4, hv4⟩ := hsl; subst hv4; clear hgrow4 hown4 hR hE hg he1 e0 e1 e2 e3 e4))
    have hfin := hR6.slice.mono (Z0 (B := w.heap.size) (by omega));go_ret;exact ⟨_, rfl, hfin, g6⟩
end Go.Proofs.YtgaecpdokgklpacGreat
