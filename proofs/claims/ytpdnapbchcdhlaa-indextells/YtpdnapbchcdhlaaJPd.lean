import Derived.Test.YtpdnapbchcdhlaaRPut
import Derived.Laws.OwnMore
import Derived.Test.YtpdnapbchcdhlaaRRead
set_option maxHeartbeats 8000000
namespace Go.Proofs.Ytpdnapbchcdhlaa
set_option maxRecDepth 100000
open Go.RowKit
open Plain Reg
variable {B B' : Nat} {bs : List (List UInt8)} {us : List Value} {v : Value} {w w' : World}
structure J4 (B : Nat) (v : Value) (bs : List (List UInt8)) (us : List Value) (w : World) : Prop where
 len : us.length = bs.length
 row : w.ownsRow B 22 1 v bs.length us
 each : ∀ i (hi : i < bs.length), ∃ u, us[i]? = some u ∧ w.ownsRow B 5 1 u bs[i].length (bs[i].map bv)
def Zlh (us : List Value) : Prop := ∀ (i j : Nat) (u u' : Value) (p : Nat), i < j → us[i]? = some u → us[j]? = some u' → u.ownBlock = some p → u'.ownBlock ≠ some p
def Zax (B : Nat) (v : Value) (bs : List (List UInt8)) (w : World) : Prop := ∃ us, J4 B v bs us w
theorem J4.grow (h : J4 B v bs us w) (hg : Zm w w') : J4 B v bs us w' :=
 ⟨h.len, Z9 h.row hg, fun i hi => (h.each i hi).imp fun _ hu => ⟨hu.1, Z9 hu.2 hg⟩⟩
theorem J4.mono (h : J4 B v bs us w) (hb : B' ≤ B) : J4 B' v bs us w :=
 ⟨h.len, Z8 h.row hb, fun i hi => (h.each i hi).imp fun _ hu => ⟨hu.1, Z8 hu.2 hb⟩⟩
theorem Zax.grow (h : Zax B v bs w) (hg : Zm w w') : Zax B v bs w' := h.imp fun _ x => x.grow hg
theorem Zax.mono (h : Zax B v bs w) (hb : B' ≤ B) : Zax B' v bs w := h.imp fun _ x => x.mono hb
theorem Zf9 {n : Nat} {e : TypeId} {size g cap : Nat} {xs : List Value} (h : w.ownsRow B e size (.slice (some ⟨g, 0, none⟩) n cap) n xs) : ∃ cur, w.heap[g]? = some (.cells cur e (0, 0)) := by
 rcases h.2 with ⟨e, _⟩ | ⟨q', cap', cur, e, _, hh, _⟩
 ·cases e
 ·cases e; exact ⟨cur, hh⟩
end Go.Proofs.Ytpdnapbchcdhlaa
namespace Go.Proofs.Ytpdnapbchcdhlaa
set_option maxRecDepth 100000
open Go.RowKit
open Plain Reg
variable {B B' g : Nat} {us : List Value} {v : Value} {w w' : World} {ws : List Wr}
structure Zex (B : Nat) (v : Value) (ws : List Wr) (us : List Value) (w : World) : Prop where
 len : us.length = ws.length
 row : w.ownsRow B 60 2 v ws.length (Zkt ws us)
 each : ∀ i (hi : i < ws.length), ∃ u, us[i]? = some u ∧ w.ownsRow B 5 1 u ws[i].2.length (ws[i].2.map bv)
def J3 (B : Nat) (v : Value) (ws : List Wr) (w : World) : Prop := ∃ us, Zex B v ws us w
theorem Zex.grow (h : Zex B v ws us w) (hg : Zm w w') : Zex B v ws us w' :=
 ⟨h.len, Z9 h.row hg, fun i hi => (h.each i hi).imp fun _ hu => ⟨hu.1, Z9 hu.2 hg⟩⟩
theorem Zex.mono (h : Zex B v ws us w) (hb : B' ≤ B) : Zex B' v ws us w :=
 ⟨h.len, Z8 h.row hb, fun i hi => (h.each i hi).imp fun _ hu => ⟨hu.1, Z8 hu.2 hb⟩⟩
theorem J3.grow (h : J3 B v ws w) (hg : Zm w w') : J3 B v ws w' := h.imp fun _ x => x.grow hg
theorem J3.mono (h : J3 B v ws w) (hb : B' ≤ B) : J3 B' v ws w := h.imp fun _ x => x.mono hb
def Zj0 (g : Nat) (w w' : World) : Prop := w' = w ∨ w.grownBy w' (some g)
theorem Zk6 {base : Nat} {e : TypeId} {size : Nat} {n : Nat} {xs : List Value} (hs : Zj0 g w w') (hg : g < base) (h : w.ownsRow base e size v n xs) : w'.ownsRow base e size v n xs := by
 rcases hs with rfl | hs
 ·exact h
 ·refine ⟨h.1, Xj h.2 (fun x => x) fun ⟨q, cap, cur, h1, h2, h3, r⟩ => ⟨q, cap, cur, h1, h2, ?_, r⟩⟩;rw [hs.block _ (Zg h3) (by intro e; cases e; omega)];exact h3
def Zi2 (w : World) (g bx : Nat) (c : Array Value) (v : Value) (ws : List Wr) (us : List Value) (dn : Nat → Bool) (w' : World) : Prop :=
 Zm w w' ∧ w'.heap[bx]? = some (.cells c 60 (0, 0)) ∧ (dn 8 = false → w'.ownsRow g 60 2 v ws.length (Zkt ws us)) ∧
  (∀ i (hi : i < ws.length), ∃ u, us[i]? = some u ∧ w'.ownsRow g 5 1 u ws[i].2.length (ws[i].2.map bv))
theorem Zi2.grow {bx : Nat} {c : Array Value} {dn : Nat → Bool} {w'' : World} (h : Zi2 w g bx c v ws us dn w') (hg : Zm w' w'') : Zi2 w g bx c v ws us dn w'' :=
 ⟨h.1.trans hg, (hg.block _ (Zg h.2.1)).trans h.2.1, fun h8 => Z9 (h.2.2.1 h8) hg, fun i hi => (h.2.2.2 i hi).imp fun _ hu => ⟨hu.1, Z9 hu.2 hg⟩⟩
end Go.Proofs.Ytpdnapbchcdhlaa
namespace Go.Proofs.Ytpdnapbchcdhlaa
set_option maxRecDepth 100000
open Go.RowKit
open Plain Reg
variable {B B' : Nat} {d : Dk} {v : Value} {w w' : World}
def Zbm (B : Nat) (d : Dk) (v : Value) (w : World) : Prop := ∃ vb vl, v = .agg #[vb, vl] ∧ Zax B vb d.blocks w ∧ J3 B vl d.late w
theorem Zbm.grow (h : Zbm B d v w) (hg : Zm w w') : Zbm B d v w' := by
 obtain ⟨vb, vl, h1, h2, h3⟩ := h; exact ⟨vb, vl, h1, h2.grow hg, h3.grow hg⟩
theorem Zbm.mono (h : Zbm B d v w) (hb : B' ≤ B) : Zbm B' d v w := by
 obtain ⟨vb, vl, h1, h2, h3⟩ := h; exact ⟨vb, vl, h1, h2.mono hb, h3.mono hb⟩
def Zli (us : List Value) (C : Nat) : Prop := ∀ (i : Nat) (u : Value) (p : Nat), us[i]? = some u → u.ownBlock = some p → p < C
def Zbn (B : Nat) (d : Dk) (v : Value) (w : World) : Prop := ∃ vb vl us C, v = .agg #[vb, vl] ∧ J4 B vb d.blocks us w ∧ Zlh us ∧ Zli us C ∧ B ≤ C ∧ J3 C vl d.late w
theorem Zbn.grow (h : Zbn B d v w) (hg : Zm w w') : Zbn B d v w' := by
 obtain ⟨vb, vl, us, C, h1, h2, h3, h4, h5, h6⟩ := h; exact ⟨vb, vl, us, C, h1, h2.grow hg, h3, h4, h5, h6.grow hg⟩
theorem Zbn.mono (h : Zbn B d v w) (hb : B' ≤ B) : Zbn B' d v w := by
 obtain ⟨vb, vl, us, C, h1, h2, h3, h4, h5, h6⟩ := h; exact ⟨vb, vl, us, C, h1, h2.mono hb, h3, h4, by omega, h6⟩
def Zkz (w : World) (c : Array Value) (dn : Nat → Bool) (w' : World) : Prop :=
 Zm w w' ∧ w'.heap[w.heap.size]? = some (.cells c 46 (0, 0)) ∧ w.heap.size + 1 < w'.heap.size ∧ (dn 7 = false → w'.heap[w.heap.size + 1]? = some (.cells #[.slice none 0 0, .slice none 0 0] 46 (0, 0)))
theorem Zkz.grow {c : Array Value} {dn : Nat → Bool} {w'' : World} (h : Zkz w c dn w') (hg : Zm w' w'') : Zkz w c dn w'' :=
 ⟨h.1.trans hg, (hg.block _ (Zg h.2.1)).trans h.2.1, Nat.lt_of_lt_of_le h.2.2.1 hg.size, fun hd => (hg.block _ (Zg (h.2.2.2 hd))).trans (h.2.2.2 hd)⟩
end Go.Proofs.Ytpdnapbchcdhlaa
namespace Go.Proofs.Ytpdnapbchcdhlaa
set_option maxRecDepth 100000
open Go.RowKit
open Plain Reg
def Kh (n : Nat) (a : Int) : Bool := decide (0 ≤ a ∧ a < (n : Int))
theorem Zfe (n : Nat) (a : Int) (ab al : Option Addr) (cb nl cl : Nat) (w : World) :
  Calls Try.prog 77 #[.agg #[.slice ab n cb, .slice al nl cl], .int .i64 a] w fun e w' => e = .returned (.bool (Kh n a)) ∧ Zm w w' := by
 by_cases h0 : 0 ≤ a
 ·by_cases h1 : a < (n : Int)
  ·have HB : Hid (Kh n a = true) := by show Kh n a = true; unfold Kh; simp [h0, h1]
   rw [HB.out];go_enter Try.func77, Try.ntmps77;go_wp2_with fail;go_ret;exact ⟨rfl, Zh _ _⟩
  ·have HB : Hid (Kh n a = false) := by show Kh n a = false; unfold Kh; simp; omega
   rw [HB.out];go_enter Try.func77, Try.ntmps77;go_wp2_with fail;go_ret;exact ⟨rfl, Zh _ _⟩
 ·have HB : Hid (Kh n a = false) := by show Kh n a = false; unfold Kh; simp; omega
  rw [HB.out];have h2 : a < 0 := by omega
  clear h0;go_enter Try.func77, Try.ntmps77;go_wp2_with fail;go_ret;exact ⟨rfl, Zh _ _⟩
theorem Zjw (d : Dk) (a : Int) (vb vl : Value) (w : World) (hb : Xe w vb d.blocks) (hl : Qs w vl d.late) (hm2 : d.late.length ≤ 999990) (hb16 : ∀ x ∈ d.blocks, x.length ≤ 1000) (hl16 : ∀ x ∈ d.late, x.2.length ≤ 1000) :
  Calls Try.prog 41 #[.agg #[vb, vl], .int .i64 a] w fun e w' => ∃ v, e = .returned (.tuple #[v, .int .i64 (d.getE a)]) ∧ w'.ownsRow w.heap.size 5 1 v ((d.get a).getD []).length (((d.get a).getD []).map bv) ∧ Zm w w' := by
 obtain ⟨ab, cb, rfl⟩ := hb.form;obtain ⟨al, cl, rfl⟩ := hl.form;have gW := Zh w (.cells #[.slice ab d.blocks.length cb, .slice al d.late.length cl] 46);have hx := Zu w #[.slice ab d.blocks.length cb, .slice al d.late.length cl] 46;by_cases hout : a < 0 ∨ (d.blocks.length : Int) ≤ a
 ·have HE : Hid (d.getE a = 3) := by show d.getE a = 3; unfold Dk.getE; rw [if_pos hout]
  have HG : Hid (d.get a = none) := by show d.get a = none; unfold Dk.get; rw [if_pos hout]
  have HH : Hid (Kh d.blocks.length a = false) := by show Kh _ a = false; unfold Kh; simp; omega
  rw [HE.out, HG.out];clear hout;go_enter Try.func41, Try.ntmps41;go_wp2_with fail;refine (Zfe d.blocks.length a _ _ _ _ _ _).mono ?_;rw [HH.out];rintro e w1 ⟨rfl, g1⟩;go_wp2_with fail
  go_ret2
  exact ⟨_, rfl, World.ownsRow_nil _ _ _ _, gW.trans g1⟩
 ·have HE : Hid (d.getE a = 0) := by show d.getE a = 0; unfold Dk.getE; rw [if_neg hout]
  have HG : Hid (d.get a = some ((Xu d.late a).getD (d.blocks.getD a.toNat []))) := by show d.get a = _; unfold Dk.get; rw [if_neg hout]
  have HH : Hid (Kh d.blocks.length a = true) := by show Kh _ a = true; unfold Kh; simp; omega
  rw [HE.out, HG.out, Option.getD_some];obtain ⟨p, rfl⟩ := Int.eq_ofNat_of_zero_le (by omega : 0 ≤ a);have hp : p < d.blocks.length := by omega
  clear hout;rw [Int.toNat_natCast];obtain ⟨R, hR⟩ : ∃ R, R = (Xu d.late (p : Int)).getD (d.blocks.getD p []) := ⟨_, rfl⟩;rw [← hR];have HR : Hid _ := hR;clear hR;have hsz := World.size_alloc w (.cells #[.slice ab d.blocks.length cb, .slice al d.late.length cl] 46);go_enter Try.func41, Try.ntmps41;go_wp2_with fail;refine (Zfe d.blocks.length (p : Int) _ _ _ _ _ _).mono ?_;rw [HH.out];rintro e W ⟨rfl, g1⟩;have gW1 := gW.trans g1;have hx1 := (g1.block _ (Zg hx)).trans hx;have hbW := hb.grow gW1;have hlW := hl.grow gW1;clear hb hl hx gW g1 hsz;obtain ⟨x0, x1⟩ := Zb6 hx1 rfl rfl;go_wp2_with fail
  go_loop [6] (fun i => ∃ k : Nat, k ≤ d.late.length ∧ i = .int .i64 ((k : Int) - 1) ∧ Xu d.late p = Xu (d.late.take k) p) (fun i => (intOf i + 1).toNat)
  case atStart => exact ⟨d.late.length, Nat.le_refl _, rfl, by rw [List.take_length]⟩
  case round =>
   obtain ⟨k, hk, rfl, hla⟩ := hrel;have HLA : Hid (Xu d.late p = Xu (d.late.take k) p) := hla;clear hla
   match k, hk, HLA with
   | 0, hk, HLA =>
    have HB : Hid (Xu d.late p = none) := HLA;obtain ⟨b, off, rfl, u, hu, hub⟩ := hbW.at p hp;have hle := hb16 _ (List.getElem_mem hp);have hRe : R = d.blocks[p] := by rw [HR.out, HB.out, Option.getD_none]; exact Zff _ _ _ hp
    rw [← hRe] at hub hle;obtain ⟨au, cu, rfl, -, -⟩ := Yn hub;clear HLA hRe;go_wp2_with fail;refine (Ke R _ _ (by omega) hub).mono ?_;rintro e w2 ⟨v2, rfl, ho, g2⟩;obtain ⟨a2, c2, rfl⟩ := Yg ho;go_wp2_with fail
    go_ret2
    exact ⟨_, rfl, Z8 ho gW1.size, gW1.trans g2⟩
   | k + 1, hk, HLA =>
    have hkl : k < d.late.length := by omega
    obtain ⟨b, off, rfl, hc0, u, hu, hub⟩ := hlW.at k hkl;have hle := hl16 _ (List.getElem_mem hkl);have hst := Zar d.late p k hkl;by_cases he : d.late[k].1 = (p : Int)
    ·rw [he] at hc0;rw [if_pos he] at hst;have hRe : R = d.late[k].2 := by rw [HR.out, HLA.out.trans hst, Option.getD_some]
     rw [← hRe] at hub hle;clear HLA hst he hRe;obtain ⟨au, cu, rfl, -, -⟩ := Yn hub;have e1 : ((k + 1 : Nat) : Int) - 1 = (k : Int) := by omega
     rw [e1];clear e1;go_wp2_with fail;refine (Ke R _ _ (by omega) hub).mono ?_;rintro e w2 ⟨v2, rfl, ho, g2⟩;obtain ⟨a2, c2, rfl⟩ := Yg ho;go_wp2_with fail
     go_ret2
     exact ⟨_, rfl, Z8 ho gW1.size, gW1.trans g2⟩
    ·rw [if_neg he] at hst;have HV : Hid (Xu d.late p = Xu (d.late.take k) p) := HLA.out.trans hst;have d2 : (d.late[k].1 == (p : Int)) = false := Qk he;clear HLA hst he hub hle;generalize d.late[k].1 = q at *;have e1 : ((k + 1 : Nat) : Int) - 1 = (k : Int) := by omega
     rw [e1];clear e1;go_wp2_with fail
     go_round
     case rel => exact ⟨k, by omega, by go_num, HV.out⟩
     case measure => simp [intOf]
end Go.Proofs.Ytpdnapbchcdhlaa
namespace Go.Proofs.Ytpdnapbchcdhlaa
set_option maxRecDepth 100000
open Go.RowKit
open Plain Reg
variable {B n : Nat} {e : TypeId} {o : Obj} {v : Value} {w w3 : World}
theorem Zba {base m size sz : Nat} {T : TypeId} {u : Value} {xs ys : List Value} (hrow : w.ownsRow B T size v n xs) (hg : (w.alloc o).grownBy w3 v.ownBlock) (hT : e ≠ T) (h : w.ownsRow base e sz u m ys) : w3.ownsRow base e sz u m ys := by
 refine ⟨h.1, Xj h.2 (fun x => x) fun ⟨q, cap, cur, h1, h2, h3, r⟩ => ⟨q, cap, cur, h1, h2, ?_, r⟩⟩;have hq := Zg h3;rw [hg.block q (by simp; omega) ?_, (Zh w o).block q hq]
 ·exact h3
 ·rcases hrow.2 with ⟨rfl, _⟩ | ⟨g, cap', cur', rfl, _, hh, _⟩
  ·simp [Value.ownBlock]
  ·intro e1;simp [Value.ownBlock] at e1;subst e1;rw [h3] at hh; cases hh; exact hT rfl
theorem Vz {size : Nat} {us : List Value} (hle : B ≤ w.heap.size) (hown : w.ownsRow B e size v n us) (hg : (w.alloc o).grownBy w3 v.ownBlock) : Below B w w3 :=
 Below.grown (Below.alloc (Below.refl _ _) hle o) hg (by simp; omega) (fun k hk => (hown.lt k hk).1)
end Go.Proofs.Ytpdnapbchcdhlaa
namespace Go.Proofs.Ytpdnapbchcdhlaa
set_option maxRecDepth 100000
open Go.RowKit
open Plain Reg
def Qf (d : Dk) (v : Value) (w : World) : Prop := ∃ vb vl, v = .agg #[vb, vl] ∧ Xe w vb d.blocks ∧ Qs w vl d.late
theorem Q0 (d : Dk) : X2 (Qf d) := by
 rintro v w w' hg ⟨vb, vl, h1, h2, h3⟩; exact ⟨vb, vl, h1, h2.grow hg, h3.grow hg⟩
theorem Qf.form {d : Dk} {v : Value} {w : World} (h : Qf d v w) : ∃ ab cb al cl, v = .agg #[.slice ab d.blocks.length cb, .slice al d.late.length cl] ∧ Xe w (.slice ab d.blocks.length cb) d.blocks ∧ Qs w (.slice al d.late.length cl) d.late := by
 obtain ⟨vb, vl, h1, h2, h3⟩ := h;obtain ⟨ab, cb, rfl⟩ := h2.form;obtain ⟨al, cl, rfl⟩ := h3.form;exact ⟨ab, cb, al, cl, h1, h2, h3⟩
end Go.Proofs.Ytpdnapbchcdhlaa
namespace Go.Proofs.Ytpdnapbchcdhlaa
set_option maxRecDepth 100000
open Go.RowKit
open Plain Reg
variable {B base cap n q : Nat} {e : TypeId} {us xs : List Value} {v : Value} {w w' : World}
def Zi4 (w : World) (q B n cap : Nat) (us : List Value) (c1 c2 : Array Value) (dn : Nat → Bool) (w' : World) : Prop :=
 Zs q w w' ∧ w'.heap[w.heap.size]? = some (.cells c1 46 (0, 0)) ∧ w'.heap[w.heap.size + 1]? = some (.cells c2 60 (0, 0)) ∧ (dn 8 = false → Zm w w' ∧ w'.ownsRow B 22 1 (.slice (some ⟨q, 0, none⟩) n cap) n us)
theorem Zi4.grow {c1 c2 : Array Value} {dn : Nat → Bool} {w'' : World} (h : Zi4 w q B n cap us c1 c2 dn w') (hg : Zm w' w'') : Zi4 w q B n cap us c1 c2 dn w'' :=
 ⟨h.1.trans (Zs.of hg), (hg.block _ (Zg h.2.1)).trans h.2.1, (hg.block _ (Zg h.2.2.1)).trans h.2.2.1, fun hd => ⟨(h.2.2.2 hd).1.trans hg, Z9 (h.2.2.2 hd).2 hg⟩⟩
def Zlg (q B n cap m base : Nat) (us : List Value) (l : List UInt8) (v : Value) (w : World) : Prop :=
 w.ownsRow B 22 1 (.slice (some ⟨q, 0, none⟩) n cap) n (us.set m v) ∧ w.ownsRow base 5 1 v l.length (l.map bv)
theorem Jl {size : Nat} (hg : Zs q w w') (hq : q < base) (h : w.ownsRow base e size v n xs) : w'.ownsRow base e size v n xs := by
 refine ⟨h.1, Xj h.2 (fun x => x) fun ⟨g, cap, cur, h1, h2, h3, r⟩ => ⟨g, cap, cur, h1, h2, ?_, r⟩⟩;rw [hg.block _ (Zg h3) (by omega)]; exact h3
theorem Zed {T : TypeId} {c f} {size : Nat} (hg : Zs q w w') (hq : w.heap[q]? = some (.cells c T f)) (hT : e ≠ T) (h : w.ownsRow base e size v n xs) : w'.ownsRow base e size v n xs := by
 refine ⟨h.1, Xj h.2 (fun x => x) fun ⟨g, cap, cur, h1, h2, h3, r⟩ => ⟨g, cap, cur, h1, h2, ?_, r⟩⟩;rw [hg.block _ (Zg h3) (by rintro rfl; rw [hq] at h3; cases h3; exact hT rfl)]; exact h3
theorem J4.put {m : Nat} {bs : List (List UInt8)} {l : List UInt8} {v' : Value} (h : J4 B (.slice (some ⟨q, 0, none⟩) bs.length cap) bs us w) (hB : B ≤ base) (hg : Zs q w w') (hQ : Zlg q B bs.length cap m base us l v' w') : J4 B (.slice (some ⟨q, 0, none⟩) bs.length cap) (bs.set m l) (us.set m v') w' := by
 obtain ⟨cur, hcur⟩ := Zf9 h.row;refine ⟨by simp [h.len], by rw [List.length_set]; exact hQ.1, fun i hi => ?_⟩;rw [List.length_set] at hi;by_cases e : m = i
 ·subst e;refine ⟨v', by rw [List.getElem?_set]; simp [h.len, hi], ?_⟩;simp only [List.getElem_set_self];exact Z8 hQ.2 hB
 ·obtain ⟨x, h1, h2⟩ := h.each i hi;refine ⟨x, by rw [List.getElem?_set]; simp [e, h1], ?_⟩;rw [List.getElem_set_ne e];exact Zed hg hcur (by decide) h2
def Zi3 (d : Dk) (w : World) (c : Array Value) (v : Value) (g : Nat) (on : Nat → Bool) (k : Nat) (wr : World) : Prop :=
 Zm w wr ∧ wr.heap[w.heap.size]? = some (.cells c 46 (0, 0)) ∧ wr.heap[w.heap.size + 1]? = some (.cells #[.slice none 0 0, .slice none 0 0] 46 (0, 0)) ∧
  wr.heap[g]? = some (.cells #[v, .slice none 0 0] 46 (0, 0)) ∧ ∃ us, J4 (w.heap.size + 1 + 1) v (d.keepTo on k) us wr
theorem Zi3.grow {d : Dk} {c : Array Value} {g : Nat} {on : Nat → Bool} {k : Nat} {wr : World} (h : Zi3 d w c v g on k wr) (hg : Zm wr w') : Zi3 d w c v g on k w' :=
 ⟨h.1.trans hg, (hg.block _ (Zg h.2.1)).trans h.2.1, (hg.block _ (Zg h.2.2.1)).trans h.2.2.1, (hg.block _ (Zg h.2.2.2.1)).trans h.2.2.2.1, h.2.2.2.2.imp fun _ x => x.grow hg⟩
end Go.Proofs.Ytpdnapbchcdhlaa
namespace Go.Proofs.Ytpdnapbchcdhlaa
set_option maxRecDepth 100000
open Go.RowKit
open Plain Reg
def Zk0 (w wr : World) (us : List Value) (dn : Nat → Bool) (w' : World) : Prop :=
 Zs (w.heap.size + 1) wr w' ∧ w'.heap[w.heap.size]? = some (.cells #[.slice none 0 0, .slice none 0 0] 46 (0, 0)) ∧ w'.heap[w.heap.size + 1 + 1]? = some (.cells #[.slice (some ⟨w.heap.size + 1, 0, none⟩) 12 12, .slice none 0 0] 46 (0, 0)) ∧
  (dn 7 = false → Zm wr w' ∧ w'.ownsRow (w.heap.size + 1) 22 1 (.slice (some ⟨w.heap.size + 1, 0, none⟩) 12 12) 12 us)
theorem Zk0.grow {w wr : World} {us : List Value} {dn : Nat → Bool} {w' w'' : World} (h : Zk0 w wr us dn w') (hg : Zm w' w'') : Zk0 w wr us dn w'' :=
 ⟨h.1.trans (Zs.of hg), (hg.block _ (Zg h.2.1)).trans h.2.1, (hg.block _ (Zg h.2.2.1)).trans h.2.2.1, fun hd => ⟨(h.2.2.2 hd).1.trans hg, Z9 (h.2.2.2 hd).2 hg⟩⟩
end Go.Proofs.Ytpdnapbchcdhlaa
