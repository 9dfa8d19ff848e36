import Derived.Test.YtpdnapbchcdhlaaIdxA
import Derived.Test.YtpdnapbchcdhlaaIdxS
set_option maxHeartbeats 8000000
namespace Go.Proofs.Ytpdnapbchcdhlaa
set_option maxRecDepth 100000
open Go.RowKit
open Plain Reg
variable {S : Nat → Prop} {bs : List Bool} {g k : Nat} {l : List Ent} {w w2 : World} {x : Ent}
def Zk7 : Ent := ⟨⟨0, 0, 0, []⟩, 0⟩
theorem Zbi (S : Nat → Prop) (w : World) : Zca S none (.tuple #[.agg #[.int .i64 0, .int .i64 0, .int .i64 0, .slice none 0 0, .int .i64 0], .bool false]) w := ⟨Zk7, none, 0, rfl, fun y h => by cases h⟩
theorem Zgw {a : Option Addr} {c : Nat} (h : Z4 S w (.slice a x.rc.data.length c) x.rc.data) : Zca S (some x) (.tuple #[.agg #[.int .i64 x.rc.kind, .int .i64 x.rc.key, .int .i64 x.rc.ver, .slice a x.rc.data.length c, .int .i64 x.pair], .bool true]) w := ⟨x, a, c, rfl, fun y e => by cases e; exact ⟨rfl, h⟩⟩
abbrev Ze2 : Obj := .cells #[.int .i64 0, .int .i64 0, .int .i64 0, .slice none 0 0, .int .i64 0] 71 (0, 0)
theorem Zik {S : Nat → Prop} {a2 : Option Addr} {c2 : Nat} (HO : w2.ownsRow (w.heap.size + 1) 5 1 (.slice a2 x.rc.data.length c2) x.rc.data.length (x.rc.data.map bv)) (gw2 : Zm w w2) (u0 u1 u2 u3 u4 : Value) :
  Zca (Qg S w.heap.size) (some x) (.tuple #[.agg #[.int .i64 x.rc.kind, .int .i64 x.rc.key, .int .i64 x.rc.ver, .slice a2 x.rc.data.length c2, .int .i64 x.pair], .bool true]) (((((w2.setCell ⟨w.heap.size, 0, none⟩ u0).setCell ⟨w.heap.size, 1, none⟩ u1).setCell ⟨w.heap.size, 2, none⟩ u2).setCell ⟨w.heap.size, 3, none⟩ u3).setCell ⟨w.heap.size, 4, none⟩ u4) ∧ Zm w (((((w2.setCell ⟨w.heap.size, 0, none⟩ u0).setCell ⟨w.heap.size, 1, none⟩ u1).setCell ⟨w.heap.size, 2, none⟩ u2).setCell ⟨w.heap.size, 3, none⟩ u3).setCell ⟨w.heap.size, 4, none⟩ u4) := by
 have hb : ∀ o, (⟨w.heap.size, o, none⟩ : Addr).block < w.heap.size + 1 := fun _ => Nat.lt_succ_self _
 have hge : ∀ o, w.heap.size ≤ (⟨w.heap.size, o, none⟩ : Addr).block := fun _ => Nat.le_refl _
 exact ⟨Zgw (Zh1 S (Z8 (Xa (Xa (Xa (Xa (Xa HO (hb 0) u0) (hb 1) u1) (hb 2) u2) (hb 3) u3) (hb 4) u4) (Nat.le_succ _))), Zt (Zt (Zt (Zt (Zt gw2 (hge 0) u0) (hge 1) u1) (hge 2) u2) (hge 3) u3) (hge 4) u4⟩
theorem Zj5 (gw2 : Zm w w2) (u0 u1 u2 u3 u4 : Value) : Zm w (((((w2.setCell ⟨w.heap.size, 0, none⟩ u0).setCell ⟨w.heap.size, 1, none⟩ u1).setCell ⟨w.heap.size, 2, none⟩ u2).setCell ⟨w.heap.size, 3, none⟩ u3).setCell ⟨w.heap.size, 4, none⟩ u4) := by
 have hge : ∀ o, w.heap.size ≤ (⟨w.heap.size, o, none⟩ : Addr).block := fun _ => Nat.le_refl _
 exact Zt (Zt (Zt (Zt (Zt gw2 (hge 0) u0) (hge 1) u1) (hge 2) u2) (hge 3) u3) (hge 4) u4
theorem Zf4 (S : Nat → Prop) (l : List Ent) (key : Int) (v : Value) (w : World) (hl : Yl S w v l) (hn : l.length ≤ 1000000) (h8 : ∀ x ∈ l, x.rc.data.length ≤ 8) :
  Calls Try.prog 62 #[v, .int .i64 key] w fun r w' => ∃ v', r = .returned v' ∧ Zca (Qg S w.heap.size) (X5 l key) v' w' ∧ Zm w w' := by
 obtain ⟨ao, cp, rfl⟩ := hl.form;have g0 := Zh w Ze2;have hz0 := Zu w #[.int .i64 0, .int .i64 0, .int .i64 0, .slice none 0 0, .int .i64 0] 71;have HSZ : Hid ((w.alloc Ze2).heap.size = w.heap.size + 1) := World.size_alloc _ _;obtain ⟨Q, hQ⟩ : ∃ Q, Q = X5 l key := ⟨_, rfl⟩;rw [← hQ];have HQ0 : Hid _ := hQ;clear hQ;go_enter Try.func62, Try.ntmps62;go_wp2_with fail;generalize World.alloc w _ = W at *;go_loopw [6] (fun i wr => W = wr ∧ ((∃ m : Nat, m < l.length ∧ i = .int .i64 (m : Int) ∧ ∀ x ∈ l.drop (m + 1), ¬ x.rc.key = key) ∨ (i = .int .i64 (-1) ∧ ∀ x ∈ l, ¬ x.rc.key = key))) (fun i _ => (intOf i + 1).toNat)
 case atStart =>
  refine ⟨rfl, ?_⟩;by_cases h0 : l = []
  ·subst h0; exact .inr ⟨rfl, fun x hx => by cases hx⟩
  ·have := List.length_pos_iff.2 h0;refine .inl ⟨l.length - 1, by omega, ?_, fun x hx => ?_⟩
   ·congr 1; omega
   ·rw [List.drop_of_length_le (by omega)] at hx; cases hx
 case round =>
  obtain ⟨hww, hcase⟩ := hrel;subst hww;rcases hcase with ⟨m, hm, rfl, hdr⟩ | ⟨rfl, hno⟩
  ·have hi : m < l.length := hm;obtain ⟨b, off, a1, c1, hv1, q0, q1, q2, q3, q4, hu⟩ := X4 (hl.grow g0) m hi;cases hv1;have HM : Hid (l[m].rc.data.length ≤ 8) := h8 _ (List.getElem_mem hi);have HH : Hid (l[m].rc.key = key → Q = some l[m]) := fun h => by rw [HQ0.out]; exact Zgp hi hdr h
   have HD : Hid (¬ l[m].rc.key = key → ∀ x ∈ l.drop m, ¬ x.rc.key = key) := fun h x hx => (Za0 hi hx).elim (fun e => by rw [e]; exact h) (fun h2 => hdr x h2)
   generalize l[m] = x at *;clear hdr;by_cases hk : x.rc.key = key
   ·have HQ : Hid (Q = some x) := HH.out hk;have d0 : (x.rc.key == key) = true := by simp [hk]
    clear hk HH HD;go_wp2_with fail;refine (K0 x a1 c1 _ (by have := HM.out; omega) hu.p).mono ?_;rintro r w2 ⟨v2, rfl, ⟨a2, c2, rfl, ho2⟩, g2⟩;have hz2 := (g2.block _ (Zg hz0)).trans hz0;have gw2 := g0.trans g2;have HO : Hid (w2.ownsRow (w.heap.size + 1) 5 1 (.slice a2 x.rc.data.length c2) x.rc.data.length (x.rc.data.map bv)) := Z8 ho2 (Nat.le_of_eq HSZ.out.symm);clear q0 q1 q2 q3 q4 hu ho2 g2 hz0 g0;obtain ⟨z0, z1, z2, z3, z4⟩ := Qa hz2 rfl rfl rfl rfl rfl;obtain ⟨f0, f1, f2, f3⟩ := Xc hz2;have f4 := Z0 hz2 4;have cs := Z6;have hE := Zik (S := S) HO.out gw2 (.int .i64 x.rc.kind) (.int .i64 x.rc.key) (.int .i64 x.rc.ver) (.slice a2 x.rc.data.length c2) (.int .i64 x.pair);rw [← HQ.out] at hE;have HE : Hid _ := hE;clear hE gw2 HO;clear hz2;go_wp2_with fail;exact bodyPost_ret (v := .tuple #[.agg #[.int .i64 x.rc.kind, .int .i64 x.rc.key, .int .i64 x.rc.ver, .slice a2 x.rc.data.length c2, .int .i64 x.pair], .bool true]) (by simp [results, Try.results62, go_sem, cs, z0, z1, z2, z3, z4]) rfl ⟨_, rfl, HE.out.1, HE.out.2⟩
   ·have HD2 := HD.out hk;have d0 : (x.rc.key == key) = false := by simp [hk]
    clear hk HH HD hu;go_wp2_with fail;go_roundw
    case rel =>
     refine ⟨trivial, ?_⟩;by_cases hm0 : m = 0
     ·subst hm0;exact .inr ⟨by simp, by simpa using HD2⟩
     ·refine .inl ⟨m - 1, by omega, by congr 1; omega, ?_⟩;rw [show m - 1 + 1 = m from by omega]; exact HD2
    case measure => simp [intOf]
  ·have HQ : Hid (Q = none) := by show Q = _; rw [HQ0.out]; exact Zgn hno
   have hz2 := hz0;obtain ⟨z0, z1, z2, z3, z4⟩ := Qa hz2 rfl rfl rfl rfl rfl;obtain ⟨f0, f1, f2, f3⟩ := Xc hz2;have f4 := Z0 hz2 4;have cs := Z6;have hE := Zj5 g0 (.int .i64 0) (.int .i64 0) (.int .i64 0) (.slice none 0 0) (.int .i64 0);have HE : Hid _ := hE;clear hE;have HN : Hid (Zca (Qg S w.heap.size) Q (.tuple #[.agg #[.int .i64 0, .int .i64 0, .int .i64 0, .slice none 0 0, .int .i64 0], .bool false]) (((((W.setCell ⟨w.heap.size, 0, none⟩ (.int .i64 0)).setCell ⟨w.heap.size, 1, none⟩ (.int .i64 0)).setCell ⟨w.heap.size, 2, none⟩ (.int .i64 0)).setCell ⟨w.heap.size, 3, none⟩ (.slice none 0 0)).setCell ⟨w.heap.size, 4, none⟩ (.int .i64 0))) := by rw [HQ.out]; exact Zbi _ _
   clear hz2 hz0 hno g0;go_wp2_with fail;exact bodyPost_ret (v := .tuple #[.agg #[.int .i64 0, .int .i64 0, .int .i64 0, .slice none 0 0, .int .i64 0], .bool false]) (by simp [results, Try.results62, go_sem, cs, z0, z1, z2, z3, z4]) rfl ⟨_, rfl, HN.out, HE.out⟩
theorem Zf7 (S : Nat → Prop) (l : List Ent) (key ver : Int) (v : Value) (w : World) (hl : Yl S w v l) (hn : l.length ≤ 1000000) (h8 : ∀ x ∈ l, x.rc.data.length ≤ 8) :
  Calls Try.prog 63 #[v, .int .i64 key, .int .i64 ver] w fun r w' => ∃ v', r = .returned v' ∧ Zca (Qg S w.heap.size) (X0 l key ver) v' w' ∧ Zm w w' := by
 obtain ⟨ao, cp, rfl⟩ := hl.form;have g0 := Zh w Ze2;have hz0 := Zu w #[.int .i64 0, .int .i64 0, .int .i64 0, .slice none 0 0, .int .i64 0] 71;obtain ⟨Q, hQ⟩ : ∃ Q, Q = X0 l key ver := ⟨_, rfl⟩;rw [← hQ];have HQ0 : Hid _ := hQ;clear hQ;go_enter Try.func63, Try.ntmps63;go_wp2_with fail;generalize World.alloc w _ = W at *;go_loopw [12] (fun i wr => ∃ k : Nat, k ≤ l.length ∧ i = .int .i64 k ∧ (∀ x ∈ l.take k, ¬ (x.rc.key = key ∧ x.rc.ver = ver)) ∧ Zm w wr ∧ wr.heap[w.heap.size]? = some Ze2) (fun i _ => l.length - (intOf i).toNat)
 case atStart => exact ⟨0, Nat.zero_le _, rfl, fun x hx => by simp at hx, g0, hz0⟩
 case round =>
  clear g0 hz0;obtain ⟨k, hk, rfl, hno, hg, hz⟩ := hrel;by_cases hlt : k < l.length
  ·obtain ⟨b, off, a1, c1, hv1, q0, q1, q2, q3, q4, hu⟩ := X4 (hl.grow hg) k hlt;cases hv1;have HM : Hid (l[k].rc.data.length ≤ 8) := h8 _ (List.getElem_mem hlt);have HH : Hid (l[k].rc.key = key ∧ l[k].rc.ver = ver → Q = some l[k]) := fun h => by rw [HQ0.out]; exact Zgu hlt hno h
   have HD : Hid (¬ (l[k].rc.key = key ∧ l[k].rc.ver = ver) → ∀ x ∈ l.take (k + 1), ¬ (x.rc.key = key ∧ x.rc.ver = ver)) := fun h x hx => (Kj hlt hx).elim (fun h2 => hno x h2) (fun e => by rw [e]; exact h)
   generalize l[k] = x at *;have g1 := Zh wr (.cells #[.int .i64 x.rc.kind, .int .i64 x.rc.key, .int .i64 x.rc.ver, .slice a1 x.rc.data.length c1, .int .i64 x.pair] 71);have hX1 := Zu wr #[.int .i64 x.rc.kind, .int .i64 x.rc.key, .int .i64 x.rc.ver, .slice a1 x.rc.data.length c1, .int .i64 x.pair] 71;have gw1 := hg.trans g1;have hz1 := (g1.block _ (Zg hz)).trans hz;have hu1 := hu.grow g1;obtain ⟨x0, x1, x2, x3, x4⟩ := Qa hX1 rfl rfl rfl rfl rfl;have HSZ : Hid (w.heap.size + 1 ≤ wr.heap.size + 1) := Nat.succ_le_succ (hg.size);clear hno g1 hX1 hz hg hu;by_cases hkk : x.rc.key = key
   ·have d0 : (x.rc.key == key) = true := by simp [hkk]
    by_cases hvv : x.rc.ver = ver
    ·have HQ : Hid (Q = some x) := HH.out ⟨hkk, hvv⟩;have d1 : (x.rc.ver == ver) = true := by simp [hvv]
     clear hkk hvv HH HD;go_wp2_with fail;refine (K0 x a1 c1 _ (by have := HM.out; omega) hu1.p).mono ?_;rintro r w2 ⟨v2, rfl, ⟨a2, c2, rfl, ho2⟩, g2⟩;have hz2 := (g2.block _ (Zg hz1)).trans hz1;have gw2 := gw1.trans g2;have HO : Hid (w2.ownsRow (w.heap.size + 1) 5 1 (.slice a2 x.rc.data.length c2) x.rc.data.length (x.rc.data.map bv)) := Z8 ho2 (by rw [World.size_alloc]; exact HSZ.out);clear q0 q1 q2 q3 q4 x0 x1 x2 x3 x4 hu1 ho2 g2 hz1 gw1;obtain ⟨z0, z1, z2, z3, z4⟩ := Qa hz2 rfl rfl rfl rfl rfl;obtain ⟨f0, f1, f2, f3⟩ := Xc hz2;have f4 := Z0 hz2 4;have cs := Z6;have hE := Zik (S := S) HO.out gw2 (.int .i64 x.rc.kind) (.int .i64 x.rc.key) (.int .i64 x.rc.ver) (.slice a2 x.rc.data.length c2) (.int .i64 x.pair);rw [← HQ.out] at hE;have HE : Hid _ := hE;clear hE gw2 HO;clear hz2;go_wp2_with fail;exact bodyPost_ret (v := .tuple #[.agg #[.int .i64 x.rc.kind, .int .i64 x.rc.key, .int .i64 x.rc.ver, .slice a2 x.rc.data.length c2, .int .i64 x.pair], .bool true]) (by simp [results, Try.results63, go_sem, cs, z0, z1, z2, z3, z4]) rfl ⟨_, rfl, HE.out.1, HE.out.2⟩
    ·have HD2 := HD.out (fun h => hvv h.2);have d1 : (x.rc.ver == ver) = false := by simp [hvv]
     have HDD : Hid _ := HD2;clear hkk hvv HH HD HD2 hu1;go_wp2_with fail;go_roundw
     case rel => exact ⟨k + 1, by omega, by go_num, HDD.out, gw1, hz1⟩
     case measure => simp [intOf]; omega
   ·have HD2 := HD.out (fun h => hkk h.1);have d0 : (x.rc.key == key) = false := by simp [hkk]
    have HDD : Hid _ := HD2;clear hkk HH HD HD2 hu1;go_wp2_with fail;go_roundw
    case rel => exact ⟨k + 1, by omega, by go_num, HDD.out, gw1, hz1⟩
    case measure => simp [intOf]; omega
  ·have HQ : Hid (Q = none) := by
    show Q = _;rw [HQ0.out];rw [List.take_of_length_le (by omega)] at hno;exact Zgt hno
   have hz2 := hz;obtain ⟨z0, z1, z2, z3, z4⟩ := Qa hz2 rfl rfl rfl rfl rfl;obtain ⟨f0, f1, f2, f3⟩ := Xc hz2;have f4 := Z0 hz2 4;have cs := Z6;have HE : Hid _ := Zj5 hg (.int .i64 0) (.int .i64 0) (.int .i64 0) (.slice none 0 0) (.int .i64 0);have HN : Hid (Zca (Qg S w.heap.size) Q (.tuple #[.agg #[.int .i64 0, .int .i64 0, .int .i64 0, .slice none 0 0, .int .i64 0], .bool false]) (((((wr.setCell ⟨w.heap.size, 0, none⟩ (.int .i64 0)).setCell ⟨w.heap.size, 1, none⟩ (.int .i64 0)).setCell ⟨w.heap.size, 2, none⟩ (.int .i64 0)).setCell ⟨w.heap.size, 3, none⟩ (.slice none 0 0)).setCell ⟨w.heap.size, 4, none⟩ (.int .i64 0))) := by rw [HQ.out]; exact Zbi _ _
   clear hz2 hz hno hg;go_wp2_with fail;exact bodyPost_ret (v := .tuple #[.agg #[.int .i64 0, .int .i64 0, .int .i64 0, .slice none 0 0, .int .i64 0], .bool false]) (by simp [results, Try.results63, go_sem, cs, z0, z1, z2, z3, z4]) rfl ⟨_, rfl, HN.out, HE.out⟩
theorem Zgr : (Try.prog.info? 4).map (fun i => (i.zero, i.size, i.bytes)) = some (some (.bool false), 1, 1) := by kernel_rfl
theorem Zgh (w : World) (n : Nat) (hn : n ≤ 1000000) : (Instr.makeSlice 107 (.int .i64 (n : Int)) (.int .i64 (n : Int))).run Try.prog w = .ok (.slice (some ⟨w.heap.size, 0, none⟩) n n) (w.alloc (.cells (Array.replicate n (.bool false)) 4)) := by
 obtain ⟨i0, hif, hz0, hz1, hz2⟩ := info_parts Zgr;have h := run_make (P := Try.prog) w 107 4 i0 (.bool false) Try.underlying107 hif hz0 .i64 .i64 n n (by omega) (by omega) (by rw [hz2]; omega) (by omega);rw [h, hz1];have e : madeCells (Value.bool false).cells ((n : Int).toNat * 1) = Array.replicate n (Value.bool false) := by
  have h2 := toList_madeCells_one (.bool false) n;rw [Int.toNat_natCast, Nat.mul_one, ← List.toArray_replicate, ← h2];rfl
 rw [e, Int.toNat_natCast]
def Vl (g : Nat) (bs : List Bool) (w : World) : Prop := w.heap[g]? = some (.cells (bs.map Value.bool).toArray 4 (0, 0))
theorem Vl.cell (h : Vl g bs w) (i : Nat) (hi : i < bs.length) : w.cell? ⟨g, i, none⟩ = some (.bool bs[i]) := Zk h i _ (by simp [hi])
theorem Vl.set (h : Vl g bs w) (i : Nat) (b : Bool) : Vl g (bs.set i b) (w.setCell ⟨g, i, none⟩ (.bool b)) := by
 have := Yj h i (.bool b);unfold Vl;rw [this];simp [List.map_set]
theorem Vl.grow {w' : World} (h : Vl g bs w) (hg : Zm w w') : Vl g bs w' := (hg.block _ (Zg h)).trans h
def Zk1 (bs : List Bool) (r : Int) : Prop := (∃ k : Nat, k < bs.length ∧ r = (k : Int) ∧ bs[k]? = some false ∧ ∀ j, j < k → bs[j]? = some true) ∨ (r = -1 ∧ ∀ j, j < bs.length → bs[j]? = some true)
theorem Zel (bs : List Bool) (g cap : Nat) (w : World) (hn : bs.length ≤ 1000000) (hr : Vl g bs w) :
  Calls Try.prog 91 #[.slice (some ⟨g, 0, none⟩) bs.length cap, .bool false] w fun e w' => ∃ r, e = .returned (.int .i64 r) ∧ Zk1 bs r ∧ Zm w w' := by
 go_enter Try.func91, Try.ntmps91;go_wp2_with fail;go_loopw [8] (fun i wr => ∃ k : Nat, k ≤ bs.length ∧ i = .int .i64 k ∧ (∀ j, j < k → bs[j]? = some true) ∧ Zm w wr) (fun i _ => bs.length - (intOf i).toNat)
 case atStart => exact ⟨0, Nat.zero_le _, rfl, fun j hj => by omega, Zm.refl _⟩
 case round =>
  obtain ⟨k, hk, rfl, hall, hg⟩ := hrel;have HA : Hid (∀ j, j < k → bs[j]? = some true) := hall;clear hall;by_cases hlt : k < bs.length
  ·have q0 := (hr.grow hg).cell k hlt;have HB : Hid (bs[k]? = some bs[k]) := List.getElem?_eq_getElem hlt;generalize bs[k] = x at *;cases x with
   | false =>
    go_wp2_with fail;go_ret;exact ⟨_, rfl, .inl ⟨k, hlt, rfl, HB.out, HA.out⟩, hg⟩
   | true =>
    go_wp2_with fail;go_roundw
    case rel =>
     refine ⟨k + 1, by omega, by go_num, fun j hj => ?_, hg⟩;rcases Nat.lt_succ_iff_lt_or_eq.1 hj with h | rfl
     ·exact HA.out j h
     ·exact HB.out
    case measure => simp [intOf]; omega
  ·go_wp2_with fail;go_ret;exact ⟨_, rfl, .inr ⟨rfl, fun j hj => HA.out j (by omega)⟩, hg⟩
def Vs (l : List Ent) (k : Nat) (bs : List Bool) : Prop := bs.length = l.length ∧ ∀ (j : Nat) (b : Bool), bs[j]? = some b → (b = true ↔ ∃ x ∈ l.take k, x.pair = (j : Int))
theorem Zcf (l : List Ent) : Vs l 0 (List.replicate l.length false) := by
 refine ⟨by simp, fun j b h => ?_⟩;have : b = false := by
  obtain ⟨h1, rfl⟩ := List.getElem?_eq_some_iff.1 h;simp
 subst this;simp
theorem Zch (hk : k < l.length) (j : Int) : (∃ x ∈ l.take (k + 1), x.pair = j) ↔ (∃ x ∈ l.take k, x.pair = j) ∨ l[k].pair = j := by
 constructor
 ·rintro ⟨x, hx, hj⟩;rcases Kj hk hx with h | rfl
  ·exact .inl ⟨x, h, hj⟩
  ·exact .inr hj
 ·rintro (⟨x, hx, hj⟩ | h)
  ·exact ⟨x, by rw [List.take_succ_eq_append_getElem hk]; exact List.mem_append_left _ hx, hj⟩
  ·exact ⟨l[k], by rw [List.take_succ_eq_append_getElem hk]; exact List.mem_append_right _ (List.mem_singleton.2 rfl), h⟩
theorem Zdx (h : Vs l k bs) (hk : k < l.length) {p : Nat} (hp : l[k].pair = (p : Int)) (hge : l.length ≤ p) : Vs l (k + 1) bs := by
 refine ⟨h.1, fun j b hj => ?_⟩;have hlt : j < l.length := by rw [← h.1]; exact (List.getElem?_eq_some_iff.1 hj).1
 rw [h.2 j b hj, Zch hk, hp];constructor
 ·exact .inl
 ·rintro (h | h)
  ·exact h
  ·omega
theorem Zfq (h : Vs l k bs) (hk : k < l.length) {p : Nat} (hp : l[k].pair = (p : Int)) : Vs l (k + 1) (bs.set p true) := by
 refine ⟨by rw [List.length_set]; exact h.1, fun j b hj => ?_⟩;rw [Zch hk, hp];by_cases e : p = j
 ·subst e;rw [List.getElem?_set_self (by have := (List.getElem?_eq_some_iff.1 hj).1; simpa using this)] at hj;cases hj;simp
 ·rw [List.getElem?_set_ne e] at hj;rw [h.2 j b hj];constructor
  ·exact .inl
  ·rintro (h | h)
   ·exact h
   ·omega
theorem Zcg (h : Vs l l.length bs) (hf : bs[k]? = some false) (hall : ∀ j, j < k → bs[j]? = some true) : Kn l k := by
 have ht : l.take l.length = l := List.take_length;refine ⟨fun n hn => ?_, fun x hx hp => ?_⟩
 ·have := (h.2 n true (hall n hn)).1 rfl;rw [ht] at this; exact this
 ·have := (h.2 k false hf).2 ⟨x, by rw [ht]; exact hx, hp⟩;cases this
theorem Zdy (h : Vs l l.length bs) (hall : ∀ j, j < bs.length → bs[j]? = some true) : Kn l l.length := by
 refine Zid (fun n hn => ?_) (.inl rfl);have := (h.2 n true (hall n (by rw [h.1]; exact hn))).1 rfl;rw [List.take_length] at this; exact this
theorem Zf6 (S : Nat → Prop) (l : List Ent) (pairs : Int) (v : Value) (w : World) (hl : Yl S w v l) (hn : l.length ≤ 1000000) (hp0 : ∀ x ∈ l, 0 ≤ x.pair) :
  Calls Try.prog 64 #[v, .int .i64 pairs] w fun r w' => ∃ n, r = .returned (.int .i64 n) ∧ Ju l pairs n ∧ Zm w w' := by
 obtain ⟨ao, cp, rfl⟩ := hl.form;have mk := fun w => Zgh w l.length hn
 have g0 := Zh w (.cells (Array.replicate l.length (.bool false)) 4);have hB0 : Vl w.heap.size (List.replicate l.length false) (w.alloc (.cells (Array.replicate l.length (.bool false)) 4)) := by
  have h := Zu w (Array.replicate l.length (.bool false)) 4;unfold Vl;rw [h];simp
 go_enter Try.func64, Try.ntmps64;go_wp2_with fail;clear mk;generalize World.alloc w _ = W at *;go_loopw [14] (fun i wr => ∃ (k : Nat) (bs : List Bool), k ≤ l.length ∧ i = .int .i64 k ∧ Vs l k bs ∧ Vl w.heap.size bs wr ∧ Zm w wr) (fun i _ => l.length - (intOf i).toNat)
 case atStart => exact ⟨0, _, Nat.zero_le _, rfl, Zcf l, hB0, g0⟩
 case round =>
  clear g0 hB0;obtain ⟨k, bs, hk, rfl, hT, hB, hg⟩ := hrel;have HT : Hid (Vs l k bs) := hT;clear hT;by_cases hlt : k < l.length
  ·obtain ⟨b, off, a1, c1, hv1, q0, q1, q2, q3, q4, hu⟩ := X4 (hl.grow hg) k hlt;cases hv1;obtain ⟨p, hp⟩ : ∃ p : Nat, l[k].pair = (p : Int) := ⟨l[k].pair.toNat, by have := hp0 _ (List.getElem_mem hlt); omega⟩;have HP : Hid (l[k].pair = (p : Int)) := hp;rw [hp] at q4;have g1 := Zh wr (.cells #[.int .i64 l[k].rc.kind, .int .i64 l[k].rc.key, .int .i64 l[k].rc.ver, .slice a1 l[k].rc.data.length c1, .int .i64 (p : Int)] 71);have hX1 := Zu wr #[.int .i64 l[k].rc.kind, .int .i64 l[k].rc.key, .int .i64 l[k].rc.ver, .slice a1 l[k].rc.data.length c1, .int .i64 (p : Int)] 71;have x4 := Zk hX1 4 _ rfl;have hB1 := hB.grow g1;have gw1 := hg.trans g1;have d0 : (0 : Int) ≤ (p : Int) := by omega
   clear hX1 hB hg g1 hu hp;by_cases hpn : p < l.length
   ·have HS : Hid (Vs l (k + 1) (bs.set p true)) := Zfq HT.out hlt HP.out;have hpb : p < bs.length := by rw [HT.out.1]; exact hpn
    have y0 := hB1.cell p hpb;have f0 := Z0 hB1 p;have cs := Z6;have HB2 : Hid _ := hB1.set p true;have HG : Hid _ := Zt gw1 (a := ⟨w.heap.size, p, none⟩) (Nat.le_refl _) (.bool true);have d1 : (p : Int) < (l.length : Int) := by omega
    generalize bs[p] = y at *;clear HT HP hB1 gw1 hpb;go_wp2_with fail;go_roundw
    case rel => exact ⟨k + 1, _, by omega, by go_num, HS.out, HB2.out, HG.out⟩
    case measure => simp [intOf]; omega
   ·have HS : Hid (Vs l (k + 1) bs) := Zdx HT.out hlt HP.out (by omega);have d1 : ¬ ((p : Int) < (l.length : Int)) := by omega
    clear HT HP;go_wp2_with fail;go_roundw
    case rel => exact ⟨k + 1, _, by omega, by go_num, HS.out, hB1, gw1⟩
    case measure => simp [intOf]; omega
  ·have HT2 : Hid (Vs l l.length bs) := by
    have h := HT.out;rw [show k = l.length from by omega] at h;exact h
   have HLN : Hid (bs.length = l.length) := HT.out.1;have hbn : bs.length ≤ 1000000 := by rw [HT.out.1]; exact hn
   clear HT;go_wp2_with fail;have hix := Zel bs w.heap.size l.length wr hbn hB;rw [HLN.out] at hix;refine hix.mono ?_;rintro r w2 ⟨R, rfl, hF, g2⟩;have gE := hg.trans g2;clear hix g2 hg hB;rcases hF with ⟨F, hF1, rfl, hF2, hF3⟩ | ⟨rfl, hF3⟩
   ·have HL : Hid (Kn l F) := Zcg HT2.out hF2 hF3;have d0 : ¬ ((F : Int) < 0) := by omega
    clear HT2 hF1 hF2 hF3;by_cases hge : pairs ≤ (F : Int)
    ·have d1 : (F : Int) ≥ pairs := hge;go_wp2_with fail;go_ret;exact ⟨-1, rfl, ⟨F, HL.out, .inr ⟨hge, rfl⟩⟩, gE⟩
    ·have d1 : ¬ ((F : Int) ≥ pairs) := hge;go_wp2_with fail;go_ret;exact ⟨_, rfl, ⟨F, HL.out, .inl ⟨by omega, rfl⟩⟩, gE⟩
   ·obtain ⟨F, hF⟩ : ∃ F, F = l.length := ⟨_, rfl⟩;have HL : Hid (Kn l F) := by show Kn l F; rw [hF]; exact Zdy HT2.out hF3
    rw [← hF];clear HT2 hF3 hF;by_cases hge : pairs ≤ (F : Int)
    ·have d1 : (F : Int) ≥ pairs := hge;go_wp2_with fail;go_ret;exact ⟨-1, rfl, ⟨F, HL.out, .inr ⟨hge, rfl⟩⟩, gE⟩
    ·have d1 : ¬ ((F : Int) ≥ pairs) := hge;go_wp2_with fail;go_ret;exact ⟨_, rfl, ⟨F, HL.out, .inl ⟨by omega, rfl⟩⟩, gE⟩
end Go.Proofs.Ytpdnapbchcdhlaa
