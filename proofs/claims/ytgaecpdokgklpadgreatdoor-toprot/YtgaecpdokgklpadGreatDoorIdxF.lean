import Derived.Test.YtgaecpdokgklpadGreatDoorIdxD
set_option maxHeartbeats 8000000
namespace Go.Proofs.YtgaecpdokgklpadGreatDoor
set_option maxRecDepth 100000
open Go.RowKit
open Plain Reg
def Zx0 : Ent := ⟨⟨0, 0, 0, []⟩, 0⟩
theorem Zqw (S : Nat → Prop) (w : World) : Zrj S none (.tuple #[.agg #[.int .i64 0, .int .i64 0, .int .i64 0, .slice none 0 0, .int .i64 0], .bool false]) w := ⟨Zx0, none, 0, rfl, fun y h => by cases h⟩
theorem Zqv {S : Nat → Prop} {x : Ent} {a : Option Addr} {c : Nat} {w : World} (h : Z3 S w (.slice a x.rc.data.length c) x.rc.data) : Zrj S (some x) (.tuple #[.agg #[.int .i64 x.rc.kind, .int .i64 x.rc.key, .int .i64 x.rc.ver, .slice a x.rc.data.length c, .int .i64 x.pair], .bool true]) w := ⟨x, a, c, rfl, fun y e => by cases e; exact ⟨rfl, h⟩⟩
abbrev Zas : Obj := .cells #[.int .i64 0, .int .i64 0, .int .i64 0, .slice none 0 0, .int .i64 0] 61 (0, 0)
theorem Zxj {S : Nat → Prop} {w w2 : World} {x : Ent} {a2 : Option Addr} {c2 : Nat} (HO : w2.ownsRow (w.heap.size + 1) 5 1 (.slice a2 x.rc.data.length c2) x.rc.data.length (x.rc.data.map bv)) (gw2 : Zj w w2) (u0 u1 u2 u3 u4 : Value) :
  Zrj (Z7 S w.heap.size) (some x) (.tuple #[.agg #[.int .i64 x.rc.kind, .int .i64 x.rc.key, .int .i64 x.rc.ver, .slice a2 x.rc.data.length c2, .int .i64 x.pair], .bool true]) (((((w2.setCell ⟨w.heap.size, 0, none⟩ u0).setCell ⟨w.heap.size, 1, none⟩ u1).setCell ⟨w.heap.size, 2, none⟩ u2).setCell ⟨w.heap.size, 3, none⟩ u3).setCell ⟨w.heap.size, 4, none⟩ u4) ∧ Zj w (((((w2.setCell ⟨w.heap.size, 0, none⟩ u0).setCell ⟨w.heap.size, 1, none⟩ u1).setCell ⟨w.heap.size, 2, none⟩ u2).setCell ⟨w.heap.size, 3, none⟩ u3).setCell ⟨w.heap.size, 4, none⟩ u4) := by
 have hb : ∀ o, (⟨w.heap.size, o, none⟩ : Addr).block < w.heap.size + 1 := fun _ => Nat.lt_succ_self _
 have hge : ∀ o, w.heap.size ≤ (⟨w.heap.size, o, none⟩ : Addr).block := fun _ => Nat.le_refl _
 exact ⟨Zqv (Zfh S (Yi (Xp (Xp (Xp (Xp (Xp HO (hb 0) u0) (hb 1) u1) (hb 2) u2) (hb 3) u3) (hb 4) u4) (Nat.le_succ _))), Ya (Ya (Ya (Ya (Ya gw2 (hge 0) u0) (hge 1) u1) (hge 2) u2) (hge 3) u3) (hge 4) u4⟩
theorem Zx3 {w w2 : World} (gw2 : Zj w w2) (u0 u1 u2 u3 u4 : Value) : Zj w (((((w2.setCell ⟨w.heap.size, 0, none⟩ u0).setCell ⟨w.heap.size, 1, none⟩ u1).setCell ⟨w.heap.size, 2, none⟩ u2).setCell ⟨w.heap.size, 3, none⟩ u3).setCell ⟨w.heap.size, 4, none⟩ u4) := by
 have hge : ∀ o, w.heap.size ≤ (⟨w.heap.size, o, none⟩ : Addr).block := fun _ => Nat.le_refl _
 exact Ya (Ya (Ya (Ya (Ya gw2 (hge 0) u0) (hge 1) u1) (hge 2) u2) (hge 3) u3) (hge 4) u4
theorem Zpp (S : Nat → Prop) (l : List Ent) (key ver : Int) (v : Value) (w : World) (hl : Yp S w v l) (hn : l.length ≤ 1000000) (h8 : ∀ x ∈ l, x.rc.data.length ≤ 8) :
  Calls Tryz.prog 91 #[v, .int .i64 key, .int .i64 ver] w fun r w' => ∃ v', r = .returned v' ∧ Zrj (Z7 S w.heap.size) (Zah l key ver) v' w' ∧ Zj w w' := by
 obtain ⟨ao, cp, rfl⟩ := hl.form;have g0 := Zd w Zas;have hz0 := Zk w #[.int .i64 0, .int .i64 0, .int .i64 0, .slice none 0 0, .int .i64 0] 61;obtain ⟨Q, hQ⟩ : ∃ Q, Q = Zah l key ver := ⟨_, rfl⟩;rw [← hQ];have HQ0 : Hid _ := hQ;clear hQ;go_enter Tryz.func91, Tryz.ntmps91;go_wp2_with fail;generalize World.alloc w _ = W at *;go_loopw [12] (fun i wr => ∃ k : Nat, k ≤ l.length ∧ i = .int .i64 k ∧ (∀ x ∈ l.take k, ¬ (x.rc.key = key ∧ x.rc.ver = ver)) ∧ Zj w wr ∧ wr.heap[w.heap.size]? = some Zas) (fun i _ => l.length - (intOf i).toNat)
 case atStart => exact ⟨0, Nat.zero_le _, rfl, fun x hx => by simp at hx, g0, hz0⟩
 case round =>
  clear g0 hz0;obtain ⟨k, hk, rfl, hno, hg, hz⟩ := hrel;by_cases hlt : k < l.length
  ·obtain ⟨b, off, a1, c1, hv1, q0, q1, q2, q3, q4, hu⟩ := Zbr (hl.grow hg) k hlt;cases hv1;have HM : Hid (l[k].rc.data.length ≤ 8) := h8 _ (List.getElem_mem hlt);have HH : Hid (l[k].rc.key = key ∧ l[k].rc.ver = ver → Q = some l[k]) := fun h => by rw [HQ0.out]; exact Zqq hlt hno h
   have HD : Hid (¬ (l[k].rc.key = key ∧ l[k].rc.ver = ver) → ∀ x ∈ l.take (k + 1), ¬ (x.rc.key = key ∧ x.rc.ver = ver)) := fun h x hx => (Zb1 hlt hx).elim (fun h2 => hno x h2) (fun e => by rw [e]; exact h)
   generalize l[k] = x at *;have g1 := Zd wr (.cells #[.int .i64 x.rc.kind, .int .i64 x.rc.key, .int .i64 x.rc.ver, .slice a1 x.rc.data.length c1, .int .i64 x.pair] 61);have hX1 := Zk wr #[.int .i64 x.rc.kind, .int .i64 x.rc.key, .int .i64 x.rc.ver, .slice a1 x.rc.data.length c1, .int .i64 x.pair] 61;have gw1 := hg.trans g1;have hz1 := (g1.block _ (Zb hz)).trans hz;have hu1 := hu.grow g1;obtain ⟨x0, x1, x2, x3, x4⟩ := Kl hX1 rfl rfl rfl rfl rfl;have HSZ : Hid (w.heap.size + 1 ≤ wr.heap.size + 1) := Nat.succ_le_succ (hg.size);clear hno g1 hX1 hz hg hu;by_cases hkk : x.rc.key = key
   ·have d0 : (x.rc.key == key) = true := by simp [hkk]
    by_cases hvv : x.rc.ver = ver
    ·have HQ : Hid (Q = some x) := HH.out ⟨hkk, hvv⟩;have d1 : (x.rc.ver == ver) = true := by simp [hvv]
     clear hkk hvv HH HD;go_wp2_with fail;refine (Zfz x a1 c1 _ (by have := HM.out; omega) hu1.p).mono ?_;rintro r w2 ⟨v2, rfl, ⟨a2, c2, rfl, ho2⟩, g2⟩;have hz2 := (g2.block _ (Zb hz1)).trans hz1;have gw2 := gw1.trans g2;have HO : Hid (w2.ownsRow (w.heap.size + 1) 5 1 (.slice a2 x.rc.data.length c2) x.rc.data.length (x.rc.data.map bv)) := Yi ho2 (by rw [World.size_alloc]; exact HSZ.out);clear q0 q1 q2 q3 q4 x0 x1 x2 x3 x4 hu1 ho2 g2 hz1 gw1;obtain ⟨z0, z1, z2, z3, z4⟩ := Kl hz2 rfl rfl rfl rfl rfl;obtain ⟨f0, f1, f2, f3⟩ := Yw hz2;have f4 := Zu hz2 4;have cs := Zv;have hE := Zxj (S := S) HO.out gw2 (.int .i64 x.rc.kind) (.int .i64 x.rc.key) (.int .i64 x.rc.ver) (.slice a2 x.rc.data.length c2) (.int .i64 x.pair);rw [← HQ.out] at hE;have HE : Hid _ := hE;clear hE gw2 HO;clear hz2;go_wp2_with fail;exact bodyPost_ret (v := .tuple #[.agg #[.int .i64 x.rc.kind, .int .i64 x.rc.key, .int .i64 x.rc.ver, .slice a2 x.rc.data.length c2, .int .i64 x.pair], .bool true]) (by simp [results, Tryz.results91, go_sem, cs, z0, z1, z2, z3, z4]) rfl ⟨_, rfl, HE.out.1, HE.out.2⟩
    ·have HD2 := HD.out (fun h => hvv h.2);have d1 : (x.rc.ver == ver) = false := by simp [hvv]
     have HDD : Hid _ := HD2;clear hkk hvv HH HD HD2 hu1;go_wp2_with fail;go_roundw
     case rel => exact ⟨k + 1, by omega, by go_num, HDD.out, gw1, hz1⟩
     case measure => simp [intOf]; omega
   ·have HD2 := HD.out (fun h => hkk h.1);have d0 : (x.rc.key == key) = false := by simp [hkk]
    have HDD : Hid _ := HD2;clear hkk HH HD HD2 hu1;go_wp2_with fail;go_roundw
    case rel => exact ⟨k + 1, by omega, by go_num, HDD.out, gw1, hz1⟩
    case measure => simp [intOf]; omega
  ·have HQ : Hid (Q = none) := by
    show Q = _;rw [HQ0.out];rw [List.take_of_length_le (by omega)] at hno;exact Zqp hno
   have hz2 := hz;obtain ⟨z0, z1, z2, z3, z4⟩ := Kl hz2 rfl rfl rfl rfl rfl;obtain ⟨f0, f1, f2, f3⟩ := Yw hz2;have f4 := Zu hz2 4;have cs := Zv;have HE : Hid _ := Zx3 hg (.int .i64 0) (.int .i64 0) (.int .i64 0) (.slice none 0 0) (.int .i64 0);have HN : Hid (Zrj (Z7 S w.heap.size) Q (.tuple #[.agg #[.int .i64 0, .int .i64 0, .int .i64 0, .slice none 0 0, .int .i64 0], .bool false]) (((((wr.setCell ⟨w.heap.size, 0, none⟩ (.int .i64 0)).setCell ⟨w.heap.size, 1, none⟩ (.int .i64 0)).setCell ⟨w.heap.size, 2, none⟩ (.int .i64 0)).setCell ⟨w.heap.size, 3, none⟩ (.slice none 0 0)).setCell ⟨w.heap.size, 4, none⟩ (.int .i64 0))) := by rw [HQ.out]; exact Zqw _ _
   clear hz2 hz hno hg;go_wp2_with fail;exact bodyPost_ret (v := .tuple #[.agg #[.int .i64 0, .int .i64 0, .int .i64 0, .slice none 0 0, .int .i64 0], .bool false]) (by simp [results, Tryz.results91, go_sem, cs, z0, z1, z2, z3, z4]) rfl ⟨_, rfl, HN.out, HE.out⟩
theorem Zqk : (Tryz.prog.info? 4).map (fun i => (i.zero, i.size, i.bytes)) = some (some (.bool false), 1, 1) := by kernel_rfl
theorem Zp7 (w : World) (n : Nat) (hn : n ≤ 1000000) : (Instr.makeSlice 185 (.int .i64 (n : Int)) (.int .i64 (n : Int))).run Tryz.prog w = .ok (.slice (some ⟨w.heap.size, 0, none⟩) n n) (w.alloc (.cells (Array.replicate n (.bool false)) 4)) := by
 obtain ⟨i0, hif, hz0, hz1, hz2⟩ := info_parts Zqk;have h := run_make (P := Tryz.prog) w 185 4 i0 (.bool false) Tryz.underlying185 hif hz0 .i64 .i64 n n (by omega) (by omega) (by rw [hz2]; omega) (by omega);rw [h, hz1];have e : madeCells (Value.bool false).cells ((n : Int).toNat * 1) = Array.replicate n (Value.bool false) := by
  have h2 := toList_madeCells_one (.bool false) n;rw [Int.toNat_natCast, Nat.mul_one, ← List.toArray_replicate, ← h2];rfl
 rw [e, Int.toNat_natCast]
def J6 (g : Nat) (bs : List Bool) (w : World) : Prop := w.heap[g]? = some (.cells (bs.map Value.bool).toArray 4 (0, 0))
theorem J6.cell {g : Nat} {bs : List Bool} {w : World} (h : J6 g bs w) (i : Nat) (hi : i < bs.length) : w.cell? ⟨g, i, none⟩ = some (.bool bs[i]) := Zh h i _ (by simp [hi])
theorem J6.set {g : Nat} {bs : List Bool} {w : World} (h : J6 g bs w) (i : Nat) (b : Bool) : J6 g (bs.set i b) (w.setCell ⟨g, i, none⟩ (.bool b)) := by
 have := heap_set h i (.bool b);unfold J6;rw [this];simp [List.map_set]
theorem J6.grow {g : Nat} {bs : List Bool} {w w' : World} (h : J6 g bs w) (hg : Zj w w') : J6 g bs w' := (hg.block _ (Zb h)).trans h
def Zxs (bs : List Bool) (r : Int) : Prop := (∃ k : Nat, k < bs.length ∧ r = (k : Int) ∧ bs[k]? = some false ∧ ∀ j, j < k → bs[j]? = some true) ∨ (r = -1 ∧ ∀ j, j < bs.length → bs[j]? = some true)
theorem Zm6 (bs : List Bool) (g cap : Nat) (w : World) (hn : bs.length ≤ 1000000) (hr : J6 g bs w) :
  Calls Tryz.prog 129 #[.slice (some ⟨g, 0, none⟩) bs.length cap, .bool false] w fun e w' => ∃ r, e = .returned (.int .i64 r) ∧ Zxs bs r ∧ Zj w w' := by
 go_enter Tryz.func129, Tryz.ntmps129;go_wp2_with fail;go_loopw [8] (fun i wr => ∃ k : Nat, k ≤ bs.length ∧ i = .int .i64 k ∧ (∀ j, j < k → bs[j]? = some true) ∧ Zj w wr) (fun i _ => bs.length - (intOf i).toNat)
 case atStart => exact ⟨0, Nat.zero_le _, rfl, fun j hj => by omega, Zj.refl _⟩
 case round =>
  obtain ⟨k, hk, rfl, hall, hg⟩ := hrel;have HA : Hid (∀ j, j < k → bs[j]? = some true) := hall;clear hall;by_cases hlt : k < bs.length
  ·have q0 := (hr.grow hg).cell k hlt;have HB : Hid (bs[k]? = some bs[k]) := List.getElem?_eq_getElem hlt;generalize bs[k] = x at *;cases x with
   | false =>
    go_wp2_with fail;go_ret;exact ⟨_, rfl, .inl ⟨k, hlt, rfl, HB.out, HA.out⟩, hg⟩
   | true =>
    go_wp2_with fail;go_roundw
    case rel =>
     refine ⟨k + 1, by omega, by go_num, fun j hj => ?_, hg⟩;rcases Nat.lt_succ_iff_lt_or_eq.1 hj with h | rfl
     ·exact HA.out j h
     ·exact HB.out
    case measure => simp [intOf]; omega
  ·go_wp2_with fail;go_ret;exact ⟨_, rfl, .inr ⟨rfl, fun j hj => HA.out j (by omega)⟩, hg⟩
def Zao (l : List Ent) (k : Nat) (bs : List Bool) : Prop := bs.length = l.length ∧ ∀ (j : Nat) (b : Bool), bs[j]? = some b → (b = true ↔ ∃ x ∈ l.take k, x.pair = (j : Int))
theorem Zjm (l : List Ent) : Zao l 0 (List.replicate l.length false) := by
 refine ⟨by simp, fun j b h => ?_⟩;have : b = false := by
  obtain ⟨h1, rfl⟩ := List.getElem?_eq_some_iff.1 h;simp
 subst this;simp
theorem Zjo {l : List Ent} {k : Nat} (hk : k < l.length) (j : Int) : (∃ x ∈ l.take (k + 1), x.pair = j) ↔ (∃ x ∈ l.take k, x.pair = j) ∨ l[k].pair = j := by
 constructor
 ·rintro ⟨x, hx, hj⟩;rcases Zb1 hk hx with h | rfl
  ·exact .inl ⟨x, h, hj⟩
  ·exact .inr hj
 ·rintro (⟨x, hx, hj⟩ | h)
  ·exact ⟨x, by rw [List.take_succ_eq_append_getElem hk]; exact List.mem_append_left _ hx, hj⟩
  ·exact ⟨l[k], by rw [List.take_succ_eq_append_getElem hk]; exact List.mem_append_right _ (List.mem_singleton.2 rfl), h⟩
theorem Zl8 {l : List Ent} {k : Nat} {bs : List Bool} (h : Zao l k bs) (hk : k < l.length) {p : Nat} (hp : l[k].pair = (p : Int)) (hge : l.length ≤ p) : Zao l (k + 1) bs := by
 refine ⟨h.1, fun j b hj => ?_⟩;have hlt : j < l.length := by rw [← h.1]; exact (List.getElem?_eq_some_iff.1 hj).1
 rw [h.2 j b hj, Zjo hk, hp];constructor
 ·exact .inl
 ·rintro (h | h)
  ·exact h
  ·omega
theorem Zo1 {l : List Ent} {k : Nat} {bs : List Bool} (h : Zao l k bs) (hk : k < l.length) {p : Nat} (hp : l[k].pair = (p : Int)) : Zao l (k + 1) (bs.set p true) := by
 refine ⟨by rw [List.length_set]; exact h.1, fun j b hj => ?_⟩;rw [Zjo hk, hp];by_cases e : p = j
 ·subst e;rw [List.getElem?_set_self (by have := (List.getElem?_eq_some_iff.1 hj).1; simpa using this)] at hj;cases hj;simp
 ·rw [List.getElem?_set_ne e] at hj;rw [h.2 j b hj];constructor
  ·exact .inl
  ·rintro (h | h)
   ·exact h
   ·omega
theorem Zjn {l : List Ent} {bs : List Bool} (h : Zao l l.length bs) {k : Nat} (hf : bs[k]? = some false) (hall : ∀ j, j < k → bs[j]? = some true) : J5 l k := by
 have ht : l.take l.length = l := List.take_length;refine ⟨fun n hn => ?_, fun x hx hp => ?_⟩
 ·have := (h.2 n true (hall n hn)).1 rfl;rw [ht] at this; exact this
 ·have := (h.2 k false hf).2 ⟨x, by rw [ht]; exact hx, hp⟩;cases this
theorem Zl9 {l : List Ent} {bs : List Bool} (h : Zao l l.length bs) (hall : ∀ j, j < bs.length → bs[j]? = some true) : J5 l l.length := by
 refine Ztl (fun n hn => ?_) (.inl rfl);have := (h.2 n true (hall n (by rw [h.1]; exact hn))).1 rfl;rw [List.take_length] at this; exact this
theorem Zpo (S : Nat → Prop) (l : List Ent) (pairs : Int) (v : Value) (w : World) (hl : Yp S w v l) (hn : l.length ≤ 1000000) (hp0 : ∀ x ∈ l, 0 ≤ x.pair) :
  Calls Tryz.prog 93 #[v, .int .i64 pairs] w fun r w' => ∃ n, r = .returned (.int .i64 n) ∧ Znv l pairs n ∧ Zj w w' := by
 obtain ⟨ao, cp, rfl⟩ := hl.form;have mk := fun w => Zp7 w l.length hn
 have g0 := Zd w (.cells (Array.replicate l.length (.bool false)) 4);have hB0 : J6 w.heap.size (List.replicate l.length false) (w.alloc (.cells (Array.replicate l.length (.bool false)) 4)) := by
  have h := Zk w (Array.replicate l.length (.bool false)) 4;unfold J6;rw [h];simp
 go_enter Tryz.func93, Tryz.ntmps93;go_wp2_with fail;clear mk;generalize World.alloc w _ = W at *;go_loopw [14] (fun i wr => ∃ (k : Nat) (bs : List Bool), k ≤ l.length ∧ i = .int .i64 k ∧ Zao l k bs ∧ J6 w.heap.size bs wr ∧ Zj w wr) (fun i _ => l.length - (intOf i).toNat)
 case atStart => exact ⟨0, _, Nat.zero_le _, rfl, Zjm l, hB0, g0⟩
 case round =>
  clear g0 hB0;obtain ⟨k, bs, hk, rfl, hT, hB, hg⟩ := hrel;have HT : Hid (Zao l k bs) := hT;clear hT;by_cases hlt : k < l.length
  ·obtain ⟨b, off, a1, c1, hv1, q0, q1, q2, q3, q4, hu⟩ := Zbr (hl.grow hg) k hlt;cases hv1;obtain ⟨p, hp⟩ : ∃ p : Nat, l[k].pair = (p : Int) := ⟨l[k].pair.toNat, by have := hp0 _ (List.getElem_mem hlt); omega⟩;have HP : Hid (l[k].pair = (p : Int)) := hp;rw [hp] at q4;have g1 := Zd wr (.cells #[.int .i64 l[k].rc.kind, .int .i64 l[k].rc.key, .int .i64 l[k].rc.ver, .slice a1 l[k].rc.data.length c1, .int .i64 (p : Int)] 61);have hX1 := Zk wr #[.int .i64 l[k].rc.kind, .int .i64 l[k].rc.key, .int .i64 l[k].rc.ver, .slice a1 l[k].rc.data.length c1, .int .i64 (p : Int)] 61;have x4 := Zh hX1 4 _ rfl;have hB1 := hB.grow g1;have gw1 := hg.trans g1;have d0 : (0 : Int) ≤ (p : Int) := by omega
   clear hX1 hB hg g1 hu hp;by_cases hpn : p < l.length
   ·have HS : Hid (Zao l (k + 1) (bs.set p true)) := Zo1 HT.out hlt HP.out;have hpb : p < bs.length := by rw [HT.out.1]; exact hpn
    have y0 := hB1.cell p hpb;have f0 := Zu hB1 p;have cs := Zv;have HB2 : Hid _ := hB1.set p true;have HG : Hid _ := Ya gw1 (a := ⟨w.heap.size, p, none⟩) (Nat.le_refl _) (.bool true);have d1 : (p : Int) < (l.length : Int) := by omega
    generalize bs[p] = y at *;clear HT HP hB1 gw1 hpb;go_wp2_with fail;go_roundw
    case rel => exact ⟨k + 1, _, by omega, by go_num, HS.out, HB2.out, HG.out⟩
    case measure => simp [intOf]; omega
   ·have HS : Hid (Zao l (k + 1) bs) := Zl8 HT.out hlt HP.out (by omega);have d1 : ¬ ((p : Int) < (l.length : Int)) := by omega
    clear HT HP;go_wp2_with fail;go_roundw
    case rel => exact ⟨k + 1, _, by omega, by go_num, HS.out, hB1, gw1⟩
    case measure => simp [intOf]; omega
  ·have HT2 : Hid (Zao l l.length bs) := by
    have h := HT.out;rw [show k = l.length from by omega] at h;exact h
   have HLN : Hid (bs.length = l.length) := HT.out.1;have hbn : bs.length ≤ 1000000 := by rw [HT.out.1]; exact hn
   clear HT;go_wp2_with fail;have hix := Zm6 bs w.heap.size l.length wr hbn hB;rw [HLN.out] at hix;refine hix.mono ?_;rintro r w2 ⟨R, rfl, hF, g2⟩;have gE := hg.trans g2;clear hix g2 hg hB;rcases hF with ⟨F, hF1, rfl, hF2, hF3⟩ | ⟨rfl, hF3⟩
   ·have HL : Hid (J5 l F) := Zjn HT2.out hF2 hF3;have d0 : ¬ ((F : Int) < 0) := by omega
    clear HT2 hF1 hF2 hF3;by_cases hge : pairs ≤ (F : Int)
    ·have d1 : (F : Int) ≥ pairs := hge;go_wp2_with fail;go_ret;exact ⟨-1, rfl, ⟨F, HL.out, .inr ⟨hge, rfl⟩⟩, gE⟩
    ·have d1 : ¬ ((F : Int) ≥ pairs) := hge;go_wp2_with fail;go_ret;exact ⟨_, rfl, ⟨F, HL.out, .inl ⟨by omega, rfl⟩⟩, gE⟩
   ·obtain ⟨F, hF⟩ : ∃ F, F = l.length := ⟨_, rfl⟩;have HL : Hid (J5 l F) := by show J5 l F; rw [hF]; exact Zl9 HT2.out hF3
    rw [← hF];clear HT2 hF3 hF;by_cases hge : pairs ≤ (F : Int)
    ·have d1 : (F : Int) ≥ pairs := hge;go_wp2_with fail;go_ret;exact ⟨-1, rfl, ⟨F, HL.out, .inr ⟨hge, rfl⟩⟩, gE⟩
    ·have d1 : ¬ ((F : Int) ≥ pairs) := hge;go_wp2_with fail;go_ret;exact ⟨_, rfl, ⟨F, HL.out, .inl ⟨by omega, rfl⟩⟩, gE⟩
theorem Znx {r : Rec} (h : Z6 r = 0) : r.data.length ≤ 8 := (V2 h).2.2.2.2.2.2
theorem Zeo {l : List Ent} (h : Xq l = true) : ∀ x ∈ l, x.rc.data.length ≤ 8 := fun x hx => Znx (((Yy l).1 h).2 x hx).1
theorem Zvh {l : List Ent} (h : Xq l = true) : ∀ x ∈ l, 0 ≤ x.pair := fun x hx => (((Yy l).1 h).2 x hx).2.2.1
theorem Kv {l : List Ent} (h : Xq l = true) : l.length ≤ 1000000 := by have := Zpf h; omega
theorem Zxh : Zxr := fun S l p v w _ hr hl => (Zpr S l p v w hl (Kv hr) (Zeo hr)).mono fun _ w' ⟨v', _, h1, h2, h3⟩ => ⟨v', h1, by
 have h4 := h2.from.mono (S' := Z7 S w.heap.size) fun _ h => .inr h
 have e : (l.filter fun x => x.pair != p) = K0 l p := by
  unfold K0
  congr 1
  funext x
  by_cases h : x.pair = p <;> simp [h]
 rw [← e]; exact h4, h3⟩
theorem Zx7 : Zyh := fun S l e a c v w _ hr hne hw hl hb => (Zs2 S l e a c v w hl (Kv hr) (Zeo hr) (Znx hw) hne hb).mono fun _ w' ⟨v', h1, h2, h3⟩ => ⟨v', h1, by
 rw [Jd, ← Zc4 e l ((Yy l).1 hr).1 hne];exact h2.mono fun _ h => .inr h, h3⟩
theorem Zxg : Zxq := fun S l key ver v w _ hr hl => Zpp S l key ver v w hl (Kv hr) (Zeo hr)
theorem Zxf : Zxp := fun S l pairs v w hr _ hl => Zpo S l pairs v w hl (Kv hr) (Zvh hr)
theorem Zyc (y : Int) : bits .and .i64 y 1 = y % 2 := by
 have e1 : (BitVec.ofInt 64 y).toNat = (y % 18446744073709551616).toNat := by simp [BitVec.toNat_ofInt]
 have e2 : (BitVec.ofInt 64 1).toNat = 1 := by decide
 show IntKind.i64.wrap ((BitVec.ofInt 64 y &&& BitVec.ofInt 64 1).toNat : Int) = _;rw [BitVec.toNat_and, e1, e2, Nat.and_two_pow_sub_one_eq_mod _ 1, IntKind.wrap_i64];omega
theorem Zvd (b : Int) (k : Nat) (hk : k < 60) : Qh b k = (b / 2 ^ k % 2 == 1) := by
 have hr0 : 0 ≤ b % 18446744073709551616 := by omega
 obtain ⟨r, hr⟩ := Int.eq_ofNat_of_zero_le hr0;obtain ⟨t, ht⟩ : ∃ t, t = b / 18446744073709551616 := ⟨_, rfl⟩;have hb : b = (r : Int) + 2 ^ k * (2 ^ (63 - k) * 2 * t) := by
  have h64 : (2 : Int) ^ k * (2 ^ (63 - k) * 2) = 18446744073709551616 := by
   rw [← Int.mul_assoc, ← Int.pow_add, show k + (63 - k) = 63 from by omega]; decide
  rw [← Int.mul_assoc, h64]; omega
 have hpos : (2 : Int) ^ k ≠ 0 := by
  have : (0 : Int) < 2 ^ k := Int.pow_pos (by decide);omega
 have hq : b / 2 ^ k = (r : Int) / 2 ^ k + 2 ^ (63 - k) * 2 * t := by
  rw [hb, Int.add_mul_ediv_left _ _ hpos]
 have hd : (r : Int) / 2 ^ k = ((r / 2 ^ k : Nat) : Int) := by
  rw [Int.natCast_ediv, Int.natCast_pow]; rfl
 unfold Qh;rw [hr, Int.toNat_natCast, decide_eq_true hk, Bool.true_and, hq, hd];generalize r / 2 ^ k = s;have e : (2 : Int) ^ (63 - k) * 2 * t = 2 * (2 ^ (63 - k) * t) := by
  rw [Int.mul_comm (2 ^ (63 - k)) 2, Int.mul_assoc]
 rw [e];generalize (2 : Int) ^ (63 - k) * t = z;have e2 : ((s : Int) + 2 * z) % 2 = (s : Int) % 2 := by omega
 rw [e2];rcases Nat.mod_two_eq_zero_or_one s with h | h
 ·have h' : (s : Int) % 2 = 0 := by omega
  rw [h, h']; rfl
 ·have h' : (s : Int) % 2 = 1 := by omega
  rw [h, h']; rfl
theorem Zhi (d : Dk) (bt : Int) (vb vl : Value) (w : World) (hb : Xm w vb d.blocks) (hl : Q4 w vl d.late) (h0 : 0 < d.blocks.length) (hlen : d.blocks.length ≤ 256) (hm : d.late.length ≤ 60) (hb16 : ∀ x ∈ d.blocks, x.length ≤ 1000) (hl16 : ∀ x ∈ d.late, x.2.length ≤ 1000) (hp : ∀ x ∈ d.late, 0 ≤ x.1 ∧ x.1 < (d.blocks.length : Int)) :
  Calls Tryz.prog 34 #[.agg #[vb, vl], .int .i64 bt] w fun e w' => ∃ v, e = .returned v ∧ X7 w.heap.size (d.keep bt) v w' ∧ Zj w w' := by
 obtain ⟨ab, cb, rfl⟩ := hb.form;have hcap : ∃ al cl, vl = .slice al d.late.length cl ∧ d.late.length ≤ cl := by
  rcases hl with ⟨ao, cap, rfl, e, _⟩ | ⟨b, off, cap, rfl, h1, _⟩
  ·exact ⟨ao, cap, by rw [e]; rfl, by rw [e]; exact Nat.zero_le _⟩
  ·exact ⟨_, cap, rfl, h1⟩
 obtain ⟨al, cl, rfl, hcl⟩ := hcap;have gW := Zx w (.cells #[.slice ab d.blocks.length cb, .slice al d.late.length cl] 27) (.cells #[.slice none 0 0, .slice none 0 0] 27);have hx := hx1 w #[.slice ab d.blocks.length cb, .slice al d.late.length cl] #[.slice none 0 0, .slice none 0 0];have hy := hy1 w #[.slice ab d.blocks.length cb, .slice al d.late.length cl] #[.slice none 0 0, .slice none 0 0];go_enter Tryz.func34, Tryz.ntmps34;go_wp2_with fail;refine (Vz d.blocks _ _ (hb.grow gW) hlen hb16).mono ?_;rintro e w1 ⟨v1, us, rfl, hU, -, g1⟩;obtain ⟨q, cap, rfl⟩ := Zdv hU h0;have g2 := Zd w1 (.cells #[.slice (some ⟨q, 0, none⟩) d.blocks.length cap, .slice none 0 0] 27);have hxw := ((g1.trans g2).block _ (Zb hx)).trans hx;have hyw := ((g1.trans g2).block _ (Zb hy)).trans hy;have hstart : K2 d w #[.slice ab d.blocks.length cb, .slice al d.late.length cl] (.slice (some ⟨q, 0, none⟩) d.blocks.length cap) w1.heap.size (Qh bt) 0 (w1.alloc (.cells #[.slice (some ⟨q, 0, none⟩) d.blocks.length cap, .slice none 0 0] 27)) :=
  ⟨gW.trans (g1.trans g2), hxw, hyw, Zk _ _ _, us, (hU.grow g2).mono (by simp)⟩
 have x1 := Zh hxw 1 _ rfl;clear hU hxw hyw hx hy gW g1 g2 hb;have hmi : (d.late.length : Int) ≤ 60 := by omega
 go_wp2_with fail;clear x1 hmi;generalize w1.heap.size = g at *;generalize World.alloc w1 _ = W at *;have a1 := Zyc;go_loopw [20] (fun i wr => ∃ k : Nat, k ≤ d.late.length ∧ i = .int .i64 k ∧ K2 d w #[.slice ab d.blocks.length cb, .slice al d.late.length cl] (.slice (some ⟨q, 0, none⟩) d.blocks.length cap) g (Qh bt) k wr) (fun i _ => d.late.length - (intOf i).toNat)
 case atStart => exact ⟨0, Nat.zero_le _, rfl, hstart⟩
 case round =>
  clear hstart;obtain ⟨k, hk, rfl, hL⟩ := hrel;by_cases hlt : k < d.late.length
  ·obtain ⟨b, off, hvl, hc0, u, hc1, hu⟩ := (hl.grow hL.1).at k hlt;cases hvl;have hpk := hp d.late[k] (List.getElem_mem _);have hx16 := hl16 d.late[k] (List.getElem_mem _);obtain ⟨m, hm0⟩ := Int.eq_ofNat_of_zero_le hpk.1;have hmn : m < d.blocks.length := by have := hpk.2; omega
   rw [hm0] at hc0;obtain ⟨au, cu, rfl, -, -⟩ := Yt hu;have hll := hL.grow (Zd wr (.cells #[.int .i64 (m : Int), .slice au (d.late[k].2).length cu] 118));have hSB := Zvd bt k (by omega);have hk64 : (k : Int) ≤ 64 := by omega
   by_cases hon : Qh bt k = true
   ·obtain ⟨us1, hU1⟩ := hll.2.2.2.2;have hkl : (d.keepTo (Qh bt) k).length = d.blocks.length := d.keepTo_length _ _;have hrow1 := hU1.row;rw [hkl] at hrow1;have hu1 := Z0 hu (Zd wr (.cells #[.int .i64 (m : Int), .slice au (d.late[k].2).length cu] 118));have hfin := fun (l : List UInt8) (e : d.late[k].2 = l) v' w' => K2.land (v' := v') (w' := w') hll hon hlt hm0 e hU1
    have y0 := Zh hll.2.2.2.1 0 _ rfl;have y1 := Zh hll.2.2.2.1 1 _ rfl;replace hfin := hfin _ rfl;rw [hon] at hSB;have hbit : (bt / 2 ^ k % 2 == 1) = true := hSB.symm;clear hm0 hU1 hL hu hkl hpk hll hSB hon;generalize d.late[k].2 = data at *;go_wp2_with fail;refine (Zko q (w.heap.size + 1 + 1) d.blocks.length cap m us1 _ _ _ _ data _ _ rfl hmn hrow1 hu1 hx16).mono ?_;rintro e w2 ⟨rfl, v', hbut, hQ⟩;have hend := hfin v' w2 hbut hQ;clear hfin hbut hQ hrow1 hu1 y0 y1;go_wp2_with fail;go_roundw
    case rel => exact ⟨k + 1, by omega, by simp, hend⟩
    case measure => simp [intOf]; omega
   ·have hoff : Qh bt k = false := by simpa using hon
    have hend := hll.skip hoff;rw [hoff] at hSB;have hbit : (bt / 2 ^ k % 2 == 1) = false := hSB.symm;clear hm0 hL hu hpk hll hSB hon hoff;generalize d.late[k].2 = data at *;go_wp2_with fail;go_roundw
    case rel => exact ⟨k + 1, by omega, by simp, hend⟩
    case measure => simp [intOf]; omega
  ·have hk' : k = d.late.length := by omega
   subst hk';obtain ⟨gL, -, hLr, hLg, us1, hU1⟩ := hL;obtain ⟨y0, y1⟩ := Q7 hLg rfl rfl;obtain ⟨z0, z1⟩ := Q7 hLr rfl rfl;have f0 := Zu hLr 0;have f1 := Zu hLr 1;have cs := Zv;obtain ⟨hp1, hp2⟩ := Xv hLr (.slice (some ⟨q, 0, none⟩) d.blocks.length cap) (.slice none 0 0);have hstep : Yu 27 wr _ := .inr ⟨_, _, _, hp2, hLr, hp1, rfl⟩;have gE := hp2.grow gL (by omega);have hE := (hU1.box hstep).mono (B' := w.heap.size) (by omega);clear hp1 hp2 hstep hU1 hLg hLr gL hl;go_wp2_with fail;exact bodyPost_ret (v := .agg #[.slice (some ⟨q, 0, none⟩) d.blocks.length cap, .slice none 0 0]) (by simp [results, Tryz.results34, go_sem, z0, z1, cs]) rfl ⟨_, rfl, ⟨_, _, rfl, ⟨us1, hE⟩, X5.nil _ _⟩, gE⟩
end Go.Proofs.YtgaecpdokgklpadGreatDoor
