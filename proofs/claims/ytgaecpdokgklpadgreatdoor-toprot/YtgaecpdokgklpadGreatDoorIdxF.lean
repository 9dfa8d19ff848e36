import Derived.Test.YtgaecpdokgklpadGreatDoorIdxD
set_option maxHeartbeats 8000000
namespace Go.Proofs.YtgaecpdokgklpadGreatDoor
set_option maxRecDepth 100000
open Go.RowKit
open Plain Reg
def Zzb : Ent := ⟨⟨0, 0, 0, []⟩, 0⟩
theorem Zru (S : Nat → Prop) (w : World) : Zsi S none (.tuple #[.agg #[.int .i64 0, .int .i64 0, .int .i64 0, .slice none 0 0, .int .i64 0], .bool false]) w := ⟨Zzb, none, 0, rfl, fun y h => by cases h⟩
theorem Zrt {S : Nat → Prop} {x : Ent} {a : Option Addr} {c : Nat} {w : World} (h : Z5 S w (.slice a x.rc.data.length c) x.rc.data) : Zsi S (some x) (.tuple #[.agg #[.int .i64 x.rc.kind, .int .i64 x.rc.key, .int .i64 x.rc.ver, .slice a x.rc.data.length c, .int .i64 x.pair], .bool true]) w := ⟨x, a, c, rfl, fun y e => by cases e; exact ⟨rfl, h⟩⟩
abbrev Zba : Obj := .cells #[.int .i64 0, .int .i64 0, .int .i64 0, .slice none 0 0, .int .i64 0] 61 (0, 0)
theorem Zyu {S : Nat → Prop} {w w2 : World} {x : Ent} {a2 : Option Addr} {c2 : Nat} (HO : w2.ownsRow (w.heap.size + 1) 5 1 (.slice a2 x.rc.data.length c2) x.rc.data.length (x.rc.data.map bv)) (gw2 : Zj w w2) (u0 u1 u2 u3 u4 : Value) :
  Zsi (Z0 S w.heap.size) (some x) (.tuple #[.agg #[.int .i64 x.rc.kind, .int .i64 x.rc.key, .int .i64 x.rc.ver, .slice a2 x.rc.data.length c2, .int .i64 x.pair], .bool true]) (((((w2.setCell ⟨w.heap.size, 0, none⟩ u0).setCell ⟨w.heap.size, 1, none⟩ u1).setCell ⟨w.heap.size, 2, none⟩ u2).setCell ⟨w.heap.size, 3, none⟩ u3).setCell ⟨w.heap.size, 4, none⟩ u4) ∧ Zj w (((((w2.setCell ⟨w.heap.size, 0, none⟩ u0).setCell ⟨w.heap.size, 1, none⟩ u1).setCell ⟨w.heap.size, 2, none⟩ u2).setCell ⟨w.heap.size, 3, none⟩ u3).setCell ⟨w.heap.size, 4, none⟩ u4) := by
 have hb : ∀ o, (⟨w.heap.size, o, none⟩ : Addr).block < w.heap.size + 1 := fun _ => Nat.lt_succ_self _
 have hge : ∀ o, w.heap.size ≤ (⟨w.heap.size, o, none⟩ : Addr).block := fun _ => Nat.le_refl _
 exact ⟨Zrt (Zf2 S (Yi (Xv (Xv (Xv (Xv (Xv HO (hb 0) u0) (hb 1) u1) (hb 2) u2) (hb 3) u3) (hb 4) u4) (Nat.le_succ _))), Yc (Yc (Yc (Yc (Yc gw2 (hge 0) u0) (hge 1) u1) (hge 2) u2) (hge 3) u3) (hge 4) u4⟩
theorem Zzd {w w2 : World} (gw2 : Zj w w2) (u0 u1 u2 u3 u4 : Value) : Zj w (((((w2.setCell ⟨w.heap.size, 0, none⟩ u0).setCell ⟨w.heap.size, 1, none⟩ u1).setCell ⟨w.heap.size, 2, none⟩ u2).setCell ⟨w.heap.size, 3, none⟩ u3).setCell ⟨w.heap.size, 4, none⟩ u4) := by
 have hge : ∀ o, w.heap.size ≤ (⟨w.heap.size, o, none⟩ : Addr).block := fun _ => Nat.le_refl _
 exact Yc (Yc (Yc (Yc (Yc gw2 (hge 0) u0) (hge 1) u1) (hge 2) u2) (hge 3) u3) (hge 4) u4
theorem Zqo (S : Nat → Prop) (l : List Ent) (key ver : Int) (v : Value) (w : World) (hl : Ys S w v l) (hn : l.length ≤ 1000000) (h8 : ∀ x ∈ l, x.rc.data.length ≤ 8) :
  Calls Tryz.prog 91 #[v, .int .i64 key, .int .i64 ver] w fun r w' => ∃ v', r = .returned v' ∧ Zsi (Z0 S w.heap.size) (Za1 l key ver) v' w' ∧ Zj w w' := by
 obtain ⟨ao, cp, rfl⟩ := hl.form;have g0 := Zd w Zba;have hz0 := Zk w #[.int .i64 0, .int .i64 0, .int .i64 0, .slice none 0 0, .int .i64 0] 61;obtain ⟨Q, hQ⟩ : ∃ Q, Q = Za1 l key ver := ⟨_, rfl⟩;rw [← hQ];have HQ0 : Hid _ := hQ;clear hQ;go_enter Tryz.func91, Tryz.ntmps91;go_wp2_with fail;generalize World.alloc w _ = W at *;go_loopw [12] (fun i wr => ∃ k : Nat, k ≤ l.length ∧ i = .int .i64 k ∧ (∀ x ∈ l.take k, ¬ (x.rc.key = key ∧ x.rc.ver = ver)) ∧ Zj w wr ∧ wr.heap[w.heap.size]? = some Zba) (fun i _ => l.length - (intOf i).toNat)
 case atStart => exact ⟨0, Nat.zero_le _, rfl, fun x hx => by simp at hx, g0, hz0⟩
 case round =>
  clear g0 hz0;obtain ⟨k, hk, rfl, hno, hg, hz⟩ := hrel;by_cases hlt : k < l.length
  ·obtain ⟨b, off, a1, c1, hv1, q0, q1, q2, q3, q4, hu⟩ := Zb6 (hl.grow hg) k hlt;cases hv1;have HM : Hid (l[k].rc.data.length ≤ 8) := h8 _ (List.getElem_mem hlt);have HH : Hid (l[k].rc.key = key ∧ l[k].rc.ver = ver → Q = some l[k]) := fun h => by rw [HQ0.out]; exact Zro hlt hno h
   have HD : Hid (¬ (l[k].rc.key = key ∧ l[k].rc.ver = ver) → ∀ x ∈ l.take (k + 1), ¬ (x.rc.key = key ∧ x.rc.ver = ver)) := fun h x hx => (Zcf hlt hx).elim (fun h2 => hno x h2) (fun e => by rw [e]; exact h)
   generalize l[k] = x at *;have g1 := Zd wr (.cells #[.int .i64 x.rc.kind, .int .i64 x.rc.key, .int .i64 x.rc.ver, .slice a1 x.rc.data.length c1, .int .i64 x.pair] 61);have hX1 := Zk wr #[.int .i64 x.rc.kind, .int .i64 x.rc.key, .int .i64 x.rc.ver, .slice a1 x.rc.data.length c1, .int .i64 x.pair] 61;have gw1 := hg.trans g1;have hz1 := (g1.block _ (Za hz)).trans hz;have hu1 := hu.grow g1;obtain ⟨x0, x1, x2, x3, x4⟩ := Vx hX1 rfl rfl rfl rfl rfl;have HSZ : Hid (w.heap.size + 1 ≤ wr.heap.size + 1) := Nat.succ_le_succ (hg.size);clear hno g1 hX1 hz hg hu;by_cases hkk : x.rc.key = key
   ·have d0 : (x.rc.key == key) = true := by simp [hkk]
    by_cases hvv : x.rc.ver = ver
    ·have HQ : Hid (Q = some x) := HH.out ⟨hkk, hvv⟩;have d1 : (x.rc.ver == ver) = true := by simp [hvv]
     clear hkk hvv HH HD;go_wp2_with fail;refine (Zgk x a1 c1 _ (by have := HM.out; omega) hu1.p).mono ?_;rintro r w2 ⟨v2, rfl, ⟨a2, c2, rfl, ho2⟩, g2⟩;have hz2 := (g2.block _ (Za hz1)).trans hz1;have gw2 := gw1.trans g2;have HO : Hid (w2.ownsRow (w.heap.size + 1) 5 1 (.slice a2 x.rc.data.length c2) x.rc.data.length (x.rc.data.map bv)) := Yi ho2 (by rw [World.size_alloc]; exact HSZ.out);clear q0 q1 q2 q3 q4 x0 x1 x2 x3 x4 hu1 ho2 g2 hz1 gw1;obtain ⟨z0, z1, z2, z3, z4⟩ := Vx hz2 rfl rfl rfl rfl rfl;obtain ⟨f0, f1, f2, f3⟩ := Y0 hz2;have f4 := Zn hz2 4;have cs := Zv;have hE := Zyu (S := S) HO.out gw2 (.int .i64 x.rc.kind) (.int .i64 x.rc.key) (.int .i64 x.rc.ver) (.slice a2 x.rc.data.length c2) (.int .i64 x.pair);rw [← HQ.out] at hE;have HE : Hid _ := hE;clear hE gw2 HO;clear hz2;go_wp2_with fail;exact bodyPost_ret (v := .tuple #[.agg #[.int .i64 x.rc.kind, .int .i64 x.rc.key, .int .i64 x.rc.ver, .slice a2 x.rc.data.length c2, .int .i64 x.pair], .bool true]) (by simp [results, Tryz.results91, go_sem, cs, z0, z1, z2, z3, z4]) rfl ⟨_, rfl, HE.out.1, HE.out.2⟩
    ·have HD2 := HD.out (fun h => hvv h.2);have d1 : (x.rc.ver == ver) = false := by simp [hvv]
     have HDD : Hid _ := HD2;clear hkk hvv HH HD HD2 hu1;go_wp2_with fail;go_roundw
     case rel => exact ⟨k + 1, by omega, by go_num, HDD.out, gw1, hz1⟩
     case measure => simp [intOf]; omega
   ·have HD2 := HD.out (fun h => hkk h.1);have d0 : (x.rc.key == key) = false := by simp [hkk]
    have HDD : Hid _ := HD2;clear hkk HH HD HD2 hu1;go_wp2_with fail;go_roundw
    case rel => exact ⟨k + 1, by omega, by go_num, HDD.out, gw1, hz1⟩
    case measure => simp [intOf]; omega
  ·have HQ : Hid (Q = none) := by
    show Q = _;rw [HQ0.out];rw [List.take_of_length_le (by omega)] at hno;exact Zrn hno
   have hz2 := hz;obtain ⟨z0, z1, z2, z3, z4⟩ := Vx hz2 rfl rfl rfl rfl rfl;obtain ⟨f0, f1, f2, f3⟩ := Y0 hz2;have f4 := Zn hz2 4;have cs := Zv;have HE : Hid _ := Zzd hg (.int .i64 0) (.int .i64 0) (.int .i64 0) (.slice none 0 0) (.int .i64 0);have HN : Hid (Zsi (Z0 S w.heap.size) Q (.tuple #[.agg #[.int .i64 0, .int .i64 0, .int .i64 0, .slice none 0 0, .int .i64 0], .bool false]) (((((wr.setCell ⟨w.heap.size, 0, none⟩ (.int .i64 0)).setCell ⟨w.heap.size, 1, none⟩ (.int .i64 0)).setCell ⟨w.heap.size, 2, none⟩ (.int .i64 0)).setCell ⟨w.heap.size, 3, none⟩ (.slice none 0 0)).setCell ⟨w.heap.size, 4, none⟩ (.int .i64 0))) := by rw [HQ.out]; exact Zru _ _
   clear hz2 hz hno hg;go_wp2_with fail;exact bodyPost_ret (v := .tuple #[.agg #[.int .i64 0, .int .i64 0, .int .i64 0, .slice none 0 0, .int .i64 0], .bool false]) (by simp [results, Tryz.results91, go_sem, cs, z0, z1, z2, z3, z4]) rfl ⟨_, rfl, HN.out, HE.out⟩
theorem Zri : (Tryz.prog.info? 4).map (fun i => (i.zero, i.size, i.bytes)) = some (some (.bool false), 1, 1) := by kernel_rfl
theorem Zq5 (w : World) (n : Nat) (hn : n ≤ 1000000) : (Instr.makeSlice 185 (.int .i64 (n : Int)) (.int .i64 (n : Int))).run Tryz.prog w = .ok (.slice (some ⟨w.heap.size, 0, none⟩) n n) (w.alloc (.cells (Array.replicate n (.bool false)) 4)) := by
 obtain ⟨i0, hif, hz0, hz1, hz2⟩ := info_parts Zri;have h := run_make (P := Tryz.prog) w 185 4 i0 (.bool false) Tryz.underlying185 hif hz0 .i64 .i64 n n (by omega) (by omega) (by rw [hz2]; omega) (by omega);rw [h, hz1];have e : madeCells (Value.bool false).cells ((n : Int).toNat * 1) = Array.replicate n (Value.bool false) := by
  have h2 := toList_madeCells_one (.bool false) n;rw [Int.toNat_natCast, Nat.mul_one, ← List.toArray_replicate, ← h2];rfl
 rw [e, Int.toNat_natCast]
def Zaq (g : Nat) (bs : List Bool) (w : World) : Prop := w.heap[g]? = some (.cells (bs.map Value.bool).toArray 4 (0, 0))
theorem Zaq.cell {g : Nat} {bs : List Bool} {w : World} (h : Zaq g bs w) (i : Nat) (hi : i < bs.length) : w.cell? ⟨g, i, none⟩ = some (.bool bs[i]) := Zf h i _ (by simp [hi])
theorem Zaq.set {g : Nat} {bs : List Bool} {w : World} (h : Zaq g bs w) (i : Nat) (b : Bool) : Zaq g (bs.set i b) (w.setCell ⟨g, i, none⟩ (.bool b)) := by
 have := heap_set h i (.bool b);unfold Zaq;rw [this];simp [List.map_set]
theorem Zaq.grow {g : Nat} {bs : List Bool} {w w' : World} (h : Zaq g bs w) (hg : Zj w w') : Zaq g bs w' := (hg.block _ (Za h)).trans h
def Zy4 (bs : List Bool) (r : Int) : Prop := (∃ k : Nat, k < bs.length ∧ r = (k : Int) ∧ bs[k]? = some false ∧ ∀ j, j < k → bs[j]? = some true) ∨ (r = -1 ∧ ∀ j, j < bs.length → bs[j]? = some true)
theorem Zn3 (bs : List Bool) (g cap : Nat) (w : World) (hn : bs.length ≤ 1000000) (hr : Zaq g bs w) :
  Calls Tryz.prog 129 #[.slice (some ⟨g, 0, none⟩) bs.length cap, .bool false] w fun e w' => ∃ r, e = .returned (.int .i64 r) ∧ Zy4 bs r ∧ Zj w w' := by
 go_enter Tryz.func129, Tryz.ntmps129;go_wp2_with fail;go_loopw [8] (fun i wr => ∃ k : Nat, k ≤ bs.length ∧ i = .int .i64 k ∧ (∀ j, j < k → bs[j]? = some true) ∧ Zj w wr) (fun i _ => bs.length - (intOf i).toNat)
 case atStart => exact ⟨0, Nat.zero_le _, rfl, fun j hj => by omega, Zj.refl _⟩
 case round =>
  obtain ⟨k, hk, rfl, hall, hg⟩ := hrel;have HA : Hid (∀ j, j < k → bs[j]? = some true) := hall;clear hall;by_cases hlt : k < bs.length
  ·have q0 := (hr.grow hg).cell k hlt;have HB : Hid (bs[k]? = some bs[k]) := List.getElem?_eq_getElem hlt;generalize bs[k] = x at *;cases x with
   | false =>
    go_wp2_with fail;go_ret;exact ⟨_, rfl, .inl ⟨k, hlt, rfl, HB.out, HA.out⟩, hg⟩
   | true =>
    go_wp2_with fail;go_roundw
    case rel =>
     refine ⟨k + 1, by omega, by go_num, fun j hj => ?_, hg⟩;rcases Nat.lt_succ_iff_lt_or_eq.1 hj with h | rfl
     ·exact HA.out j h
     ·exact HB.out
    case measure => simp [intOf]; omega
  ·go_wp2_with fail;go_ret;exact ⟨_, rfl, .inr ⟨rfl, fun j hj => HA.out j (by omega)⟩, hg⟩
def Za6 (l : List Ent) (k : Nat) (bs : List Bool) : Prop := bs.length = l.length ∧ ∀ (j : Nat) (b : Bool), bs[j]? = some b → (b = true ↔ ∃ x ∈ l.take k, x.pair = (j : Int))
theorem Zkg (l : List Ent) : Za6 l 0 (List.replicate l.length false) := by
 refine ⟨by simp, fun j b h => ?_⟩;have : b = false := by
  obtain ⟨h1, rfl⟩ := List.getElem?_eq_some_iff.1 h;simp
 subst this;simp
theorem Zki {l : List Ent} {k : Nat} (hk : k < l.length) (j : Int) : (∃ x ∈ l.take (k + 1), x.pair = j) ↔ (∃ x ∈ l.take k, x.pair = j) ∨ l[k].pair = j := by
 constructor
 ·rintro ⟨x, hx, hj⟩;rcases Zcf hk hx with h | rfl
  ·exact .inl ⟨x, h, hj⟩
  ·exact .inr hj
 ·rintro (⟨x, hx, hj⟩ | h)
  ·exact ⟨x, by rw [List.take_succ_eq_append_getElem hk]; exact List.mem_append_left _ hx, hj⟩
  ·exact ⟨l[k], by rw [List.take_succ_eq_append_getElem hk]; exact List.mem_append_right _ (List.mem_singleton.2 rfl), h⟩
theorem Zm0 {l : List Ent} {k : Nat} {bs : List Bool} (h : Za6 l k bs) (hk : k < l.length) {p : Nat} (hp : l[k].pair = (p : Int)) (hge : l.length ≤ p) : Za6 l (k + 1) bs := by
 refine ⟨h.1, fun j b hj => ?_⟩;have hlt : j < l.length := by rw [← h.1]; exact (List.getElem?_eq_some_iff.1 hj).1
 rw [h.2 j b hj, Zki hk, hp];constructor
 ·exact .inl
 ·rintro (h | h)
  ·exact h
  ·omega
theorem Zp0 {l : List Ent} {k : Nat} {bs : List Bool} (h : Za6 l k bs) (hk : k < l.length) {p : Nat} (hp : l[k].pair = (p : Int)) : Za6 l (k + 1) (bs.set p true) := by
 refine ⟨by rw [List.length_set]; exact h.1, fun j b hj => ?_⟩;rw [Zki hk, hp];by_cases e : p = j
 ·subst e;rw [List.getElem?_set_self (by have := (List.getElem?_eq_some_iff.1 hj).1; simpa using this)] at hj;cases hj;simp
 ·rw [List.getElem?_set_ne e] at hj;rw [h.2 j b hj];constructor
  ·exact .inl
  ·rintro (h | h)
   ·exact h
   ·omega
theorem Zkh {l : List Ent} {bs : List Bool} (h : Za6 l l.length bs) {k : Nat} (hf : bs[k]? = some false) (hall : ∀ j, j < k → bs[j]? = some true) : Zap l k := by
 have ht : l.take l.length = l := List.take_length;refine ⟨fun n hn => ?_, fun x hx hp => ?_⟩
 ·have := (h.2 n true (hall n hn)).1 rfl;rw [ht] at this; exact this
 ·have := (h.2 k false hf).2 ⟨x, by rw [ht]; exact hx, hp⟩;cases this
theorem Zm1 {l : List Ent} {bs : List Bool} (h : Za6 l l.length bs) (hall : ∀ j, j < bs.length → bs[j]? = some true) : Zap l l.length := by
 refine Zuo (fun n hn => ?_) (.inl rfl);have := (h.2 n true (hall n (by rw [h.1]; exact hn))).1 rfl;rw [List.take_length] at this; exact this
theorem Zqn (S : Nat → Prop) (l : List Ent) (pairs : Int) (v : Value) (w : World) (hl : Ys S w v l) (hn : l.length ≤ 1000000) (hp0 : ∀ x ∈ l, 0 ≤ x.pair) :
  Calls Tryz.prog 93 #[v, .int .i64 pairs] w fun r w' => ∃ n, r = .returned (.int .i64 n) ∧ Zov l pairs n ∧ Zj w w' := by
 obtain ⟨ao, cp, rfl⟩ := hl.form;have mk := fun w => Zq5 w l.length hn
 have g0 := Zd w (.cells (Array.replicate l.length (.bool false)) 4);have hB0 : Zaq w.heap.size (List.replicate l.length false) (w.alloc (.cells (Array.replicate l.length (.bool false)) 4)) := by
  have h := Zk w (Array.replicate l.length (.bool false)) 4;unfold Zaq;rw [h];simp
 go_enter Tryz.func93, Tryz.ntmps93;go_wp2_with fail;clear mk;generalize World.alloc w _ = W at *;go_loopw [14] (fun i wr => ∃ (k : Nat) (bs : List Bool), k ≤ l.length ∧ i = .int .i64 k ∧ Za6 l k bs ∧ Zaq w.heap.size bs wr ∧ Zj w wr) (fun i _ => l.length - (intOf i).toNat)
 case atStart => exact ⟨0, _, Nat.zero_le _, rfl, Zkg l, hB0, g0⟩
 case round =>
  clear g0 hB0;obtain ⟨k, bs, hk, rfl, hT, hB, hg⟩ := hrel;have HT : Hid (Za6 l k bs) := hT;clear hT;by_cases hlt : k < l.length
  ·obtain ⟨b, off, a1, c1, hv1, q0, q1, q2, q3, q4, hu⟩ := Zb6 (hl.grow hg) k hlt;cases hv1;obtain ⟨p, hp⟩ : ∃ p : Nat, l[k].pair = (p : Int) := ⟨l[k].pair.toNat, by have := hp0 _ (List.getElem_mem hlt); omega⟩;have HP : Hid (l[k].pair = (p : Int)) := hp;rw [hp] at q4;have g1 := Zd wr (.cells #[.int .i64 l[k].rc.kind, .int .i64 l[k].rc.key, .int .i64 l[k].rc.ver, .slice a1 l[k].rc.data.length c1, .int .i64 (p : Int)] 61);have hX1 := Zk wr #[.int .i64 l[k].rc.kind, .int .i64 l[k].rc.key, .int .i64 l[k].rc.ver, .slice a1 l[k].rc.data.length c1, .int .i64 (p : Int)] 61;have x4 := Zf hX1 4 _ rfl;have hB1 := hB.grow g1;have gw1 := hg.trans g1;have d0 : (0 : Int) ≤ (p : Int) := by omega
   clear hX1 hB hg g1 hu hp;by_cases hpn : p < l.length
   ·have HS : Hid (Za6 l (k + 1) (bs.set p true)) := Zp0 HT.out hlt HP.out;have hpb : p < bs.length := by rw [HT.out.1]; exact hpn
    have y0 := hB1.cell p hpb;have f0 := Zn hB1 p;have cs := Zv;have HB2 : Hid _ := hB1.set p true;have HG : Hid _ := Yc gw1 (a := ⟨w.heap.size, p, none⟩) (Nat.le_refl _) (.bool true);have d1 : (p : Int) < (l.length : Int) := by omega
    generalize bs[p] = y at *;clear HT HP hB1 gw1 hpb;go_wp2_with fail;go_roundw
    case rel => exact ⟨k + 1, _, by omega, by go_num, HS.out, HB2.out, HG.out⟩
    case measure => simp [intOf]; omega
   ·have HS : Hid (Za6 l (k + 1) bs) := Zm0 HT.out hlt HP.out (by omega);have d1 : ¬ ((p : Int) < (l.length : Int)) := by omega
    clear HT HP;go_wp2_with fail;go_roundw
    case rel => exact ⟨k + 1, _, by omega, by go_num, HS.out, hB1, gw1⟩
    case measure => simp [intOf]; omega
  ·have HT2 : Hid (Za6 l l.length bs) := by
    have h := HT.out;rw [show k = l.length from by omega] at h;exact h
   have HLN : Hid (bs.length = l.length) := HT.out.1;have hbn : bs.length ≤ 1000000 := by rw [HT.out.1]; exact hn
   clear HT;go_wp2_with fail;have hix := Zn3 bs w.heap.size l.length wr hbn hB;rw [HLN.out] at hix;refine hix.mono ?_;rintro r w2 ⟨R, rfl, hF, g2⟩;have gE := hg.trans g2;clear hix g2 hg hB;rcases hF with ⟨F, hF1, rfl, hF2, hF3⟩ | ⟨rfl, hF3⟩
   ·have HL : Hid (Zap l F) := Zkh HT2.out hF2 hF3;have d0 : ¬ ((F : Int) < 0) := by omega
    clear HT2 hF1 hF2 hF3;by_cases hge : pairs ≤ (F : Int)
    ·have d1 : (F : Int) ≥ pairs := hge;go_wp2_with fail;go_ret;exact ⟨-1, rfl, ⟨F, HL.out, .inr ⟨hge, rfl⟩⟩, gE⟩
    ·have d1 : ¬ ((F : Int) ≥ pairs) := hge;go_wp2_with fail;go_ret;exact ⟨_, rfl, ⟨F, HL.out, .inl ⟨by omega, rfl⟩⟩, gE⟩
   ·obtain ⟨F, hF⟩ : ∃ F, F = l.length := ⟨_, rfl⟩;have HL : Hid (Zap l F) := by show Zap l F; rw [hF]; exact Zm1 HT2.out hF3
    rw [← hF];clear HT2 hF3 hF;by_cases hge : pairs ≤ (F : Int)
    ·have d1 : (F : Int) ≥ pairs := hge;go_wp2_with fail;go_ret;exact ⟨-1, rfl, ⟨F, HL.out, .inr ⟨hge, rfl⟩⟩, gE⟩
    ·have d1 : ¬ ((F : Int) ≥ pairs) := hge;go_wp2_with fail;go_ret;exact ⟨_, rfl, ⟨F, HL.out, .inl ⟨by omega, rfl⟩⟩, gE⟩
theorem Zox {r : Rec} (h : Z6 r = 0) : r.data.length ≤ 8 := (Kh h).2.2.2.2.2.2
theorem Ze9 {l : List Ent} (h : Xw l = true) : ∀ x ∈ l, x.rc.data.length ≤ 8 := fun x hx => Zox (((Y5 l).1 h).2 x hx).1
theorem Zwo {l : List Ent} (h : Xw l = true) : ∀ x ∈ l, 0 ≤ x.pair := fun x hx => (((Y5 l).1 h).2 x hx).2.2.1
theorem Jd {l : List Ent} (h : Xw l = true) : l.length ≤ 1000000 := by have := Zqe h; omega
theorem Zyt : Zy3 := fun S l p v w _ hr hl => (Zqq S l p v w hl (Jd hr) (Ze9 hr)).mono fun _ w' ⟨v', _, h1, h2, h3⟩ => ⟨v', h1, by
 have h4 := h2.from.mono (S' := Z0 S w.heap.size) fun _ h => .inr h
 have e : (l.filter fun x => x.pair != p) = Ji l p := by
  unfold Ji
  congr 1
  funext x
  by_cases h : x.pair = p <;> simp [h]
 rw [← e]; exact h4, h3⟩
theorem Zzi : Zzu := fun S l e a c v w _ hr hne hw hl hb => (Zt5 S l e a c v w hl (Jd hr) (Ze9 hr) (Zox hw) hne hb).mono fun _ w' ⟨v', h1, h2, h3⟩ => ⟨v', h1, by
 rw [Jv, ← Zdi e l ((Y5 l).1 hr).1 hne];exact h2.mono fun _ h => .inr h, h3⟩
theorem Zys : Zy2 := fun S l key ver v w _ hr hl => Zqo S l key ver v w hl (Jd hr) (Ze9 hr)
theorem Zyr : Zy1 := fun S l pairs v w hr _ hl => Zqn S l pairs v w hl (Jd hr) (Zwo hr)
theorem Zzn (y : Int) : bits .and .i64 y 1 = y % 2 := by
 have e1 : (BitVec.ofInt 64 y).toNat = (y % 18446744073709551616).toNat := by simp [BitVec.toNat_ofInt]
 have e2 : (BitVec.ofInt 64 1).toNat = 1 := by decide
 show IntKind.i64.wrap ((BitVec.ofInt 64 y &&& BitVec.ofInt 64 1).toNat : Int) = _;rw [BitVec.toNat_and, e1, e2, Nat.and_two_pow_sub_one_eq_mod _ 1, IntKind.wrap_i64];omega
theorem Zwk (b : Int) (k : Nat) (hk : k < 60) : Qp b k = (b / 2 ^ k % 2 == 1) := by
 have hr0 : 0 ≤ b % 18446744073709551616 := by omega
 obtain ⟨r, hr⟩ := Int.eq_ofNat_of_zero_le hr0;obtain ⟨t, ht⟩ : ∃ t, t = b / 18446744073709551616 := ⟨_, rfl⟩;have hb : b = (r : Int) + 2 ^ k * (2 ^ (63 - k) * 2 * t) := by
  have h64 : (2 : Int) ^ k * (2 ^ (63 - k) * 2) = 18446744073709551616 := by
   rw [← Int.mul_assoc, ← Int.pow_add, show k + (63 - k) = 63 from by omega]; decide
  rw [← Int.mul_assoc, h64]; omega
 have hpos : (2 : Int) ^ k ≠ 0 := by
  have : (0 : Int) < 2 ^ k := Int.pow_pos (by decide);omega
 have hq : b / 2 ^ k = (r : Int) / 2 ^ k + 2 ^ (63 - k) * 2 * t := by
  rw [hb, Int.add_mul_ediv_left _ _ hpos]
 have hd : (r : Int) / 2 ^ k = ((r / 2 ^ k : Nat) : Int) := by
  rw [Int.natCast_ediv, Int.natCast_pow]; rfl
 unfold Qp;rw [hr, Int.toNat_natCast, decide_eq_true hk, Bool.true_and, hq, hd];generalize r / 2 ^ k = s;have e : (2 : Int) ^ (63 - k) * 2 * t = 2 * (2 ^ (63 - k) * t) := by
  rw [Int.mul_comm (2 ^ (63 - k)) 2, Int.mul_assoc]
 rw [e];generalize (2 : Int) ^ (63 - k) * t = z;have e2 : ((s : Int) + 2 * z) % 2 = (s : Int) % 2 := by omega
 rw [e2];rcases Nat.mod_two_eq_zero_or_one s with h | h
 ·have h' : (s : Int) % 2 = 0 := by omega
  rw [h, h']; rfl
 ·have h' : (s : Int) % 2 = 1 := by omega
  rw [h, h']; rfl
theorem Zek (d : Dk) (bt : Int) (vb vl : Value) (w : World) (hb : Xs w vb d.blocks) (hl : Ve w vl d.late) (h0 : 0 < d.blocks.length) (hlen : d.blocks.length ≤ 256) (hm : d.late.length ≤ 60) (hb16 : ∀ x ∈ d.blocks, x.length ≤ 1000) (hl16 : ∀ x ∈ d.late, x.2.length ≤ 1000) (hp : ∀ x ∈ d.late, 0 ≤ x.1 ∧ x.1 < (d.blocks.length : Int)) :
  Calls Tryz.prog 34 #[.agg #[vb, vl], .int .i64 bt] w fun e w' => ∃ v, e = .returned v ∧ Qg w.heap.size (d.keep bt) v w' ∧ Zj w w' := by
 obtain ⟨ab, cb, rfl⟩ := hb.form;have hcap : ∃ al cl, vl = .slice al d.late.length cl ∧ d.late.length ≤ cl := by
  rcases hl with ⟨ao, cap, rfl, e, _⟩ | ⟨b, off, cap, rfl, h1, _⟩
  ·exact ⟨ao, cap, by rw [e]; rfl, by rw [e]; exact Nat.zero_le _⟩
  ·exact ⟨_, cap, rfl, h1⟩
 obtain ⟨al, cl, rfl, hcl⟩ := hcap;have gW := Zw w (.cells #[.slice ab d.blocks.length cb, .slice al d.late.length cl] 27) (.cells #[.slice none 0 0, .slice none 0 0] 27);have hx := hx1 w #[.slice ab d.blocks.length cb, .slice al d.late.length cl] #[.slice none 0 0, .slice none 0 0];have hy := hy1 w #[.slice ab d.blocks.length cb, .slice al d.late.length cl] #[.slice none 0 0, .slice none 0 0];go_enter Tryz.func34, Tryz.ntmps34;go_wp2_with fail;refine (Ke d.blocks _ _ (hb.grow gW) hlen hb16).mono ?_;rintro e w1 ⟨v1, us, rfl, hU, -, g1⟩;obtain ⟨q, cap, rfl⟩ := Zec hU h0;have g2 := Zd w1 (.cells #[.slice (some ⟨q, 0, none⟩) d.blocks.length cap, .slice none 0 0] 27);have hxw := ((g1.trans g2).block _ (Za hx)).trans hx;have hyw := ((g1.trans g2).block _ (Za hy)).trans hy;have hstart : Jk d w #[.slice ab d.blocks.length cb, .slice al d.late.length cl] (.slice (some ⟨q, 0, none⟩) d.blocks.length cap) w1.heap.size (Qp bt) 0 (w1.alloc (.cells #[.slice (some ⟨q, 0, none⟩) d.blocks.length cap, .slice none 0 0] 27)) :=
  ⟨gW.trans (g1.trans g2), hxw, hyw, Zk _ _ _, us, (hU.grow g2).mono (by simp)⟩
 have x1 := Zf hxw 1 _ rfl;clear hU hxw hyw hx hy gW g1 g2 hb;have hmi : (d.late.length : Int) ≤ 60 := by omega
 go_wp2_with fail;clear x1 hmi;generalize w1.heap.size = g at *;generalize World.alloc w1 _ = W at *;have a1 := Zzn;go_loopw [20] (fun i wr => ∃ k : Nat, k ≤ d.late.length ∧ i = .int .i64 k ∧ Jk d w #[.slice ab d.blocks.length cb, .slice al d.late.length cl] (.slice (some ⟨q, 0, none⟩) d.blocks.length cap) g (Qp bt) k wr) (fun i _ => d.late.length - (intOf i).toNat)
 case atStart => exact ⟨0, Nat.zero_le _, rfl, hstart⟩
 case round =>
  clear hstart;obtain ⟨k, hk, rfl, hL⟩ := hrel;by_cases hlt : k < d.late.length
  ·obtain ⟨b, off, hvl, hc0, u, hc1, hu⟩ := (hl.grow hL.1).at k hlt;cases hvl;have hpk := hp d.late[k] (List.getElem_mem _);have hx16 := hl16 d.late[k] (List.getElem_mem _);obtain ⟨m, hm0⟩ := Int.eq_ofNat_of_zero_le hpk.1;have hmn : m < d.blocks.length := by have := hpk.2; omega
   rw [hm0] at hc0;obtain ⟨au, cu, rfl, -, -⟩ := Yz hu;have hll := hL.grow (Zd wr (.cells #[.int .i64 (m : Int), .slice au (d.late[k].2).length cu] 118));have hSB := Zwk bt k (by omega);have hk64 : (k : Int) ≤ 64 := by omega
   by_cases hon : Qp bt k = true
   ·obtain ⟨us1, hU1⟩ := hll.2.2.2.2;have hkl : (d.keepTo (Qp bt) k).length = d.blocks.length := d.keepTo_length _ _;have hrow1 := hU1.row;rw [hkl] at hrow1;have hu1 := Z2 hu (Zd wr (.cells #[.int .i64 (m : Int), .slice au (d.late[k].2).length cu] 118));have hfin := fun (l : List UInt8) (e : d.late[k].2 = l) v' w' => Jk.land (v' := v') (w' := w') hll hon hlt hm0 e hU1
    have y0 := Zf hll.2.2.2.1 0 _ rfl;have y1 := Zf hll.2.2.2.1 1 _ rfl;replace hfin := hfin _ rfl;rw [hon] at hSB;have hbit : (bt / 2 ^ k % 2 == 1) = true := hSB.symm;clear hm0 hU1 hL hu hkl hpk hll hSB hon;generalize d.late[k].2 = data at *;go_wp2_with fail;refine (Zlh q (w.heap.size + 1 + 1) d.blocks.length cap m us1 _ _ _ _ data _ _ rfl hmn hrow1 hu1 hx16).mono ?_;rintro e w2 ⟨rfl, v', hbut, hQ⟩;have hend := hfin v' w2 hbut hQ;clear hfin hbut hQ hrow1 hu1 y0 y1;go_wp2_with fail;go_roundw
    case rel => exact ⟨k + 1, by omega, by simp, hend⟩
    case measure => simp [intOf]; omega
   ·have hoff : Qp bt k = false := by simpa using hon
    have hend := hll.skip hoff;rw [hoff] at hSB;have hbit : (bt / 2 ^ k % 2 == 1) = false := hSB.symm;clear hm0 hL hu hpk hll hSB hon hoff;generalize d.late[k].2 = data at *;go_wp2_with fail;go_roundw
    case rel => exact ⟨k + 1, by omega, by simp, hend⟩
    case measure => simp [intOf]; omega
  ·have hk' : k = d.late.length := by omega
   subst hk';obtain ⟨gL, -, hLr, hLg, us1, hU1⟩ := hL;obtain ⟨y0, y1⟩ := X5 hLg rfl rfl;obtain ⟨z0, z1⟩ := X5 hLr rfl rfl;have f0 := Zn hLr 0;have f1 := Zn hLr 1;have cs := Zv;obtain ⟨hp1, hp2⟩ := X4 hLr (.slice (some ⟨q, 0, none⟩) d.blocks.length cap) (.slice none 0 0);have hstep : Y1 27 wr _ := .inr ⟨_, _, _, hp2, hLr, hp1, rfl⟩;have gE := hp2.grow gL (by omega);have hE := (hU1.box hstep).mono (B' := w.heap.size) (by omega);clear hp1 hp2 hstep hU1 hLg hLr gL hl;go_wp2_with fail;exact bodyPost_ret (v := .agg #[.slice (some ⟨q, 0, none⟩) d.blocks.length cap, .slice none 0 0]) (by simp [results, Tryz.results34, go_sem, z0, z1, cs]) rfl ⟨_, rfl, ⟨_, _, rfl, ⟨us1, hE⟩, Qd.nil _ _⟩, gE⟩
end Go.Proofs.YtgaecpdokgklpadGreatDoor
