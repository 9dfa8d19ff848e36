import Derived.Test.YtpdnapbchcdhladGreatDoorIdxD
set_option maxHeartbeats 8000000
namespace Go.Proofs.YtpdnapbchcdhladGreatDoor
set_option maxRecDepth 100000
open Go.RowKit
open Plain Reg
variable {S : Nat → Prop} {bs : List Bool} {g k : Nat} {l : List Ent} {w w2 : World} {x : Ent}
def Z0r : Ent := ⟨⟨0, 0, 0, []⟩, 0⟩
theorem Zsv (S : Nat → Prop) (w : World) : Ztn S none (.tuple #[.agg #[.int .i64 0, .int .i64 0, .int .i64 0, .slice none 0 0, .int .i64 0], .bool false]) w := ⟨Z0r, none, 0, rfl, fun y h => by cases h⟩
theorem Zsu {a : Option Addr} {c : Nat} (h : Z0 S w (.slice a x.rc.data.length c) x.rc.data) : Ztn S (some x) (.tuple #[.agg #[.int .i64 x.rc.kind, .int .i64 x.rc.key, .int .i64 x.rc.ver, .slice a x.rc.data.length c, .int .i64 x.pair], .bool true]) w := ⟨x, a, c, rfl, fun y e => by cases e; exact ⟨rfl, h⟩⟩
abbrev Za4 : Obj := .cells #[.int .i64 0, .int .i64 0, .int .i64 0, .slice none 0 0, .int .i64 0] 66 (0, 0)
theorem Zz9 {S : Nat → Prop} {a2 : Option Addr} {c2 : Nat} (HO : w2.ownsRow (w.heap.size + 1) 5 1 (.slice a2 x.rc.data.length c2) x.rc.data.length (x.rc.data.map bv)) (gw2 : Zj w w2) (u0 u1 u2 u3 u4 : Value) :
  Ztn (Z7 S w.heap.size) (some x) (.tuple #[.agg #[.int .i64 x.rc.kind, .int .i64 x.rc.key, .int .i64 x.rc.ver, .slice a2 x.rc.data.length c2, .int .i64 x.pair], .bool true]) (((((w2.setCell ⟨w.heap.size, 0, none⟩ u0).setCell ⟨w.heap.size, 1, none⟩ u1).setCell ⟨w.heap.size, 2, none⟩ u2).setCell ⟨w.heap.size, 3, none⟩ u3).setCell ⟨w.heap.size, 4, none⟩ u4) ∧ Zj w (((((w2.setCell ⟨w.heap.size, 0, none⟩ u0).setCell ⟨w.heap.size, 1, none⟩ u1).setCell ⟨w.heap.size, 2, none⟩ u2).setCell ⟨w.heap.size, 3, none⟩ u3).setCell ⟨w.heap.size, 4, none⟩ u4) := by
 have hb : ∀ o, (⟨w.heap.size, o, none⟩ : Addr).block < w.heap.size + 1 := fun _ => Nat.lt_succ_self _
 have hge : ∀ o, w.heap.size ≤ (⟨w.heap.size, o, none⟩ : Addr).block := fun _ => Nat.le_refl _
 exact ⟨Zsu (Zf8 S (Yh (Xq (Xq (Xq (Xq (Xq HO (hb 0) u0) (hb 1) u1) (hb 2) u2) (hb 3) u3) (hb 4) u4) (Nat.le_succ _))), Ya (Ya (Ya (Ya (Ya gw2 (hge 0) u0) (hge 1) u1) (hge 2) u2) (hge 3) u3) (hge 4) u4⟩
theorem Z0v (gw2 : Zj w w2) (u0 u1 u2 u3 u4 : Value) : Zj w (((((w2.setCell ⟨w.heap.size, 0, none⟩ u0).setCell ⟨w.heap.size, 1, none⟩ u1).setCell ⟨w.heap.size, 2, none⟩ u2).setCell ⟨w.heap.size, 3, none⟩ u3).setCell ⟨w.heap.size, 4, none⟩ u4) := by
 have hge : ∀ o, w.heap.size ≤ (⟨w.heap.size, o, none⟩ : Addr).block := fun _ => Nat.le_refl _
 exact Ya (Ya (Ya (Ya (Ya gw2 (hge 0) u0) (hge 1) u1) (hge 2) u2) (hge 3) u3) (hge 4) u4
theorem Zrj (S : Nat → Prop) (l : List Ent) (key ver : Int) (v : Value) (w : World) (hl : Yn S w v l) (hn : l.length ≤ 1000000) (h8 : ∀ x ∈ l, x.rc.data.length ≤ 8) :
  Calls Tryz.prog 101 #[v, .int .i64 key, .int .i64 ver] w fun r w' => ∃ v', r = .returned v' ∧ Ztn (Z7 S w.heap.size) (Zar l key ver) v' w' ∧ Zj w w' := by
 obtain ⟨ao, cp, rfl⟩ := hl.form;have g0 := Zd w Za4;have hz0 := Zk w #[.int .i64 0, .int .i64 0, .int .i64 0, .slice none 0 0, .int .i64 0] 66;obtain ⟨Q, hQ⟩ : ∃ Q, Q = Zar l key ver := ⟨_, rfl⟩;rw [← hQ];have HQ0 : Hid _ := hQ;clear hQ;go_enter Tryz.func101, Tryz.ntmps101;go_wp2_with fail;generalize World.alloc w _ = W at *;go_loopw [12] (fun i wr => ∃ k : Nat, k ≤ l.length ∧ i = .int .i64 k ∧ (∀ x ∈ l.take k, ¬ (x.rc.key = key ∧ x.rc.ver = ver)) ∧ Zj w wr ∧ wr.heap[w.heap.size]? = some Za4) (fun i _ => l.length - (intOf i).toNat)
 case atStart => exact ⟨0, Nat.zero_le _, rfl, fun x hx => by simp at hx, g0, hz0⟩
 case round =>
  clear g0 hz0;obtain ⟨k, hk, rfl, hno, hg, hz⟩ := hrel;by_cases hlt : k < l.length
  ·obtain ⟨b, off, a1, c1, hv1, q0, q1, q2, q3, q4, hu⟩ := Zb3 (hl.grow hg) k hlt;cases hv1;have HM : Hid (l[k].rc.data.length ≤ 8) := h8 _ (List.getElem_mem hlt);have HH : Hid (l[k].rc.key = key ∧ l[k].rc.ver = ver → Q = some l[k]) := fun h => by rw [HQ0.out]; exact Zso hlt hno h
   have HD : Hid (¬ (l[k].rc.key = key ∧ l[k].rc.ver = ver) → ∀ x ∈ l.take (k + 1), ¬ (x.rc.key = key ∧ x.rc.ver = ver)) := fun h x hx => (Zcd hlt hx).elim (fun h2 => hno x h2) (fun e => by rw [e]; exact h)
   generalize l[k] = x at *;have g1 := Zd wr (.cells #[.int .i64 x.rc.kind, .int .i64 x.rc.key, .int .i64 x.rc.ver, .slice a1 x.rc.data.length c1, .int .i64 x.pair] 66);have hX1 := Zk wr #[.int .i64 x.rc.kind, .int .i64 x.rc.key, .int .i64 x.rc.ver, .slice a1 x.rc.data.length c1, .int .i64 x.pair] 66;have gw1 := hg.trans g1;have hz1 := (g1.block _ (Za hz)).trans hz;have hu1 := hu.grow g1;obtain ⟨x0, x1, x2, x3, x4⟩ := Vv hX1 rfl rfl rfl rfl rfl;have HSZ : Hid (w.heap.size + 1 ≤ wr.heap.size + 1) := Nat.succ_le_succ (hg.size);clear hno g1 hX1 hz hg hu;by_cases hkk : x.rc.key = key
   ·have d0 : (x.rc.key == key) = true := by simp [hkk]
    by_cases hvv : x.rc.ver = ver
    ·have HQ : Hid (Q = some x) := HH.out ⟨hkk, hvv⟩;have d1 : (x.rc.ver == ver) = true := by simp [hvv]
     clear hkk hvv HH HD;go_wp2_with fail;refine (Zgr x a1 c1 _ (by have := HM.out; omega) hu1.p).mono ?_;rintro r w2 ⟨v2, rfl, ⟨a2, c2, rfl, ho2⟩, g2⟩;have hz2 := (g2.block _ (Za hz1)).trans hz1;have gw2 := gw1.trans g2;have HO : Hid (w2.ownsRow (w.heap.size + 1) 5 1 (.slice a2 x.rc.data.length c2) x.rc.data.length (x.rc.data.map bv)) := Yh ho2 (by rw [World.size_alloc]; exact HSZ.out);clear q0 q1 q2 q3 q4 x0 x1 x2 x3 x4 hu1 ho2 g2 hz1 gw1;obtain ⟨z0, z1, z2, z3, z4⟩ := Vv hz2 rfl rfl rfl rfl rfl;obtain ⟨f0, f1, f2, f3⟩ := Yp hz2;have f4 := Zt hz2 4;have cs := Zu;have hE := Zz9 (S := S) HO.out gw2 (.int .i64 x.rc.kind) (.int .i64 x.rc.key) (.int .i64 x.rc.ver) (.slice a2 x.rc.data.length c2) (.int .i64 x.pair);rw [← HQ.out] at hE;have HE : Hid _ := hE;clear hE gw2 HO;clear hz2;go_wp2_with fail;exact bodyPost_ret (v := .tuple #[.agg #[.int .i64 x.rc.kind, .int .i64 x.rc.key, .int .i64 x.rc.ver, .slice a2 x.rc.data.length c2, .int .i64 x.pair], .bool true]) (by simp [results, Tryz.results101, go_sem, cs, z0, z1, z2, z3, z4]) rfl ⟨_, rfl, HE.out.1, HE.out.2⟩
    ·have HD2 := HD.out (fun h => hvv h.2);have d1 : (x.rc.ver == ver) = false := by simp [hvv]
     have HDD : Hid _ := HD2;clear hkk hvv HH HD HD2 hu1;go_wp2_with fail;go_roundw
     case rel => exact ⟨k + 1, by omega, by go_num, HDD.out, gw1, hz1⟩
     case measure => simp [intOf]; omega
   ·have HD2 := HD.out (fun h => hkk h.1);have d0 : (x.rc.key == key) = false := by simp [hkk]
    have HDD : Hid _ := HD2;clear hkk HH HD HD2 hu1;go_wp2_with fail;go_roundw
    case rel => exact ⟨k + 1, by omega, by go_num, HDD.out, gw1, hz1⟩
    case measure => simp [intOf]; omega
  ·have HQ : Hid (Q = none) := by
    show Q = _;rw [HQ0.out];rw [List.take_of_length_le (by omega)] at hno;exact Zsn hno
   have hz2 := hz;obtain ⟨z0, z1, z2, z3, z4⟩ := Vv hz2 rfl rfl rfl rfl rfl;obtain ⟨f0, f1, f2, f3⟩ := Yp hz2;have f4 := Zt hz2 4;have cs := Zu;have HE : Hid _ := Z0v hg (.int .i64 0) (.int .i64 0) (.int .i64 0) (.slice none 0 0) (.int .i64 0);have HN : Hid (Ztn (Z7 S w.heap.size) Q (.tuple #[.agg #[.int .i64 0, .int .i64 0, .int .i64 0, .slice none 0 0, .int .i64 0], .bool false]) (((((wr.setCell ⟨w.heap.size, 0, none⟩ (.int .i64 0)).setCell ⟨w.heap.size, 1, none⟩ (.int .i64 0)).setCell ⟨w.heap.size, 2, none⟩ (.int .i64 0)).setCell ⟨w.heap.size, 3, none⟩ (.slice none 0 0)).setCell ⟨w.heap.size, 4, none⟩ (.int .i64 0))) := by rw [HQ.out]; exact Zsv _ _
   clear hz2 hz hno hg;go_wp2_with fail;exact bodyPost_ret (v := .tuple #[.agg #[.int .i64 0, .int .i64 0, .int .i64 0, .slice none 0 0, .int .i64 0], .bool false]) (by simp [results, Tryz.results101, go_sem, cs, z0, z1, z2, z3, z4]) rfl ⟨_, rfl, HN.out, HE.out⟩
theorem Zsi : (Tryz.prog.info? 4).map (fun i => (i.zero, i.size, i.bytes)) = some (some (.bool false), 1, 1) := by kernel_rfl
theorem Zr2 (w : World) (n : Nat) (hn : n ≤ 1000000) : (Instr.makeSlice 201 (.int .i64 (n : Int)) (.int .i64 (n : Int))).run Tryz.prog w = .ok (.slice (some ⟨w.heap.size, 0, none⟩) n n) (w.alloc (.cells (Array.replicate n (.bool false)) 4)) := by
 obtain ⟨i0, hif, hz0, hz1, hz2⟩ := info_parts Zsi;have h := run_make (P := Tryz.prog) w 201 4 i0 (.bool false) Tryz.underlying201 hif hz0 .i64 .i64 n n (by omega) (by omega) (by rw [hz2]; omega) (by omega);rw [h, hz1];have e : madeCells (Value.bool false).cells ((n : Int).toNat * 1) = Array.replicate n (Value.bool false) := by
  have h2 := toList_madeCells_one (.bool false) n;rw [Int.toNat_natCast, Nat.mul_one, ← List.toArray_replicate, ← h2];rfl
 rw [e, Int.toNat_natCast]
def Zah (g : Nat) (bs : List Bool) (w : World) : Prop := w.heap[g]? = some (.cells (bs.map Value.bool).toArray 4 (0, 0))
theorem Zah.cell (h : Zah g bs w) (i : Nat) (hi : i < bs.length) : w.cell? ⟨g, i, none⟩ = some (.bool bs[i]) := Ze h i _ (by simp [hi])
theorem Zah.set (h : Zah g bs w) (i : Nat) (b : Bool) : Zah g (bs.set i b) (w.setCell ⟨g, i, none⟩ (.bool b)) := by
 have := heap_set h i (.bool b);unfold Zah;rw [this];simp [List.map_set]
theorem Zah.grow {w' : World} (h : Zah g bs w) (hg : Zj w w') : Zah g bs w' := (hg.block _ (Za h)).trans h
def Z0j (bs : List Bool) (r : Int) : Prop := (∃ k : Nat, k < bs.length ∧ r = (k : Int) ∧ bs[k]? = some false ∧ ∀ j, j < k → bs[j]? = some true) ∨ (r = -1 ∧ ∀ j, j < bs.length → bs[j]? = some true)
theorem Zot (bs : List Bool) (g cap : Nat) (w : World) (hn : bs.length ≤ 1000000) (hr : Zah g bs w) :
  Calls Tryz.prog 143 #[.slice (some ⟨g, 0, none⟩) bs.length cap, .bool false] w fun e w' => ∃ r, e = .returned (.int .i64 r) ∧ Z0j bs r ∧ Zj w w' := by
 go_enter Tryz.func143, Tryz.ntmps143;go_wp2_with fail;go_loopw [8] (fun i wr => ∃ k : Nat, k ≤ bs.length ∧ i = .int .i64 k ∧ (∀ j, j < k → bs[j]? = some true) ∧ Zj w wr) (fun i _ => bs.length - (intOf i).toNat)
 case atStart => exact ⟨0, Nat.zero_le _, rfl, fun j hj => by omega, Zj.refl _⟩
 case round =>
  obtain ⟨k, hk, rfl, hall, hg⟩ := hrel;have HA : Hid (∀ j, j < k → bs[j]? = some true) := hall;clear hall;by_cases hlt : k < bs.length
  ·have q0 := (hr.grow hg).cell k hlt;have HB : Hid (bs[k]? = some bs[k]) := List.getElem?_eq_getElem hlt;generalize bs[k] = x at *;cases x with
   | false =>
    go_wp2_with fail;go_ret;exact ⟨_, rfl, .inl ⟨k, hlt, rfl, HB.out, HA.out⟩, hg⟩
   | true =>
    go_wp2_with fail;go_roundw
    case rel =>
     refine ⟨k + 1, by omega, by go_num, fun j hj => ?_, hg⟩;rcases Nat.lt_succ_iff_lt_or_eq.1 hj with h | rfl
     ·exact HA.out j h
     ·exact HB.out
    case measure => simp [intOf]; omega
  ·go_wp2_with fail;go_ret;exact ⟨_, rfl, .inr ⟨rfl, fun j hj => HA.out j (by omega)⟩, hg⟩
def Zaz (l : List Ent) (k : Nat) (bs : List Bool) : Prop := bs.length = l.length ∧ ∀ (j : Nat) (b : Bool), bs[j]? = some b → (b = true ↔ ∃ x ∈ l.take k, x.pair = (j : Int))
theorem Zku (l : List Ent) : Zaz l 0 (List.replicate l.length false) := by
 refine ⟨by simp, fun j b h => ?_⟩;have : b = false := by
  obtain ⟨h1, rfl⟩ := List.getElem?_eq_some_iff.1 h;simp
 subst this;simp
theorem Zkw (hk : k < l.length) (j : Int) : (∃ x ∈ l.take (k + 1), x.pair = j) ↔ (∃ x ∈ l.take k, x.pair = j) ∨ l[k].pair = j := by
 constructor
 ·rintro ⟨x, hx, hj⟩;rcases Zcd hk hx with h | rfl
  ·exact .inl ⟨x, h, hj⟩
  ·exact .inr hj
 ·rintro (⟨x, hx, hj⟩ | h)
  ·exact ⟨x, by rw [List.take_succ_eq_append_getElem hk]; exact List.mem_append_left _ hx, hj⟩
  ·exact ⟨l[k], by rw [List.take_succ_eq_append_getElem hk]; exact List.mem_append_right _ (List.mem_singleton.2 rfl), h⟩
theorem Znr (h : Zaz l k bs) (hk : k < l.length) {p : Nat} (hp : l[k].pair = (p : Int)) (hge : l.length ≤ p) : Zaz l (k + 1) bs := by
 refine ⟨h.1, fun j b hj => ?_⟩;have hlt : j < l.length := by rw [← h.1]; exact (List.getElem?_eq_some_iff.1 hj).1
 rw [h.2 j b hj, Zkw hk, hp];constructor
 ·exact .inl
 ·rintro (h | h)
  ·exact h
  ·omega
theorem Zqv (h : Zaz l k bs) (hk : k < l.length) {p : Nat} (hp : l[k].pair = (p : Int)) : Zaz l (k + 1) (bs.set p true) := by
 refine ⟨by rw [List.length_set]; exact h.1, fun j b hj => ?_⟩;rw [Zkw hk, hp];by_cases e : p = j
 ·subst e;rw [List.getElem?_set_self (by have := (List.getElem?_eq_some_iff.1 hj).1; simpa using this)] at hj;cases hj;simp
 ·rw [List.getElem?_set_ne e] at hj;rw [h.2 j b hj];constructor
  ·exact .inl
  ·rintro (h | h)
   ·exact h
   ·omega
theorem Zkv (h : Zaz l l.length bs) (hf : bs[k]? = some false) (hall : ∀ j, j < k → bs[j]? = some true) : Zag l k := by
 have ht : l.take l.length = l := List.take_length;refine ⟨fun n hn => ?_, fun x hx hp => ?_⟩
 ·have := (h.2 n true (hall n hn)).1 rfl;rw [ht] at this; exact this
 ·have := (h.2 k false hf).2 ⟨x, by rw [ht]; exact hx, hp⟩;cases this
theorem Zns (h : Zaz l l.length bs) (hall : ∀ j, j < bs.length → bs[j]? = some true) : Zag l l.length := by
 refine Zvx (fun n hn => ?_) (.inl rfl);have := (h.2 n true (hall n (by rw [h.1]; exact hn))).1 rfl;rw [List.take_length] at this; exact this
theorem Zri (S : Nat → Prop) (l : List Ent) (pairs : Int) (v : Value) (w : World) (hl : Yn S w v l) (hn : l.length ≤ 1000000) (hp0 : ∀ x ∈ l, 0 ≤ x.pair) :
  Calls Tryz.prog 103 #[v, .int .i64 pairs] w fun r w' => ∃ n, r = .returned (.int .i64 n) ∧ Zpk l pairs n ∧ Zj w w' := by
 obtain ⟨ao, cp, rfl⟩ := hl.form;have mk := fun w => Zr2 w l.length hn
 have g0 := Zd w (.cells (Array.replicate l.length (.bool false)) 4);have hB0 : Zah w.heap.size (List.replicate l.length false) (w.alloc (.cells (Array.replicate l.length (.bool false)) 4)) := by
  have h := Zk w (Array.replicate l.length (.bool false)) 4;unfold Zah;rw [h];simp
 go_enter Tryz.func103, Tryz.ntmps103;go_wp2_with fail;clear mk;generalize World.alloc w _ = W at *;go_loopw [14] (fun i wr => ∃ (k : Nat) (bs : List Bool), k ≤ l.length ∧ i = .int .i64 k ∧ Zaz l k bs ∧ Zah w.heap.size bs wr ∧ Zj w wr) (fun i _ => l.length - (intOf i).toNat)
 case atStart => exact ⟨0, _, Nat.zero_le _, rfl, Zku l, hB0, g0⟩
 case round =>
  clear g0 hB0;obtain ⟨k, bs, hk, rfl, hT, hB, hg⟩ := hrel;have HT : Hid (Zaz l k bs) := hT;clear hT;by_cases hlt : k < l.length
  ·obtain ⟨b, off, a1, c1, hv1, q0, q1, q2, q3, q4, hu⟩ := Zb3 (hl.grow hg) k hlt;cases hv1;obtain ⟨p, hp⟩ : ∃ p : Nat, l[k].pair = (p : Int) := ⟨l[k].pair.toNat, by have := hp0 _ (List.getElem_mem hlt); omega⟩;have HP : Hid (l[k].pair = (p : Int)) := hp;rw [hp] at q4;have g1 := Zd wr (.cells #[.int .i64 l[k].rc.kind, .int .i64 l[k].rc.key, .int .i64 l[k].rc.ver, .slice a1 l[k].rc.data.length c1, .int .i64 (p : Int)] 66);have hX1 := Zk wr #[.int .i64 l[k].rc.kind, .int .i64 l[k].rc.key, .int .i64 l[k].rc.ver, .slice a1 l[k].rc.data.length c1, .int .i64 (p : Int)] 66;have x4 := Ze hX1 4 _ rfl;have hB1 := hB.grow g1;have gw1 := hg.trans g1;have d0 : (0 : Int) ≤ (p : Int) := by omega
   clear hX1 hB hg g1 hu hp;by_cases hpn : p < l.length
   ·have HS : Hid (Zaz l (k + 1) (bs.set p true)) := Zqv HT.out hlt HP.out;have hpb : p < bs.length := by rw [HT.out.1]; exact hpn
    have y0 := hB1.cell p hpb;have f0 := Zt hB1 p;have cs := Zu;have HB2 : Hid _ := hB1.set p true;have HG : Hid _ := Ya gw1 (a := ⟨w.heap.size, p, none⟩) (Nat.le_refl _) (.bool true);have d1 : (p : Int) < (l.length : Int) := by omega
    generalize bs[p] = y at *;clear HT HP hB1 gw1 hpb;go_wp2_with fail;go_roundw
    case rel => exact ⟨k + 1, _, by omega, by go_num, HS.out, HB2.out, HG.out⟩
    case measure => simp [intOf]; omega
   ·have HS : Hid (Zaz l (k + 1) bs) := Znr HT.out hlt HP.out (by omega);have d1 : ¬ ((p : Int) < (l.length : Int)) := by omega
    clear HT HP;go_wp2_with fail;go_roundw
    case rel => exact ⟨k + 1, _, by omega, by go_num, HS.out, hB1, gw1⟩
    case measure => simp [intOf]; omega
  ·have HT2 : Hid (Zaz l l.length bs) := by
    have h := HT.out;rw [show k = l.length from by omega] at h;exact h
   have HLN : Hid (bs.length = l.length) := HT.out.1;have hbn : bs.length ≤ 1000000 := by rw [HT.out.1]; exact hn
   clear HT;go_wp2_with fail;have hix := Zot bs w.heap.size l.length wr hbn hB;rw [HLN.out] at hix;refine hix.mono ?_;rintro r w2 ⟨R, rfl, hF, g2⟩;have gE := hg.trans g2;clear hix g2 hg hB;rcases hF with ⟨F, hF1, rfl, hF2, hF3⟩ | ⟨rfl, hF3⟩
   ·have HL : Hid (Zag l F) := Zkv HT2.out hF2 hF3;have d0 : ¬ ((F : Int) < 0) := by omega
    clear HT2 hF1 hF2 hF3;by_cases hge : pairs ≤ (F : Int)
    ·have d1 : (F : Int) ≥ pairs := hge;go_wp2_with fail;go_ret;exact ⟨-1, rfl, ⟨F, HL.out, .inr ⟨hge, rfl⟩⟩, gE⟩
    ·have d1 : ¬ ((F : Int) ≥ pairs) := hge;go_wp2_with fail;go_ret;exact ⟨_, rfl, ⟨F, HL.out, .inl ⟨by omega, rfl⟩⟩, gE⟩
   ·obtain ⟨F, hF⟩ : ∃ F, F = l.length := ⟨_, rfl⟩;have HL : Hid (Zag l F) := by show Zag l F; rw [hF]; exact Zns HT2.out hF3
    rw [← hF];clear HT2 hF3 hF;by_cases hge : pairs ≤ (F : Int)
    ·have d1 : (F : Int) ≥ pairs := hge;go_wp2_with fail;go_ret;exact ⟨-1, rfl, ⟨F, HL.out, .inr ⟨hge, rfl⟩⟩, gE⟩
    ·have d1 : ¬ ((F : Int) ≥ pairs) := hge;go_wp2_with fail;go_ret;exact ⟨_, rfl, ⟨F, HL.out, .inl ⟨by omega, rfl⟩⟩, gE⟩
end Go.Proofs.YtpdnapbchcdhladGreatDoor
