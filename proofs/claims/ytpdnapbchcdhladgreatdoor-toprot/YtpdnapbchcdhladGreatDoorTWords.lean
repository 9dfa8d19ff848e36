import Derived.Test.YtpdnapbchcdhladGreatDoorTPrint
set_option maxHeartbeats 8000000
namespace Go.Proofs.YtpdnapbchcdhladGreatDoor
set_option maxRecDepth 100000
open Go.RowKit
open Plain Reg
theorem Ji {w w2 : World} {g : Nat} {x0 x1 x2 : Int} {a : Option Addr} {n c : Nat} {T : TypeId} {v : Value} {l : List UInt8} (h : Bytes w v l) (hg : w.heap[g]? = some (.cells #[.int .i64 x0, .int .i64 x1, .int .i64 x2, .slice a n c] T (0, 0))) (hb : Zo g w w2) : Bytes w2 v l := by
 rcases h with h | ⟨b, off, cap, rfl, h1, hc⟩
 ·exact .inl h
 ·refine .inr ⟨b, off, cap, rfl, h1, fun i hi => ?_⟩;have h2 := hc i hi;by_cases e : b = g
  ·exfalso;subst e;rw [cell_of_row w b (off + i) _ T (0, 0) hg] at h2
   match hj : off + i, h2 with
   | 0, h2 => simp at h2
   | 1, h2 => simp at h2
   | 2, h2 => simp at h2
   | 3, h2 => simp at h2
   | j + 4, h2 => simp at h2
  ·exact (hb.cell (Zr h2) e).trans h2
theorem Vh (w : World) : Bytes w (.slice none 0 0) [] := .inl ⟨none, 0, rfl, rfl, fun _ => rfl⟩
def Q3 (K : Int) : List (List UInt8) → Option Dd
 | [a] => if K = 2 then (match Vw a with | some k => some ⟨2, k, 0, []⟩ | none => none) else none
 | [a, b] => if K = 1 then (match Vw a, Kp b with | some k, some l => some ⟨1, k, 0, l⟩ | _, _ => none) else if K = 3 then (match Vw a, Vw b with | some k, some n => some ⟨3, k, n, []⟩ | _, _ => none) else none
 | _ => none
def Zm1 (o : Option Dd) (v : Value) (w : World) : Prop := match o with
 | some d => ∃ a c, v = .tuple #[.agg #[.int .i64 d.kind, .int .i64 d.key, .int .i64 d.num, .slice a d.data.length c], .bool true] ∧ Bytes w (.slice a d.data.length c) d.data
 | none => ∃ x0 x1 x2 : Int, v = .tuple #[.agg #[.int .i64 x0, .int .i64 x1, .int .i64 x2, .slice none 0 0], .bool false]
theorem Zjh (w : World) (K : Int) : ((w.alloc (.cells #[.int .i64 0, .int .i64 0, .int .i64 0, .slice none 0 0] 40)).alloc (.cells #[.int .i64 K, .int .i64 0, .int .i64 0, .slice none 0 0] 40)).heap[w.heap.size]? = some (.cells #[.int .i64 0, .int .i64 0, .int .i64 0, .slice none 0 0] 40 (0, 0)) := ((Zd _ _).block _ (by simp)).trans (Zk w _ _)
theorem Zji (w : World) (K : Int) : ((w.alloc (.cells #[.int .i64 0, .int .i64 0, .int .i64 0, .slice none 0 0] 40)).alloc (.cells #[.int .i64 K, .int .i64 0, .int .i64 0, .slice none 0 0] 40)).heap[w.heap.size + 1]? = some (.cells #[.int .i64 K, .int .i64 0, .int .i64 0, .slice none 0 0] 40 (0, 0)) := by
 have h := Zk (w.alloc (.cells #[.int .i64 0, .int .i64 0, .int .i64 0, .slice none 0 0] 40)) #[.int .i64 K, .int .i64 0, .int .i64 0, .slice none 0 0] 40;simpa using h
theorem Zbp (V : World → Prop) (hV : ∀ w w', V w → Zj w w' → V w') (IT : Zd6 V) (AT : Zd8 V) (s : List UInt8) (w : World) (hw : V w) (hs : s.length ≤ 140737488355328) (n : Int) (hn : Vw s = some n) :
  Calls Tryz.prog 56 #[.string ⟨s.toArray⟩] w fun r w' => r = .returned (.tuple #[.int .i64 n, .bool true]) ∧ Zj w w' := by
 have h := Zkt V hV IT AT s w hw hs;rw [hn] at h; exact h
theorem Zbq (V : World → Prop) (hV : ∀ w w', V w → Zj w w' → V w') (IT : Zd6 V) (AT : Zd8 V) (s : List UInt8) (w : World) (hw : V w) (hs : s.length ≤ 140737488355328) (hn : Vw s = none) :
  Calls Tryz.prog 56 #[.string ⟨s.toArray⟩] w fun r w' => r = .returned (.tuple #[.int .i64 0, .bool false]) ∧ Zj w w' := by
 have h := Zkt V hV IT AT s w hw hs;rw [hn] at h; exact h
theorem Zng (V : World → Prop) (hV : ∀ w w', V w → Zj w w' → V w') (IT : Zd6 V) (AT : Zd8 V) (a : List UInt8) (g o c : Nat) (w : World) (hw : V w) (ha : a.length ≤ 140737488355328) (hca : w.cell? ⟨g, o, none⟩ = some (.string ⟨a.toArray⟩)) :
  Calls Tryz.prog 33 #[.int .i64 2, .slice (some ⟨g, o, none⟩) 1 c] w fun r w' => ∃ v, r = .returned v ∧ Zm1 (Q3 2 [a]) v w' ∧ Zj w w' := by
 obtain ⟨O, hO⟩ : ∃ O, O = Q3 2 [a] := ⟨_, rfl⟩;rw [← hO];have HO : Hid _ := hO;clear hO;have g0 := Zx w (.cells #[.int .i64 0, .int .i64 0, .int .i64 0, .slice none 0 0] 40) (.cells #[.int .i64 2, .int .i64 0, .int .i64 0, .slice none 0 0] 40);have hZ0 := Zjh w 2;have hD0 := Zji w 2;have hca2 := (Below.cell g0 (Zr hca)).trans hca;clear hca;go_enter Tryz.func33, Tryz.ntmps33;go_wp2_with fail;cases hn : Vw a with
 | none =>
  obtain rfl : O = none := by rw [HO.out]; simp [Q3, hn]
  refine (Zbq V hV IT AT a _ (hV _ _ hw g0) ha hn).mono ?_;clear hn HO;rintro r w1 ⟨rfl, g1⟩;have hZ1 := (g1.block _ (Za hZ0)).trans hZ0;have hD1 := (g1.block _ (Za hD0)).trans hD0;have q1 := Ze hD1 1 _ rfl;have f1 := Zt hD1 1;have k2 := (Zo.refl (w.heap.size + 1) w1).set 1 none (.int .i64 0);have hZE := (k2.block _ (Za hZ1) (by omega)).trans hZ1;have gw2 := k2.grow (g0.trans g1) (by omega);obtain ⟨hp1, hp2⟩ := Yc hZE (.int .i64 0) (.int .i64 0) (.int .i64 0) (.slice none 0 0);have gE := hp2.grow gw2 (Nat.le_refl _);obtain ⟨z0, z1, z2, z3⟩ := Z4 hZE rfl rfl rfl rfl;obtain ⟨e0, e1, e2, e3⟩ := Yp hZE;have cs := Zu;obtain ⟨x0, x1, x2, x3⟩ := Z4 hp1 rfl rfl rfl rfl;clear hZ0 hD0 hZ1 hD1 k2 hZE gw2 hp1 hp2 g0 g1 hca2;go_wp2_with fail;exact bodyPost_ret (v := .tuple #[.agg #[.int .i64 0, .int .i64 0, .int .i64 0, .slice none 0 0], .bool false]) (by simp [results, Tryz.results33, go_sem, x0, x1, x2, x3]) rfl ⟨_, rfl, ⟨_, _, _, rfl⟩, gE⟩
 | some k =>
  obtain rfl : O = some ⟨2, k, 0, []⟩ := by rw [HO.out]; simp [Q3, hn]
  refine (Zbp V hV IT AT a _ (hV _ _ hw g0) ha k hn).mono ?_;clear hn HO;rintro r w1 ⟨rfl, g1⟩;have hZ1 := (g1.block _ (Za hZ0)).trans hZ0;have hD1 := (g1.block _ (Za hD0)).trans hD0;have q1 := Ze hD1 1 _ rfl;have f1 := Zt hD1 1;have k2 := (Zo.refl (w.heap.size + 1) w1).set 1 none (.int .i64 k);have hZE := (k2.block _ (Za hZ1) (by omega)).trans hZ1;have hDE := heap_set hD1 1 (.int .i64 k);have gw2 := k2.grow (g0.trans g1) (by omega);obtain ⟨hp1, hp2⟩ := Yc hZE (.int .i64 2) (.int .i64 k) (.int .i64 0) (.slice none 0 0);have gE := hp2.grow gw2 (Nat.le_refl _);obtain ⟨z0, z1, z2, z3⟩ := Z4 hZE rfl rfl rfl rfl;obtain ⟨e0, e1, e2, e3⟩ := Yp hZE;have cs := Zu;obtain ⟨x0, x1, x2, x3⟩ := Z4 hp1 rfl rfl rfl rfl;obtain ⟨y0, y1, y2, y3⟩ := Z4 hDE rfl rfl rfl rfl;clear hZ0 hD0 hZ1 hD1 k2 hZE hDE gw2 hp1 hp2 g0 g1 hca2;go_wp2_with fail;exact bodyPost_ret (v := .tuple #[.agg #[.int .i64 2, .int .i64 k, .int .i64 0, .slice none 0 0], .bool true]) (by simp [results, Tryz.results33, go_sem, x0, x1, x2, x3]) rfl ⟨_, rfl, ⟨none, 0, rfl, Vh _⟩, gE⟩
theorem Zjg (V : World → Prop) (hV : ∀ w w', V w → Zj w w' → V w') (IT : Zd6 V) (AT : Zd8 V) (a b : List UInt8) (g o c : Nat) (w : World) (hw : V w) (ha : a.length ≤ 140737488355328) (hb : b.length ≤ 140737488355328) (hca : w.cell? ⟨g, o, none⟩ = some (.string ⟨a.toArray⟩)) (hcb : w.cell? ⟨g, o + 1, none⟩ = some (.string ⟨b.toArray⟩)) :
  Calls Tryz.prog 33 #[.int .i64 3, .slice (some ⟨g, o, none⟩) 2 c] w fun r w' => ∃ v, r = .returned v ∧ Zm1 (Q3 3 [a, b]) v w' ∧ Zj w w' := by
 obtain ⟨O, hO⟩ : ∃ O, O = Q3 3 [a, b] := ⟨_, rfl⟩;rw [← hO];have HO : Hid _ := hO;clear hO;have g0 := Zx w (.cells #[.int .i64 0, .int .i64 0, .int .i64 0, .slice none 0 0] 40) (.cells #[.int .i64 3, .int .i64 0, .int .i64 0, .slice none 0 0] 40);have hZ0 := Zjh w 3;have hD0 := Zji w 3;have hca2 := (Below.cell g0 (Zr hca)).trans hca;clear hca;go_enter Tryz.func33, Tryz.ntmps33;go_wp2_with fail;cases hn : Vw a with
 | none =>
  obtain rfl : O = none := by rw [HO.out]; simp [Q3, hn]
  refine (Zbq V hV IT AT a _ (hV _ _ hw g0) ha hn).mono ?_;clear hn HO;rintro r w1 ⟨rfl, g1⟩;have hZ1 := (g1.block _ (Za hZ0)).trans hZ0;have hD1 := (g1.block _ (Za hD0)).trans hD0;have q1 := Ze hD1 1 _ rfl;have f1 := Zt hD1 1;have k2 := (Zo.refl (w.heap.size + 1) w1).set 1 none (.int .i64 0);have hZE := (k2.block _ (Za hZ1) (by omega)).trans hZ1;have gw2 := k2.grow (g0.trans g1) (by omega);obtain ⟨hp1, hp2⟩ := Yc hZE (.int .i64 0) (.int .i64 0) (.int .i64 0) (.slice none 0 0);have gE := hp2.grow gw2 (Nat.le_refl _);obtain ⟨z0, z1, z2, z3⟩ := Z4 hZE rfl rfl rfl rfl;obtain ⟨e0, e1, e2, e3⟩ := Yp hZE;have cs := Zu;obtain ⟨x0, x1, x2, x3⟩ := Z4 hp1 rfl rfl rfl rfl;clear hZ0 hD0 hZ1 hD1 k2 hZE gw2 hp1 hp2 g0 g1 hca2;go_wp2_with fail;exact bodyPost_ret (v := .tuple #[.agg #[.int .i64 0, .int .i64 0, .int .i64 0, .slice none 0 0], .bool false]) (by simp [results, Tryz.results33, go_sem, x0, x1, x2, x3]) rfl ⟨_, rfl, ⟨_, _, _, rfl⟩, gE⟩
 | some k =>
  refine (Zbp V hV IT AT a _ (hV _ _ hw g0) ha k hn).mono ?_;have HN : Hid _ := hn;clear hn;rintro r w1 ⟨rfl, g1⟩;have hZ1 := (g1.block _ (Za hZ0)).trans hZ0;have hD1 := (g1.block _ (Za hD0)).trans hD0;have q1 := Ze hD1 1 _ rfl;have f1 := Zt hD1 1;have k2 := (Zo.refl (w.heap.size + 1) w1).set 1 none (.int .i64 k);have hZ2 := (k2.block _ (Za hZ1) (by omega)).trans hZ1;have hD2 := heap_set hD1 1 (.int .i64 k);have gw2 := k2.grow (g0.trans g1) (by omega);have hcb2 := (Below.cell gw2 (Zr hcb)).trans hcb;clear hZ0 hD0 hZ1 hD1 k2 g0 g1 hca2 hcb;go_wp2_with fail;clear q1 f1 hcb2;generalize World.setCell w1 _ _ = w2 at *;cases hm : Vw b with
  | none =>
   obtain rfl : O = none := by rw [HO.out]; simp [Q3, HN.out, hm]
   refine (Zbq V hV IT AT b _ (hV _ _ hw gw2) hb hm).mono ?_;clear hm HO;rintro r w3 ⟨rfl, g3⟩;have hZ3 := (g3.block _ (Za hZ2)).trans hZ2;have hD3 := (g3.block _ (Za hD2)).trans hD2;have gw3 := gw2.trans g3;have q2 := Ze hD3 2 _ rfl;have f2 := Zt hD3 2;have k4 := (Zo.refl (w.heap.size + 1) w3).set 2 none (.int .i64 0);have hZE := (k4.block _ (Za hZ3) (by omega)).trans hZ3;have hDE := heap_set hD3 2 (.int .i64 0);obtain ⟨hp1, hp2⟩ := Yc hZE (.int .i64 3) (.int .i64 k) (.int .i64 0) (.slice none 0 0);have gE := hp2.grow (k4.grow gw3 (by omega)) (Nat.le_refl _);obtain ⟨z0, z1, z2, z3⟩ := Z4 hZE rfl rfl rfl rfl;obtain ⟨e0, e1, e2, e3⟩ := Yp hZE;have cs := Zu;obtain ⟨x0, x1, x2, x3⟩ := Z4 hp1 rfl rfl rfl rfl;obtain ⟨y0, y1, y2, y3⟩ := Z4 hDE rfl rfl rfl rfl;clear hZ2 hD2 hZ3 hD3 k4 hZE hDE gw2 gw3 hp1 hp2 g3;go_wp2_with fail;exact bodyPost_ret (v := .tuple #[.agg #[.int .i64 3, .int .i64 k, .int .i64 0, .slice none 0 0], .bool false]) (by simp [results, Tryz.results33, go_sem, x0, x1, x2, x3]) rfl ⟨_, rfl, ⟨_, _, _, rfl⟩, gE⟩
  | some n =>
   obtain rfl : O = some ⟨3, k, n, []⟩ := by rw [HO.out]; simp [Q3, HN.out, hm]
   refine (Zbp V hV IT AT b _ (hV _ _ hw gw2) hb n hm).mono ?_;clear hm HO;rintro r w3 ⟨rfl, g3⟩;have hZ3 := (g3.block _ (Za hZ2)).trans hZ2;have hD3 := (g3.block _ (Za hD2)).trans hD2;have gw3 := gw2.trans g3;have q2 := Ze hD3 2 _ rfl;have f2 := Zt hD3 2;have k4 := (Zo.refl (w.heap.size + 1) w3).set 2 none (.int .i64 n);have hZE := (k4.block _ (Za hZ3) (by omega)).trans hZ3;have hDE := heap_set hD3 2 (.int .i64 n);obtain ⟨hp1, hp2⟩ := Yc hZE (.int .i64 3) (.int .i64 k) (.int .i64 n) (.slice none 0 0);have gE := hp2.grow (k4.grow gw3 (by omega)) (Nat.le_refl _);obtain ⟨z0, z1, z2, z3⟩ := Z4 hZE rfl rfl rfl rfl;obtain ⟨e0, e1, e2, e3⟩ := Yp hZE;have cs := Zu;obtain ⟨x0, x1, x2, x3⟩ := Z4 hp1 rfl rfl rfl rfl;obtain ⟨y0, y1, y2, y3⟩ := Z4 hDE rfl rfl rfl rfl;clear hZ2 hD2 hZ3 hD3 k4 hZE hDE gw2 gw3 hp1 hp2 g3;go_wp2_with fail;exact bodyPost_ret (v := .tuple #[.agg #[.int .i64 3, .int .i64 k, .int .i64 n, .slice none 0 0], .bool true]) (by simp [results, Tryz.results33, go_sem, x0, x1, x2, x3]) rfl ⟨_, rfl, ⟨none, 0, rfl, Vh _⟩, gE⟩
theorem Znf (V : World → Prop) (hV : ∀ w w', V w → Zj w w' → V w') (IT : Zd6 V) (AT : Zd8 V) (IX : Zhd) (a b : List UInt8) (g o c : Nat) (w : World) (hw : V w) (ha : a.length ≤ 140737488355328) (hb : b.length ≤ 140737488355328) (hca : w.cell? ⟨g, o, none⟩ = some (.string ⟨a.toArray⟩)) (hcb : w.cell? ⟨g, o + 1, none⟩ = some (.string ⟨b.toArray⟩)) :
  Calls Tryz.prog 33 #[.int .i64 1, .slice (some ⟨g, o, none⟩) 2 c] w fun r w' => ∃ v, r = .returned v ∧ Zm1 (Q3 1 [a, b]) v w' ∧ Zj w w' := by
 obtain ⟨O, hO⟩ : ∃ O, O = Q3 1 [a, b] := ⟨_, rfl⟩;rw [← hO];have HO : Hid _ := hO;clear hO;have g0 := Zx w (.cells #[.int .i64 0, .int .i64 0, .int .i64 0, .slice none 0 0] 40) (.cells #[.int .i64 1, .int .i64 0, .int .i64 0, .slice none 0 0] 40);have hZ0 := Zjh w 1;have hD0 := Zji w 1;have hca2 := (Below.cell g0 (Zr hca)).trans hca;clear hca;go_enter Tryz.func33, Tryz.ntmps33;go_wp2_with fail;cases hn : Vw a with
 | none =>
  obtain rfl : O = none := by rw [HO.out]; simp [Q3, hn]
  refine (Zbq V hV IT AT a _ (hV _ _ hw g0) ha hn).mono ?_;clear hn HO;rintro r w1 ⟨rfl, g1⟩;have hZ1 := (g1.block _ (Za hZ0)).trans hZ0;have hD1 := (g1.block _ (Za hD0)).trans hD0;have q1 := Ze hD1 1 _ rfl;have f1 := Zt hD1 1;have k2 := (Zo.refl (w.heap.size + 1) w1).set 1 none (.int .i64 0);have hZE := (k2.block _ (Za hZ1) (by omega)).trans hZ1;have gw2 := k2.grow (g0.trans g1) (by omega);obtain ⟨hp1, hp2⟩ := Yc hZE (.int .i64 0) (.int .i64 0) (.int .i64 0) (.slice none 0 0);have gE := hp2.grow gw2 (Nat.le_refl _);obtain ⟨z0, z1, z2, z3⟩ := Z4 hZE rfl rfl rfl rfl;obtain ⟨e0, e1, e2, e3⟩ := Yp hZE;have cs := Zu;obtain ⟨x0, x1, x2, x3⟩ := Z4 hp1 rfl rfl rfl rfl;clear hZ0 hD0 hZ1 hD1 k2 hZE gw2 hp1 hp2 g0 g1 hca2;go_wp2_with fail;exact bodyPost_ret (v := .tuple #[.agg #[.int .i64 0, .int .i64 0, .int .i64 0, .slice none 0 0], .bool false]) (by simp [results, Tryz.results33, go_sem, x0, x1, x2, x3]) rfl ⟨_, rfl, ⟨_, _, _, rfl⟩, gE⟩
 | some k =>
  refine (Zbp V hV IT AT a _ (hV _ _ hw g0) ha k hn).mono ?_;have HN : Hid _ := hn;clear hn;rintro r w1 ⟨rfl, g1⟩;have hZ1 := (g1.block _ (Za hZ0)).trans hZ0;have hD1 := (g1.block _ (Za hD0)).trans hD0;have q1 := Ze hD1 1 _ rfl;have f1 := Zt hD1 1;have k2 := (Zo.refl (w.heap.size + 1) w1).set 1 none (.int .i64 k);have hZ2 := (k2.block _ (Za hZ1) (by omega)).trans hZ1;have hD2 := heap_set hD1 1 (.int .i64 k);have gw2 := k2.grow (g0.trans g1) (by omega);have hcb2 := (Below.cell gw2 (Zr hcb)).trans hcb;clear hZ0 hD0 hZ1 hD1 k2 g0 g1 hca2 hcb;go_wp2_with fail;clear q1 f1 hcb2;generalize World.setCell w1 _ _ = w2 at *;refine (Znj IX b _ hb).mono ?_;cases hm : Kp b with
  | none =>
   obtain rfl : O = none := by rw [HO.out]; simp [Q3, HN.out, hm]
   clear hm HO;rintro r w3 ⟨rfl, g3⟩;have hZ3 := (g3.block _ (Za hZ2)).trans hZ2;have hD3 := (g3.block _ (Za hD2)).trans hD2;have gw3 := gw2.trans g3;have q2 := Ze hD3 3 _ rfl;have f2 := Zt hD3 3;have k4 := (Zo.refl (w.heap.size + 1) w3).set 3 none (.slice none 0 0);have hZE := (k4.block _ (Za hZ3) (by omega)).trans hZ3;have hDE := heap_set hD3 3 (.slice none 0 0);obtain ⟨hp1, hp2⟩ := Yc hZE (.int .i64 1) (.int .i64 k) (.int .i64 0) (.slice none 0 0);have gE := hp2.grow (k4.grow gw3 (by omega)) (Nat.le_refl _);obtain ⟨z0, z1, z2, z3⟩ := Z4 hZE rfl rfl rfl rfl;obtain ⟨e0, e1, e2, e3⟩ := Yp hZE;have cs := Zu;obtain ⟨x0, x1, x2, x3⟩ := Z4 hp1 rfl rfl rfl rfl;obtain ⟨y0, y1, y2, y3⟩ := Z4 hDE rfl rfl rfl rfl;clear hZ2 hD2 hZ3 hD3 k4 hZE hDE gw2 gw3 hp1 hp2 g3;go_wp2_with fail;exact bodyPost_ret (v := .tuple #[.agg #[.int .i64 1, .int .i64 k, .int .i64 0, .slice none 0 0], .bool false]) (by simp [results, Tryz.results33, go_sem, x0, x1, x2, x3]) rfl ⟨_, rfl, ⟨_, _, _, rfl⟩, gE⟩
  | some l =>
   obtain rfl : O = some ⟨1, k, 0, l⟩ := by rw [HO.out]; simp [Q3, HN.out, hm]
   clear hm HO;rintro r w3 ⟨⟨u, rfl, hbu⟩, g3⟩;obtain ⟨ao, cap, rfl, -, -⟩ := Yt hbu;have hZ3 := (g3.block _ (Za hZ2)).trans hZ2;have hD3 := (g3.block _ (Za hD2)).trans hD2;have gw3 := gw2.trans g3;have q2 := Ze hD3 3 _ rfl;have f2 := Zt hD3 3;have k4 := (Zo.refl (w.heap.size + 1) w3).set 3 none (.slice ao l.length cap);have hZE := (k4.block _ (Za hZ3) (by omega)).trans hZ3;have hDE := heap_set hD3 3 (.slice ao l.length cap);have hb4 := Ji hbu hD3 k4;obtain ⟨hp1, hp2⟩ := Yc hZE (.int .i64 1) (.int .i64 k) (.int .i64 0) (.slice ao l.length cap);have hb5 := Ji hb4 hZE hp2;have gE := hp2.grow (k4.grow gw3 (by omega)) (Nat.le_refl _);clear hbu hb4;obtain ⟨z0, z1, z2, z3⟩ := Z4 hZE rfl rfl rfl rfl;obtain ⟨e0, e1, e2, e3⟩ := Yp hZE;have cs := Zu;obtain ⟨x0, x1, x2, x3⟩ := Z4 hp1 rfl rfl rfl rfl;obtain ⟨y0, y1, y2, y3⟩ := Z4 hDE rfl rfl rfl rfl;clear hZ2 hD2 hZ3 hD3 k4 hZE hDE gw2 gw3 hp1 hp2 g3;go_wp2_with fail;exact bodyPost_ret (v := .tuple #[.agg #[.int .i64 1, .int .i64 k, .int .i64 0, .slice ao l.length cap], .bool true]) (by simp [results, Tryz.results33, go_sem, x0, x1, x2, x3]) rfl ⟨_, rfl, ⟨ao, cap, rfl, hb5⟩, gE⟩
variable {K N x0 x1 x2 : Int} {W w w' : World} {a : Option Addr} {c l : Nat} {dn : Nat → Bool} {f : Nat → Value} {o : Option Dd}
theorem Zkp {s w0 : List UInt8} {rest : List (List UInt8)} (h : Yx s = w0 :: rest) : K6 s = match Ks w0 with
  | none => (Zgg, 1)
  | some (K, n) => if (rest.length : Int) + 1 = n then (match Q3 K rest with | none => (Zgg, 2) | some d => if Z1 d = 0 then (d, 0) else (Zgg, Z1 d)) else (Zgg, 2) := by
 unfold K6 Zh2 Ks;rw [h];simp only [List.head?_cons, Option.some.injEq, List.tail_cons];by_cases h1 : w0 = Zc2
 ·subst h1;simp only [if_pos]
  match rest with
  | [] => simp
  | [a] => simp
  | [a, b] =>
   simp only [Q3, if_pos];cases Vw a with
   | none => simp
   | some k =>
    cases Kp b with
    | none => simp
    | some l => simp
  | a :: b :: c :: r =>
   have : ¬ (((a :: b :: c :: r).length : Int) + 1 = 3) := by simp; omega
   rw [if_neg this]
 ·by_cases h2 : w0 = V5
  ·subst h2;rw [if_neg h1, if_pos rfl, if_neg h1, if_pos rfl]
   match rest with
   | [] => simp
   | [a] =>
    simp only [Q3, if_pos];cases Vw a with
    | none => simp
    | some k => simp
   | a :: b :: r =>
    have : ¬ (((a :: b :: r).length : Int) + 1 = 2) := by simp; omega
    simp only [if_neg this]
  ·by_cases h3 : w0 = Za5
   ·subst h3;rw [if_neg h1, if_neg h2, if_pos rfl, if_neg h1, if_neg h2, if_pos rfl]
    match rest with
    | [] => simp
    | [a] => simp
    | [a, b] =>
     simp only [Q3];cases Vw a with
     | none => simp
     | some k =>
      cases Vw b with
      | none => simp
      | some l => simp
    | a :: b :: c :: r =>
     have : ¬ (((a :: b :: c :: r).length : Int) + 1 = 3) := by simp; omega
     simp only [if_neg this]
   ·rw [if_neg h1, if_neg h2, if_neg h3, if_neg h1, if_neg h2, if_neg h3]
theorem Zfp : ∀ (s : List UInt8), ∀ x ∈ Yx s, x.length ≤ s.length
 | [], x, h => by simp [Yx] at h; subst h; simp
 | c :: s, x, h => by
  have ih := Zfp s;unfold Yx at h;split at h
  ·rcases List.mem_cons.1 h with rfl | h
   ·simp
   ·have := ih x h; simp; omega
  ·split at h
   ·rename_i w ws hw;rcases List.mem_cons.1 h with rfl | h
    ·have := ih w (by rw [hw]; simp); simp; omega
    ·have := ih x (by rw [hw]; simp [h]); simp; omega
   ·rename_i hw;exact absurd hw (Zc0 s)
def Zie : Obj := .cells #[.int .i64 0, .int .i64 0] 85 (0, 0)
def ShJ (W : World) (K N : Int) (dn : Nat → Bool) (f : Nat → Value) (w : World) : Prop :=
 Zj W w ∧ (dn 0 = true → dn 9 = false → ∃ b, f 0 = .map (some b) ∧ w.heap[b]? = some Za9) ∧
  (dn 8 = true → ∃ q, f 8 = .pointer (some ⟨q, 0, none⟩) ∧ W.heap.size ≤ q ∧ (dn 9 = false → w.heap[q]? = some Zie) ∧ (dn 9 = true → w.heap[q]? = some (.cells #[.int .i64 K, .int .i64 N] 85 (0, 0))))
theorem ShJ.start (W : World) (K N : Int) (f : Nat → Value) : ShJ W K N (fun _ => false) f W.drew := by
 refine ⟨(Zj.refl _).drew, ?_, ?_⟩ <;> (intro h; cases h)
theorem ShJ.on (h : ShJ W K N dn f w) (hg : Zj w w') : ShJ W K N dn f w' := by
 refine ⟨h.1.trans hg, fun h1 h2 => ?_, fun h1 => ?_⟩
 ·obtain ⟨b, k1, k2⟩ := h.2.1 h1 h2;exact ⟨b, k1, (hg.block _ (by rcases Nat.lt_or_ge b w.heap.size with h | h; exact h; simp [Array.getElem?_eq_none h] at k2)).trans k2⟩
 ·obtain ⟨q, k1, k2, k3, k4⟩ := h.2.2 h1;refine ⟨q, k1, k2, fun h3 => ?_, fun h3 => ?_⟩
  ·exact (hg.block _ (Za (k3 h3))).trans (k3 h3)
  ·exact (hg.block _ (Za (k4 h3))).trans (k4 h3)
theorem ShJ.call (h : ShJ W K N dn f w) (hg : Zj w w') {b : Nat} (hb : w'.heap[b]? = some Za9) : ShJ W K N (upd dn 0) (Qt f 0 (.map (some b))) w' := by
 have h' := h.on hg;refine ⟨h'.1, fun _ _ => ⟨b, Za6, hb⟩, fun h1 => ?_⟩;rw [V6 (by decide)] at h1;obtain ⟨q, k1, k2, k3, k4⟩ := h'.2.2 h1;exact ⟨q, by rw [K3 (by decide)]; exact k1, k2, by rw [V6 (by decide)]; exact k3, by rw [V6 (by decide)]; exact k4⟩
theorem ShJ.alloc (h : ShJ W K N dn f w) (h9 : dn 9 = false) : ShJ W K N (upd dn 8) (Qt f 8 (.pointer (some ⟨w.heap.size, 0, none⟩))) (w.alloc Zie) := by
 have h' := h.on (Zd w Zie);refine ⟨h'.1, fun h1 h2 => ?_, fun _ => ⟨w.heap.size, Za6, h.1.size, fun _ => Zk _ _ _, fun h3 => ?_⟩⟩
 ·rw [V6 (by decide)] at h1 h2;obtain ⟨b, k1, k2⟩ := h'.2.1 h1 h2;exact ⟨b, by rw [K3 (by decide)]; exact k1, k2⟩
 ·rw [V6 (by decide), h9] at h3; cases h3
theorem ShJ.store (h : ShJ W K N dn f w) (h8 : dn 8 = true) (h9 : dn 9 = false) :
  ∃ q, f 8 = .pointer (some ⟨q, 0, none⟩) ∧ w.heap[q]? = some Zie ∧ ShJ W K N (upd dn 9) (Qt f 9 undef) ((w.setCell ⟨q, 0, none⟩ (.int .i64 K)).setCell ⟨q, 1, none⟩ (.int .i64 N)) := by
 obtain ⟨q, k1, k2, k3, k4⟩ := h.2.2 h8;refine ⟨q, k1, k3 h9, ?_⟩;obtain ⟨hp1, hp2⟩ := Xy (show w.heap[q]? = some (.cells #[.int .i64 0, .int .i64 0] 85 (0, 0)) from k3 h9) (.int .i64 K) (.int .i64 N);refine ⟨hp2.grow h.1 k2, fun _ h2 => ?_, fun _ => ⟨q, by rw [K3 (by decide)]; exact k1, k2, fun h3 => ?_, fun _ => hp1⟩⟩
 ·rw [Zjj] at h2; cases h2
 ·rw [Zjj] at h3; cases h3
def Zgh : Obj := .cells #[.int .i64 0, .int .i64 0, .int .i64 0, .slice none 0 0] 40 (0, 0)
def Zhc (o : Option Dd) (x0 x1 x2 : Int) (a : Option Addr) (l c : Nat) (w : World) : Prop := match o with
 | some d => x0 = d.kind ∧ x1 = d.key ∧ x2 = d.num ∧ l = d.data.length ∧ Bytes w (.slice a l c) d.data
 | none => True
theorem Zhc.grow (h : Zhc o x0 x1 x2 a l c w) (hg : Zj w w') : Zhc o x0 x1 x2 a l c w' := by
 cases o with
 | none => trivial
 | some d => obtain ⟨h1, h2, h3, h4, h5⟩ := h; exact ⟨h1, h2, h3, h4, Z2 h5 hg⟩
theorem Zhc.but {q : Nat} (h : Zhc o x0 x1 x2 a l c w) (hq : w.heap[q]? = some Zgh) (hg : Zo q w w') : Zhc o x0 x1 x2 a l c w' := by
 cases o with
 | none => trivial
 | some d => obtain ⟨h1, h2, h3, h4, h5⟩ := h; exact ⟨h1, h2, h3, h4, Ji h5 hq hg⟩
def PwJ (W : World) (o : Option Dd) (dn : Nat → Bool) (f : Nat → Value) (w : World) : Prop :=
 Zj W w ∧ (dn 4 = true → ∃ x0 x1 x2 a l c, f 4 = .tuple #[.agg #[.int .i64 x0, .int .i64 x1, .int .i64 x2, .slice a l c], .bool o.isSome] ∧ Zhc o x0 x1 x2 a l c w ∧ (dn 9 = true → ∃ q, f 8 = .pointer (some ⟨q, 0, none⟩) ∧ W.heap.size ≤ q ∧ w.heap[q]? = some (.cells #[.int .i64 x0, .int .i64 x1, .int .i64 x2, .slice a l c] 40 (0, 0)))) ∧
  (dn 8 = true → dn 9 = false → ∃ q, f 8 = .pointer (some ⟨q, 0, none⟩) ∧ W.heap.size ≤ q ∧ w.heap[q]? = some Zgh)
theorem PwJ.start (W : World) (o : Option Dd) (f : Nat → Value) : PwJ W o (fun _ => false) f W.drew := by
 refine ⟨(Zj.refl _).drew, ?_, ?_⟩ <;> (intro h; cases h)
theorem PwJ.on (h : PwJ W o dn f w) (hg : Zj w w') : PwJ W o dn f w' := by
 refine ⟨h.1.trans hg, fun h1 => ?_, fun h1 h2 => ?_⟩
 ·obtain ⟨x0, x1, x2, a, l, c, k1, k2, k3⟩ := h.2.1 h1;refine ⟨x0, x1, x2, a, l, c, k1, k2.grow hg, fun h3 => ?_⟩;obtain ⟨q, j1, j2, j3⟩ := k3 h3;exact ⟨q, j1, j2, (hg.block _ (Za j3)).trans j3⟩
 ·obtain ⟨q, j1, j2, j3⟩ := h.2.2 h1 h2;exact ⟨q, j1, j2, (hg.block _ (Za j3)).trans j3⟩
theorem PwJ.call {v : Value} (h : PwJ W o dn f w) (hg : Zj w w') (h9 : dn 9 = false) (hv : Zm1 o v w') : PwJ W o (upd dn 4) (Qt f 4 v) w' := by
 have h' := h.on hg;refine ⟨h'.1, fun _ => ?_, fun h1 h2 => ?_⟩
 ·cases o with
  | none =>
   obtain ⟨x0, x1, x2, rfl⟩ := hv;exact ⟨x0, x1, x2, none, 0, 0, Za6, trivial, fun h3 => by rw [V6 (by decide), h9] at h3; cases h3⟩
  | some d =>
   obtain ⟨a, c, rfl, hb⟩ := hv;exact ⟨_, _, _, _, _, _, Za6, ⟨rfl, rfl, rfl, rfl, hb⟩, fun h3 => by rw [V6 (by decide), h9] at h3; cases h3⟩
 ·rw [V6 (by decide)] at h1;obtain ⟨q, j1, j2, j3⟩ := h'.2.2 h1 h9;exact ⟨q, by rw [K3 (by decide)]; exact j1, j2, j3⟩
theorem PwJ.alloc (h : PwJ W o dn f w) (h9 : dn 9 = false) : PwJ W o (upd dn 8) (Qt f 8 (.pointer (some ⟨w.heap.size, 0, none⟩))) (w.alloc Zgh) := by
 have h' := h.on (Zd w Zgh);refine ⟨h'.1, fun h1 => ?_, fun _ _ => ⟨w.heap.size, Za6, h.1.size, Zk _ _ _⟩⟩;rw [V6 (by decide)] at h1;obtain ⟨x0, x1, x2, a, l, c, k1, k2, k3⟩ := h'.2.1 h1;exact ⟨x0, x1, x2, a, l, c, by rw [K3 (by decide)]; exact k1, k2, fun h3 => by rw [V6 (by decide), h9] at h3; cases h3⟩
theorem PwJ.store (h : PwJ W o dn f w) (h4 : dn 4 = true) (h8 : dn 8 = true) (h9 : dn 9 = false) :
  ∃ q x0 x1 x2 a l c, f 8 = .pointer (some ⟨q, 0, none⟩) ∧ f 4 = .tuple #[.agg #[.int .i64 x0, .int .i64 x1, .int .i64 x2, .slice a l c], .bool o.isSome] ∧ w.heap[q]? = some Zgh ∧ PwJ W o (upd dn 9) (Qt f 9 undef) ((((w.setCell ⟨q, 0, none⟩ (.int .i64 x0)).setCell ⟨q, 1, none⟩ (.int .i64 x1)).setCell ⟨q, 2, none⟩ (.int .i64 x2)).setCell ⟨q, 3, none⟩ (.slice a l c)) := by
 obtain ⟨x0, x1, x2, a, l, c, k1, k2, k3⟩ := h.2.1 h4;obtain ⟨q, j1, j2, j3⟩ := h.2.2 h8 h9;refine ⟨q, x0, x1, x2, a, l, c, j1, k1, j3, ?_⟩;obtain ⟨hp1, hp2⟩ := Yc (show w.heap[q]? = some (.cells #[.int .i64 0, .int .i64 0, .int .i64 0, .slice none 0 0] 40 (0, 0)) from j3) (.int .i64 x0) (.int .i64 x1) (.int .i64 x2) (.slice a l c);refine ⟨hp2.grow h.1 j2, fun _ => ⟨x0, x1, x2, a, l, c, by rw [K3 (by decide)]; exact k1, k2.but j3 hp2, fun _ => ⟨q, by rw [K3 (by decide)]; exact j1, j2, hp1⟩⟩, fun _ h2 => ?_⟩;rw [Zjj] at h2; cases h2
end Go.Proofs.YtpdnapbchcdhladGreatDoor
