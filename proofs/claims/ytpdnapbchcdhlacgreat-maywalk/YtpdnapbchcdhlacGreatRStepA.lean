import Derived.Deep.DeepCutAuto
import Derived.Deep.AppendLies
import Derived.Test.YtpdnapbchcdhlacGreatInv3
set_option maxHeartbeats 8000000
namespace Go.Proofs.YtpdnapbchcdhlacGreat
set_option maxRecDepth 100000
open Go.RowKit
open Plain Reg
def Zn0 : Qg Sp where
 T := 49
 size := 7
 enc S w x cs := ∃ u, cs = [.int .i64 x.kind, .int .i64 x.n, .int .i64 x.m, .int .i64 x.deed.kind, .int .i64 x.deed.key, .int .i64 x.deed.num, u] ∧ Z1 S w u x.deed.data
 len := by rintro S w x cs ⟨u, rfl, _⟩; rfl
 keep := by rintro S w w' x cs ⟨u, rfl, h⟩ hk; exact ⟨u, rfl, h.keeps hk⟩
 mono := by rintro S S' w x cs ⟨u, rfl, h⟩ hS; exact ⟨u, rfl, h.mono hS⟩
 cap := by rintro S w x cs ⟨u, rfl, h⟩; exact ⟨u, rfl, h.caps⟩
 one := by
  rintro S w x cs ⟨u, rfl, h⟩ c hc;simp only [List.mem_cons, List.not_mem_nil, or_false] at hc;rcases hc with rfl | rfl | rfl | rfl | rfl | rfl | rfl
  ·rfl
  ·rfl
  ·rfl
  ·rfl
  ·rfl
  ·rfl
  ·exact h.one
abbrev Zba (S : Nat → Prop) (w : World) (v : Value) (l : List Sp) : Prop := Zt Zn0 S w v l
theorem Zq9 {S : Nat → Prop} {w : World} {ao : Option Addr} {n cap : Nat} {l : List Sp} (h : Zba S w (.slice ao n cap) l) (i : Nat) (hi : i < l.length) :
  ∃ b off a c, ao = some ⟨b, off, none⟩ ∧ w.cell? ⟨b, off + i * 7, none⟩ = some (.int .i64 l[i].kind) ∧ w.cell? ⟨b, off + i * 7 + 1, none⟩ = some (.int .i64 l[i].n) ∧ w.cell? ⟨b, off + i * 7 + 2, none⟩ = some (.int .i64 l[i].m) ∧ w.cell? ⟨b, off + i * 7 + 3, none⟩ = some (.int .i64 l[i].deed.kind) ∧ w.cell? ⟨b, off + i * 7 + 4, none⟩ = some (.int .i64 l[i].deed.key) ∧ w.cell? ⟨b, off + i * 7 + 5, none⟩ = some (.int .i64 l[i].deed.num) ∧
   w.cell? ⟨b, off + i * 7 + 6, none⟩ = some (.slice a l[i].deed.data.length c) ∧ Z1 S w (.slice a l[i].deed.data.length c) l[i].deed.data := by
 obtain ⟨b, off, rfl, _, cs, ⟨u, rfl, hu⟩, hc⟩ := h.at i hi;obtain ⟨a, c, rfl⟩ := hu.form;exact ⟨b, off, a, c, rfl, hc 0 _ rfl, hc 1 _ rfl, hc 2 _ rfl, hc 3 _ rfl, hc 4 _ rfl, hc 5 _ rfl, hc 6 _ rfl, hu⟩
theorem Zu4 : Q3.At := Zaz J4
variable {S : Nat → Prop} {s : St} {v : Value} {w : World}
def Zqu : Prop := ∀ (S : Nat → Prop) (s : St) (v : Value) (w : World), (∀ b, S b → b < w.heap.size) → Yc S s v w → s.At →
 Calls Tryz.prog 97 #[v] w fun r w' => ∃ v', r = .returned v' ∧ Y4 (Z2 S w.heap.size) w' v' s.recs ∧ Zl w w'
theorem Zw7 (h : s.At) : s.idx.length ≤ 6 := by
 obtain ⟨h1, h2⟩ := (Xi _).1 h.ok.right;have hn : (s.idx.map fun x => x.pair.toNat).Nodup := by
  rw [List.nodup_iff_pairwise_ne, List.pairwise_map];refine List.Pairwise.imp_of_mem ?_ h1;intro a b ha hb hu e;have ha0 := (h2 a ha).2.2.1;have hb0 := (h2 b hb).2.2.1;exact hu.2 (by omega)
 have := Zek _ (List.range 6) hn (fun x hx => by
  obtain ⟨e, he, rfl⟩ := List.mem_map.1 hx;have := h.ok.six e he;rw [List.mem_range];have := (h2 e he).2.2.1;omega)
 simpa using this
theorem Zvq (h : s.At) : s.recs.length ≤ 6 := by unfold St.recs; rw [List.length_map]; exact Zw7 h
theorem Zvj (l : List Rec) (d : Dd) : (doR l d).l.length ≤ l.length + 1 := by
 unfold doR;split
 ·split
  ·rename_i i hf;simp only [List.length_append, List.length_take, List.length_drop];omega
  ·exact Nat.le_succ _
 ·split
  ·exact Nat.le_succ _
  ·split
   ·exact Nat.le_succ _
   ·simp
theorem Yc.any (h : Yc S s v w) : Yc (fun _ => True) s v w := h.mono fun _ _ => trivial
theorem Yc.now (h : Yc (fun _ => True) s v w) : Yc (fun b => b < w.heap.size) s v w := h.capd.mono fun _ h => h.2
theorem Zjo {l : List Rec} (h : Y4 S w v l) : Y4 (fun _ => True) w v l := Zt.mono h fun _ _ => trivial
theorem Zdz {l : List UInt8} (h : Z1 S w v l) : Z1 (fun b => b < w.heap.size) w v l := h.caps.mono fun _ h => h.2
abbrev Sp.goes (l : List Rec) (x : Sp) : Prop := (x.kind = 1 ∨ x.kind = 2) ∧ Yh x.deed = 0 ∧ (doR l x.deed).e = 0
def Xz (l : List Rec) (x : Sp) : List (List Rec) :=
 if x.goes l then (if x.kind = 1 then [(doR l x.deed).l] else [l, (doR l x.deed).l]) else [l]
theorem Zce {l : List Rec} {x : Sp} (h : x.goes l) (hk : x.kind = 1) : Xz l x = [(doR l x.deed).l] := by unfold Xz; rw [if_pos h, if_pos hk]
theorem Zai {l : List Rec} {x : Sp} (h : x.goes l) (hk : x.kind ≠ 1) : Xz l x = [l, (doR l x.deed).l] := by unfold Xz; rw [if_pos h, if_neg hk]
theorem Za1 {l : List Rec} {x : Sp} (h : ¬ x.goes l) : Xz l x = [l] := by unfold Xz; rw [if_neg h]
theorem Zm6 {l : List Rec} {d : Dd} (h : (doR l d).e = 0) : (doR l d).l.length ≠ l.length := by
 unfold doR at h ⊢;by_cases hk : d.kind = 3
 ·rw [if_pos hk] at h ⊢;cases hf : l.findIdx? (Vp d) with
  | none => rw [hf] at h; exact absurd (show (6 : Int) = 0 from h) (by decide)
  | some i =>
   obtain ⟨hi, -⟩ := List.findIdx?_eq_some_iff_getElem.1 hf;show (l.take i ++ l.drop (i + 1)).length ≠ l.length;simp only [List.length_append, List.length_take, List.length_drop];omega
 ·rw [if_neg hk] at h ⊢;by_cases h5 : 5 < l.length
  ·rw [if_pos h5] at h; exact absurd (show (9 : Int) = 0 from h) (by decide)
  ·rw [if_neg h5] at h ⊢;by_cases hn : 60000 < X9 l
   ·rw [if_pos hn] at h; exact absurd (show (4 : Int) = 0 from h) (by decide)
   ·rw [if_neg hn];simp
theorem Zls {a b : List Rec} (h : a.length ≠ b.length) : Xs a b = false := by
 unfold Xs;rw [Bool.and_eq_false_iff];exact .inr (by simp [h])
theorem Zdw (l : List Rec) (x : Sp) : Xz l x = [l] ∨ x.kind = 1 ∧ Xz l x = [(doR l x.deed).l] ∨ x.kind = 2 ∧ Xz l x = [l, (doR l x.deed).l] ∧ Xs (doR l x.deed).l l = false := by
 by_cases h : x.goes l
 ·by_cases hk : x.kind = 1
  ·exact .inr (.inl ⟨hk, Zce h hk⟩)
  ·exact .inr (.inr ⟨h.1.resolve_left hk, Zai h hk, Zls (Zm6 h.2.2)⟩)
 ·exact .inl (Za1 h)
theorem Zhf (l : List Rec) (x : Sp) : ∀ y ∈ Xz l x, y.length ≤ l.length + 1 := by
 intro y hy;have hd := Zvj l x.deed;rcases Zdw l x with h | ⟨-, h⟩ | ⟨-, h, -⟩
 ·rw [h] at hy; simp at hy; subst hy; omega
 ·rw [h] at hy; simp at hy; subst hy; exact hd
 ·rw [h] at hy; simp at hy; rcases hy with rfl | rfl
  ·omega
  ·exact hd
def Vh : St → List Sp → Nat
 | _, [] => 0
 | s, x :: l => if Qb s x = true then Vh (s.step x).st l + 1 else 0
theorem Zi0 : ∀ (l : List Sp) (s : St), Vh s l ≤ l.length
 | [], _ => Nat.le_refl _
 | x :: l, s => by
  unfold Vh;have := Zi0 l (s.step x).st;split
  ·simp only [List.length_cons]; omega
  ·omega
def Zo0 : Qg (List Rec) where
 T := 58
 size := 1
 enc S w x cs := ∃ u, cs = [u] ∧ Y4 S w u x
 len := by rintro S w x cs ⟨u, rfl, _⟩; rfl
 keep := by rintro S w w' x cs ⟨u, rfl, h⟩ hk; exact ⟨u, rfl, Zt.keep h hk⟩
 mono := by rintro S S' w x cs ⟨u, rfl, h⟩ hS; exact ⟨u, rfl, Zt.mono h hS⟩
 cap := by rintro S w x cs ⟨u, rfl, h⟩; exact ⟨u, rfl, Zt.caps h (by decide)⟩
 one := by
  rintro S w x cs ⟨u, rfl, h⟩ c hc;simp only [List.mem_cons, List.not_mem_nil, or_false] at hc;subst hc;obtain ⟨ao, cap, rfl⟩ := Zt.form h;rfl
abbrev Zd4 (S : Nat → Prop) (w : World) (v : Value) (l : List (List Rec)) : Prop := Zt Zo0 S w v l
theorem Za2 {S : Nat → Prop} {w : World} {ao : Option Addr} {n cap : Nat} {l : List (List Rec)} (h : Zd4 S w (.slice ao n cap) l) (i : Nat) (hi : i < l.length) :
  ∃ b off a c, ao = some ⟨b, off, none⟩ ∧ w.cell? ⟨b, off + i, none⟩ = some (.slice a l[i].length c) ∧ Y4 S w (.slice a l[i].length c) l[i] := by
 obtain ⟨b, off, rfl, _, cs, ⟨u, rfl, hu⟩, hc⟩ := h.at i hi;obtain ⟨a, c, rfl⟩ := Zt.form hu;have h0 : w.cell? ⟨b, off + i * 1 + 0, none⟩ = some (.slice a l[i].length c) := hc 0 _ rfl;exact ⟨b, off, a, c, rfl, by simpa using h0, hu⟩
def Zgc : Prop := ∀ (S : Nat → Prop) (l : List Rec) (x : Sp) (v : Value) (ad : Option Addr) (c : Nat) (w : World), (∀ b, S b → b < w.heap.size) → Qp l = true → Y4 S w v l → Z1 S w (.slice ad x.deed.data.length c) x.deed.data → x.deed.data.length ≤ 140737488355328 →
 Calls Tryz.prog 33 #[v, .agg #[.int .i64 x.kind, .int .i64 x.n, .int .i64 x.m, .int .i64 x.deed.kind, .int .i64 x.deed.key, .int .i64 x.deed.num, .slice ad x.deed.data.length c]] w fun r w' => ∃ v', r = .returned v' ∧ Zd4 (Z2 S w.heap.size) w' v' (Xz l x) ∧ Zl w w'
def Zhv : Prop := ∀ (S : Nat → Prop) (s : St) (x : Sp) (v : Value) (ad : Option Addr) (c : Nat) (w : World), (∀ b, S b → b < w.heap.size) → Yc S s v w → Z1 S w (.slice ad x.deed.data.length c) x.deed.data → s.At → x.deed.data.length ≤ 140737488355328 →
 Calls Tryz.prog 29 #[v, .agg #[.int .i64 x.kind, .int .i64 x.n, .int .i64 x.m, .int .i64 x.deed.kind, .int .i64 x.deed.key, .int .i64 x.deed.num, .slice ad x.deed.data.length c]] w fun r w' => r = .returned (.bool (Qb s x)) ∧ Zl w w'
def Zix : Prop := ∀ (S : Nat → Prop) (l : List Sp) (v : Value) (w : World), (∀ b, S b → b < w.heap.size) → Zba S w v l → l.length ≤ 100 → (∀ x ∈ l, x.deed.data.length ≤ 140737488355328) →
 Calls Tryz.prog 31 #[v] w fun r w' => r = .returned (.tuple #[.int .i64 (Vh Q3 l : Int), .bool true]) ∧ Zl w w'
def Zdc : Prop := ∀ w : World, Calls Tryz.prog 36 #[] w fun r w' => r = .returned (.bool true) ∧ Zl w w'
theorem Zps (AL : Zdc) (ML : Zgc) (l : List Rec) (x : Sp) (v : Value) (ad : Option Addr) (c : Nat) (w : World) (hl : Y4 (fun b => b < w.heap.size) w v l) (hd : Z1 (fun b => b < w.heap.size) w (.slice ad x.deed.data.length c) x.deed.data) (hm : l.length ≤ 140737488355328) (hdd : x.deed.data.length ≤ 140737488355328) :
  Calls Tryz.prog 9 #[v, .agg #[.int .i64 x.kind, .int .i64 x.n, .int .i64 x.m, .int .i64 x.deed.kind, .int .i64 x.deed.key, .int .i64 x.deed.num, .slice ad x.deed.data.length c]] w fun r w' => r = .returned (.bool true) ∧ Zl w w' := by
 obtain ⟨ao, cp, rfl⟩ := Zt.form hl;have g0 := Zb w (.cells #[.int .i64 x.kind, .int .i64 x.n, .int .i64 x.m, .int .i64 x.deed.kind, .int .i64 x.deed.key, .int .i64 x.deed.num, .slice ad x.deed.data.length c] 49);have hX0 := Zk w #[.int .i64 x.kind, .int .i64 x.n, .int .i64 x.m, .int .i64 x.deed.kind, .int .i64 x.deed.key, .int .i64 x.deed.num, .slice ad x.deed.data.length c] 49;go_enter Tryz.func9, Tryz.ntmps9;go_wp2_with fail;refine (AL _).mono ?_;rintro r w1 ⟨rfl, g1⟩;have hX1 := (g1.block _ (Za hX0)).trans hX0;have gw1 := g0.trans g1;clear g0 g1 hX0;go_wp2_with fail;refine (Zjj _ l _ w1 (Zt.grow hl gw1) hm).mono ?_;obtain ⟨R, hR⟩ : ∃ R, R = Qp l := ⟨_, rfl⟩;rw [← hR];rintro r w2 ⟨rfl, g2⟩;have gw2 := gw1.trans g2;cases R with
 | false =>
  clear hR hX1 g2 gw1;go_wp2_with fail;go_ret;exact ⟨rfl, gw2⟩
 | true =>
  have HR : Hid (Qp l = true) := hR.symm;have hX2 := (g2.block _ (Za hX1)).trans hX1;clear hR hX1 g2 gw1;obtain ⟨p0, p1, p2, p3, p4⟩ := Qv hX2 rfl rfl rfl rfl rfl;have p5 := Zc hX2 5 _ rfl;have p6 := Zc hX2 6 _ rfl;go_wp2_with fail;refine (ML (fun b => b < w2.heap.size) l x _ ad c w2 (fun b h => h) HR.out ((Zt.grow hl gw2).mono (fun b h => Nat.lt_of_lt_of_le h gw2.size)) (Zdz (hd.grow gw2)) hdd).mono ?_;have HF : Hid _ := Zdw l x;have HLL : Hid _ := Zhf l x;have HL40 : Hid (l.length ≤ 40) := ((Zcc l).1 HR.out).2;generalize Xz l x = L at *;rintro r w3 ⟨v3, rfl, h3, g3⟩;have hX3 := (g3.block _ (Za hX2)).trans hX2;have gw3 := gw2.trans g3;have hl3 := Zt.grow hl gw3;clear p0 p1 p2 p3 p4 p5 p6 hX2 gw2 g3;have p0 := Zc hX3 0 _ rfl;rcases HF.out with h | ⟨hk, h⟩ | ⟨hk, h, hs⟩
  ·subst h;obtain ⟨Y, hY⟩ : ∃ Y, Y = l := ⟨_, rfl⟩;obtain ⟨a3, c3, rfl⟩ : ∃ a c, v3 = .slice a 1 c := Zt.form h3;rw [show ([l] : List (List Rec)) = [Y] from by rw [hY]] at h3;obtain ⟨b, off, a1, c1, hao, z0, h1⟩ := Za2 h3 0 Nat.zero_lt_one;cases hao;replace z0 : w3.cell? ⟨b, off, none⟩ = some (.slice a1 Y.length c1) := z0;replace h1 : Y4 _ w3 (.slice a1 Y.length c1) Y := h1;have HS : Hid (Xs Y l = true) := by rw [hY]; exact Vq l
   have HYL : Hid (Y.length ≤ 1000) := by show _ ≤ _; rw [hY]; have := HL40.out; omega
   have HLN : Hid (l.length ≤ 1000) := by show _ ≤ _; have := HL40.out; omega
   clear HF HLL h3 hY;by_cases k1 : x.kind = 1
   ·have d1 : (x.kind == 1) = true := by simp [k1]
    clear k1 h1 z0;go_wp2_with fail;go_ret;exact ⟨rfl, gw3⟩
   ·have d1 : (x.kind == 1) = false := by simp [k1]
    clear k1;go_wp2_with fail;refine (Zcb _ _ Y l _ _ w3 h1 hl3 HYL.out HLN.out).mono ?_;rw [HS.out];rintro r w4 ⟨rfl, g4⟩;have gE := gw3.trans g4;clear p0 z0 h1 hX3 hl3 g4 gw3;go_wp2_with fail;go_ret;exact ⟨rfl, gE⟩
  ·subst h;have d1 : (x.kind == 1) = true := by simp [hk]
   obtain ⟨a3, c3, rfl⟩ : ∃ a c, v3 = .slice a 1 c := Zt.form h3;clear HF HLL h3 hk;go_wp2_with fail;go_ret;exact ⟨rfl, gw3⟩
  ·subst h;have d2 : (x.kind == 2) = true := by simp [hk]
   obtain ⟨a3, c3, rfl⟩ : ∃ a c, v3 = .slice a 2 c := Zt.form h3;obtain ⟨b, off, a1, c1, hao, z0, h1⟩ := Za2 h3 0 Nat.zero_lt_two;cases hao;obtain ⟨b', off', a2, c2, hao, z1, h2⟩ := Za2 h3 1 Nat.one_lt_two;cases hao;obtain ⟨D, hD⟩ : ∃ D, D = (doR l x.deed).l := ⟨_, rfl⟩;have HS : Hid (Xs D l = false) := by rw [hD]; exact hs
   have HDL : Hid (D.length ≤ 1000) := by show _ ≤ _; rw [hD]; have := HL40.out; have := HLL.out (doR l x.deed).l (by simp); omega
   have HLN : Hid (l.length ≤ 1000) := by show _ ≤ _; have := HL40.out; omega
   replace z0 : w3.cell? ⟨b, off, none⟩ = some (.slice a1 l.length c1) := z0;replace h1 : Y4 _ w3 (.slice a1 l.length c1) l := h1;have z1' : w3.cell? ⟨b, off + 1, none⟩ = some (.slice a2 D.length c2) := by rw [hD]; exact z1
   have h2' : Y4 (Z2 (fun b => b < w2.heap.size) w2.heap.size) w3 (.slice a2 D.length c2) D := by rw [hD]; exact h2
   have HSL : Hid (Xs l l = true) := Vq l;clear HF HLL h3 hk hs h2 z1 hD;go_wp2_with fail;refine (Zcb _ _ l l _ _ w3 h1 hl3 HLN.out HLN.out).mono ?_;rw [HSL.out];rintro r w4 ⟨rfl, g4⟩;have gw4 := gw3.trans g4;have z2 := (Below.cell g4 (Zs z1')).trans z1';have h4 := Zt.grow h2' g4;have hl4 := Zt.grow hl3 g4;clear z0 z1' h1 h2' hl3 gw3 g4 p0 hX3;go_wp2_with fail;refine (Zcb _ _ D l _ _ w4 h4 hl4 HDL.out HLN.out).mono ?_;rw [HS.out];rintro r w5 ⟨rfl, g5⟩;have gE := gw4.trans g5;clear z2 h4 hl4 gw4 g5;go_wp2_with fail;go_ret;exact ⟨rfl, gE⟩
theorem Zmq (AL : Zdc) (MW : Zix) (l : List Sp) (v : Value) (w : World) (hl : Zba (fun b => b < w.heap.size) w v l) (hm : l.length ≤ 140737488355328) (hdl : ∀ x ∈ l, x.deed.data.length ≤ 140737488355328) :
  Calls Tryz.prog 10 #[v] w fun r w' => r = .returned (.bool true) ∧ Zl w w' := by
 obtain ⟨ao, cp, rfl⟩ := hl.form;go_enter Tryz.func10, Tryz.ntmps10;go_wp2_with fail;refine (AL _).mono ?_;rintro r w1 ⟨rfl, g1⟩;by_cases h : l.length ≤ 100
 ·go_wp2_with fail;refine (MW (fun b => b < w.heap.size) l _ w1 (fun b h => Nat.lt_of_lt_of_le h g1.size) (hl.grow g1) h hdl).mono ?_;have hle : (Vh Q3 l : Int) ≤ (l.length : Int) := by have := Zi0 l Q3; omega
  have hge : 0 ≤ (Vh Q3 l : Int) := by omega
  generalize (Vh Q3 l : Int) = N at *;rintro r w2 ⟨rfl, g2⟩;have gE := g1.trans g2;go_wp2_with fail;go_ret;exact ⟨rfl, gE⟩
 ·clear hl hdl;go_wp2_with fail;go_ret;exact ⟨rfl, g1⟩
variable {B cap : Nat} {S : Nat → Prop} {w : World}
theorem Zfj {off : Nat} {u : Value} {l : List Rec} (hB : S B) (hc : 1 ≤ cap) (h : w.cell? ⟨B, off, none⟩ = some u) (hl : Y4 S w u l) : Zd4 S w (.slice (some ⟨B, off, none⟩) 1 cap) [l] := by
 refine .inr ⟨B, off, cap, hB, rfl, hc, fun i hi => ?_⟩;have h0 : i < 1 := hi
 match i, h0 with
 | 0, _ =>
  refine ⟨[u], ⟨u, rfl, hl⟩, fun j x hj => ?_⟩
  match j, hj with
  | 0, hj => exact h.trans hj
  | j + 1, hj => simp at hj
theorem Zoo {u0 u1 : Value} {l0 l1 : List Rec} (hB : S B) (hc : 2 ≤ cap) (h0 : w.cell? ⟨B, 0, none⟩ = some u0) (h1 : w.cell? ⟨B, 1, none⟩ = some u1) (hl0 : Y4 S w u0 l0) (hl1 : Y4 S w u1 l1) : Zd4 S w (.slice (some ⟨B, 0, none⟩) 2 cap) [l0, l1] := by
 refine .inr ⟨B, 0, cap, hB, rfl, hc, fun i hi => ?_⟩;have h2 : i < 2 := hi
 match i, h2 with
 | 0, _ =>
  refine ⟨[u0], ⟨u0, rfl, hl0⟩, fun j x hj => ?_⟩
  match j, hj with
  | 0, hj => exact h0.trans hj
  | j + 1, hj => simp at hj
 | 1, _ =>
  refine ⟨[u1], ⟨u1, rfl, hl1⟩, fun j x hj => ?_⟩
  match j, hj with
  | 0, hj => exact h1.trans hj
  | j + 1, hj => simp at hj
end Go.Proofs.YtpdnapbchcdhlacGreat
