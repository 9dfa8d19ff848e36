import Derived.Test.YtgaecpdokgklpadGreatDoorShelf
import Derived.Test.YtgaecpdokgklpadGreatDoorTParse2
import Derived.Lib.AppendZeros
set_option maxHeartbeats 8000000
namespace Go.Proofs.YtgaecpdokgklpadGreatDoor
set_option maxRecDepth 100000
open Go.RowKit
open Plain Reg
def Zbv : Prop := ∀ (s : List UInt8) (w : World),
 Calls Tryz.prog 84 #[.string ⟨s.toArray⟩, .string ⟨#[32]⟩] w fun r w' => r = .returned (.int .i64 (Lib.indexByte s 32)) ∧ w' = w
theorem Zqi : (Tryz.prog.info? 9).map (fun i => (i.zero, i.size, i.bytes)) = some (some (.string ⟨#[]⟩), 1, 16) := by kernel_rfl
def Kb (ds : List (List UInt8)) (n : Nat) : List Value := ds.map (fun x => .string ⟨x.toArray⟩) ++ List.replicate (n - ds.length) (.string ⟨#[]⟩)
theorem Zcb {ds : List (List UInt8)} {n : Nat} (h : ds.length < n) (x : List UInt8) : (Kb ds n).set ds.length (.string ⟨x.toArray⟩) = Kb (ds ++ [x]) n := by
 unfold Kb;rw [show n - ds.length = (n - (ds ++ [x]).length) + 1 by simp; omega, List.replicate_succ, List.set_append_right _ _ (by simp)];simp
theorem Zg6 {ds : List (List UInt8)} {n i : Nat} (h : i < ds.length) : (Kb ds n)[i]? = some (.string ⟨ds[i].toArray⟩) := by
 unfold Kb;rw [List.getElem?_append_left (by simpa using h)];simp [h]
theorem Zaz {ds : List (List UInt8)} {n : Nat} (h : ds.length < n) : (Kb ds n)[ds.length]? = some (.string ⟨#[]⟩) := by
 unfold Kb;rw [List.getElem?_append_right (by simp), List.length_map, Nat.sub_self, show n - ds.length = (n - ds.length - 1) + 1 by omega, List.replicate_succ];rfl
def Zud (s : List UInt8) (r : Ending) (w' : World) : Prop := ∃ (ws : List (List UInt8)) (g c : Nat), Zln s ws ∧ r = .returned (.slice (some ⟨g, 0, none⟩) ws.length c) ∧ ws.length ≤ c ∧ ∀ (i : Nat) (h : i < ws.length), w'.cell? ⟨g, i, none⟩ = some (.string ⟨ws[i].toArray⟩)
theorem Zrw (IX : Zbv) (s : List UInt8) (w : World) (hs : s.length ≤ 140737488355328) :
  Calls Tryz.prog 49 #[.string ⟨s.toArray⟩, .string ⟨#[32]⟩, .int .i64 0, .int .i64 4] w fun r w' => Zud s r w' ∧ Zj w w' := by
 obtain ⟨N, hN⟩ : ∃ N, N = min 4 (s.length + 1) := ⟨_, rfl⟩;have hmin : (if (s.length : Int) + 1 < 4 then (s.length : Int) + 1 else 4) = (N : Int) := by split <;> omega
 have hN1 : 1 ≤ N := by omega
 have hN4 : N ≤ 4 := by omega
 have HPA : Hid (Zln s (Lib.splitK [32] 0 (N - 1) s)) := by rw [hN]; exact Zj8 s
 clear hN;obtain ⟨i0, hif, hz0, hz1, hz2⟩ := info_parts Zqi;go_enter Tryz.func49, Tryz.ntmps49;go_wp2_with (at_make; go_loud (refine wpList_make_full _ rfl _ _ 57 rfl w.heap.size 9 i0 (.string ⟨#[]⟩) 1 Tryz.underlying57 hif hz0 hz1 .i64 .i64 _ _ N rfl rfl (by first | exact hmin | rfl | (split at hmin <;> omega)) (by first | exact hmin | rfl | (split at hmin <;> omega)) (by rw [hz2]; omega) (by unfold maxLen; omega) (Nat.le_refl _) ?_; intro w1 hown1 hgrow1));have g1 : Zj w w1 := Yl (Zj.refl _) hgrow1 (fun k hk => by cases hk);clear hgrow1;rw [Nat.mul_one, show (Value.string ⟨#[]⟩).cells = #[Value.string ⟨#[]⟩] from rfl, toList_madeCells_one] at hown1;go_loopw [0, 10] (fun sv iv wr => ∃ (ds : List (List UInt8)) (r : List UInt8), sv = .string ⟨r.toArray⟩ ∧ iv = .int .i64 (ds.length : Int) ∧ ds.length ≤ N - 1 ∧ r.length ≤ s.length ∧ Hid (ds ++ Lib.splitK [32] 0 (N - 1 - ds.length) r = Lib.splitK [32] 0 (N - 1) s) ∧ wr.ownsRow w.heap.size 9 1 (.slice (some ⟨w.heap.size, 0, none⟩) N N) N (Kb ds N) ∧ Zj w wr) (fun _ iv _ => N - (intOf iv).toNat)
 case atStart => exact ⟨[], s, rfl, rfl, Nat.zero_le _, Nat.le_refl _, (by show _ = _; rfl), by simpa [Kb] using hown1, g1⟩
 case round =>
  clear hown1 g1;obtain ⟨ds, r, rfl, rfl, hd, hrl, HS, hrow, hgr⟩ := hrel;by_cases hlt : ds.length < N - 1
  ·have hltz : (ds.length : Int) < (N : Int) - 1 := by omega
   go_wp2_with fail;refine (IX r _).mono ?_;rcases Zdg r with ⟨hi, hbl⟩ | ⟨i, hi, hcut, hbl⟩
   ·rw [hi];rintro e w2 ⟨rfl, hw2⟩;rw [hw2];clear hw2 w2;have HW : Hid (Lib.splitK [32] 0 (N - 1) s = ds ++ [r]) := by
     show _ = _;rw [← HS.out]
     congr 1
     rw [show N - 1 - ds.length = (N - 1 - ds.length - 1) + 1 by omega];unfold Lib.splitK;rw [Je, hi];rfl
    clear hi hbl HS;have f0 := hrow.frozenAt ds.length;have c0 : wr.cell? ⟨w.heap.size, ds.length, none⟩ = some (.string ⟨#[]⟩) := by
     rw [hrow.cellAt ds.length (by omega)]; exact Zaz (by omega)
    have hst := (hrow.stored ds.length (.string ⟨r.toArray⟩)).1;rw [Zcb (by omega)] at hst;have g6 := Ya hgr (a := ⟨w.heap.size, ds.length, none⟩) (Nat.le_refl _) (.string ⟨r.toArray⟩);have HR6 : Hid _ := hst;have HG6 : Hid _ := g6;have hdN : (ds.length : Int) + 1 ≤ (N : Int) := by omega
    have cs := Zv;clear hst g6 hrow hgr;go_wp2_with fail;go_ret;have h6 : (wr.setCell ⟨w.heap.size, ds.length, none⟩ (.string ⟨r.toArray⟩)).ownsRow w.heap.size 9 1 (.slice (some ⟨w.heap.size, 0, none⟩) N N) N (Kb (ds ++ [r]) N) := HR6.out;have hln : (ds ++ [r]).length = ds.length + 1 := by simp
    refine ⟨⟨ds ++ [r], w.heap.size, N, by rw [← HW.out]; exact HPA.out, by rw [hln]; rfl, by rw [hln]; omega, fun j hj => ?_⟩, HG6.out⟩;rw [h6.cellAt j (by omega)];exact Zg6 hj
   ·rw [hi];rintro e w2 ⟨rfl, hw2⟩;rw [hw2];clear hw2 w2;have hil : i < r.length := by
     have := congrArg List.length hcut;simp at this;omega
    have e1 : (ByteArray.mk r.toArray).extract 0 i = ByteArray.mk (r.take i).toArray := by rw [Zhv]; simp
    have e2 : (ByteArray.mk r.toArray).extract (i + 1) r.length = ByteArray.mk (r.drop (i + 1)).toArray := by rw [Zhv, List.take_of_length_le (by simp)]
    have HS2 : Hid ((ds ++ [r.take i]) ++ Lib.splitK [32] 0 (N - 1 - (ds ++ [r.take i]).length) (r.drop (i + 1)) = Lib.splitK [32] 0 (N - 1) s) := by
     show _ = _;rw [← HS.out, List.append_assoc]
     congr 1
     conv => rhs; rw [show N - 1 - ds.length = (N - 1 - (ds ++ [r.take i]).length) + 1 by simp; omega]; unfold Lib.splitK
     rw [Je, hi, if_neg (by simp)];simp
    have dn : ¬ ((i : Int) < 0) := by omega
    have f0 := hrow.frozenAt ds.length;have c0 : wr.cell? ⟨w.heap.size, ds.length, none⟩ = some (.string ⟨#[]⟩) := by
     rw [hrow.cellAt ds.length (by omega)]; exact Zaz (by omega)
    have hst := (hrow.stored ds.length (.string ⟨(r.take i).toArray⟩)).1;rw [Zcb (by omega)] at hst;have g6 := Ya hgr (a := ⟨w.heap.size, ds.length, none⟩) (Nat.le_refl _) (.string ⟨(r.take i).toArray⟩);have cs := Zv;have HR6 : Hid _ := hst;have HG6 : Hid _ := g6;have HIL : Hid _ := hil;clear hi hbl HS hcut hst g6 hrow hgr;go_wp2_with fail;go_roundw
    case rel => exact ⟨ds ++ [r.take i], r.drop (i + 1), rfl, by first | rfl | go_num | (simp; done), by first | omega | (simp; done) | (simp; omega), by first | omega | (simp; done) | (simp; omega), HS2, HR6.out, HG6.out⟩
    case measure => simp [intOf]; omega
  ·have hltz : ¬ ((ds.length : Int) < (N : Int) - 1) := by omega
   have HW : Hid (Lib.splitK [32] 0 (N - 1) s = ds ++ [r]) := by
    show _ = _;rw [← HS.out, show N - 1 - ds.length = 0 by omega];rfl
   clear HS;have f0 := hrow.frozenAt ds.length;have c0 : wr.cell? ⟨w.heap.size, ds.length, none⟩ = some (.string ⟨#[]⟩) := by
    rw [hrow.cellAt ds.length (by omega)]; exact Zaz (by omega)
   have hst := (hrow.stored ds.length (.string ⟨r.toArray⟩)).1;rw [Zcb (by omega)] at hst;have g6 := Ya hgr (a := ⟨w.heap.size, ds.length, none⟩) (Nat.le_refl _) (.string ⟨r.toArray⟩);have HR6 : Hid _ := hst;have HG6 : Hid _ := g6;have hdN : (ds.length : Int) + 1 ≤ (N : Int) := by omega
   have cs := Zv;clear hst g6 hrow hgr;go_wp2_with fail;go_ret;have h6 : (wr.setCell ⟨w.heap.size, ds.length, none⟩ (.string ⟨r.toArray⟩)).ownsRow w.heap.size 9 1 (.slice (some ⟨w.heap.size, 0, none⟩) N N) N (Kb (ds ++ [r]) N) := HR6.out;have hln : (ds ++ [r]).length = ds.length + 1 := by simp
   refine ⟨⟨ds ++ [r], w.heap.size, N, by rw [← HW.out]; exact HPA.out, by rw [hln]; rfl, by rw [hln]; omega, fun j hj => ?_⟩, HG6.out⟩;rw [h6.cellAt j (by omega)];exact Zg6 hj
theorem Zl0 (IX : Zbv) (s : List UInt8) (w : World) (hs : s.length ≤ 140737488355328) :
  Calls Tryz.prog 27 #[.string ⟨s.toArray⟩, .string ⟨#[32]⟩, .int .i64 4] w fun r w' => Zud s r w' ∧ Zj w w' := by
 go_enter Tryz.func27, Tryz.ntmps27;go_wp2_with fail;refine (Zrw IX s w hs).mono ?_;rintro r w1 ⟨⟨ws, g, c, hP, rfl, hc, hcell⟩, g1⟩;go_wp2_with fail;go_ret;exact ⟨⟨ws, g, c, hP, rfl, hc, hcell⟩, g1⟩
theorem Zo5 (V : World → Prop) (IX : Zbv) : Zi9 V := fun s w _ hs => (Zl0 IX s w hs).mono fun _ _ ⟨⟨ws, g, c, h1, h2, h3, h4⟩, h5⟩ => ⟨ws, g, c, h1, h2, h3, h4, h5⟩
def Zyi (v : Value) : Prop := v = .nilIface ∨ ∃ te pe, v = .iface te pe
def Vl (w : World) : Prop := Lib.TabIs Tryz.prog w "internal/strconv.uint64pow10" .u64 Lib.pow10Tab ∧ (∃ ev, w.cell? ⟨3, 0, none⟩ = some ev ∧ Zyi ev) ∧ ∃ ev, w.cell? ⟨4, 0, none⟩ = some ev ∧ Zyi ev
theorem Zrp {w w' : World} {nm : String} {cs : Array Value} (h : w.var? Tryz.prog nm = some cs) (hg : Zj w w') : w'.var? Tryz.prog nm = some cs := by
 unfold World.var? at h ⊢;cases hn : Tryz.prog.globalNamed nm with
 | none => rw [hn] at h; cases h
 | some g =>
  rw [hn] at h;simp only [Option.bind_some] at h ⊢;cases hb : w.heap[g]? with
  | none => rw [hb] at h; cases h
  | some o => rw [(hg.block g (Zb hb)).trans hb, ← hb]; exact h
theorem Kr (w w' : World) (h : Vl w) (hg : Zj w w') : Vl w' := by
 obtain ⟨h1, ⟨e1, h2, h3⟩, e2, h4, h5⟩ := h;exact ⟨Zrp h1 hg, ⟨e1, (Below.cell hg (Zs h2)).trans h2, h3⟩, e2, (Below.cell hg (Zs h4)).trans h4, h5⟩
theorem Zqm (w : World) (k : Nat) (os : Array Obj) : Zj w («Sort».grow (w.drewN k) os) := by
 refine ⟨rfl, rfl, rfl, ?_, fun b hb => ?_⟩
 ·show w.heap.size ≤ (w.heap ++ os).size;simp
 ·show (w.heap ++ os)[b]? = w.heap[b]?;rw [Array.getElem?_append_left hb]
theorem Zku {w W : World} (h : Zj w W) {a : Addr} (ha : w.heap.size ≤ a.block) (n : Nat) : Zj w (W.freeze a n) := by
 unfold World.freeze;split
 ·exact h
 ·refine ⟨h.os, h.tape, h.output, by simpa using h.size, fun b hb => ?_⟩;show (W.heap.modify a.block _)[b]? = _;rw [Array.getElem?_modify, if_neg (by omega)];exact h.block b hb
theorem Znc (w : World) (t : ByteArray) : Zj w (Lib.bytesWorld w 5 t) := by
 unfold Lib.bytesWorld;exact Zku ((Zj.refl w).drew.trans (Zd w.drew _)) (Nat.le_refl _) 1
theorem Zx4 : Zdn Vl := fun n w hw h0 h1 => (Tryz.strconv_Itoa n h0 h1 w hw.1).mono fun _ w' ⟨he, k, os, hw'⟩ => ⟨he, by rw [hw']; exact Zqm w k os⟩
theorem Zv7 {s : List UInt8} {v : Int} (h : Lib.atoiAll s = .ok v) : -9223372036854775808 ≤ v ∧ v ≤ 9223372036854775807 := by
 unfold Lib.atoiAll at h;split at h
 ·cases h
 ·simp only at h;split at h
  ·cases h
  ·cases h
  ·split at h
   ·cases h
   ·split at h
    ·cases h
    ·rename_i h1 h2;cases h;split <;> simp_all <;> omega
theorem Zyb : Zdp Vl := by
 intro s w hw hs;obtain ⟨-, ⟨e1, h2, h3⟩, e2, h4, h5⟩ := hw;have hsz : (ByteArray.mk s.toArray).size = s.length := by simp [ByteArray.size]
 have hdl : (ByteArray.mk s.toArray).data.toList = s := by simp
 cases h : Lib.atoiAll s with
 | ok v =>
  refine (Tryz.strconv_Atoi_ok ⟨s.toArray⟩ (by rw [hsz]; omega) v (by rw [hdl]; exact h) w).mono ?_;rintro r w' ⟨rfl, hw'⟩;refine ⟨⟨v, .nilIface, rfl, .inl ⟨rfl, rfl, Zv7 h⟩⟩, ?_⟩;rcases hw' with rfl | ⟨t, rfl⟩
  ·exact Zj.refl _
  ·exact Znc w t
 | «syntax» =>
  refine (Tryz.strconv_Atoi_syntax ⟨s.toArray⟩ (by rw [hsz]; omega) (by rw [hdl]; exact h) e1 w h2 h3).mono ?_;rintro r w' ⟨N, rfl, -, -, hg⟩;exact ⟨⟨_, _, rfl, .inr ⟨(fun v h => by cases h), _, _, rfl⟩⟩, hg⟩
 | range =>
  refine (Tryz.strconv_Atoi_range ⟨s.toArray⟩ (by rw [hsz]; omega) (by rw [hdl]; exact h) e2 w h4 h5).mono ?_;rintro r w' ⟨N, rfl, -, -, hg⟩;exact ⟨⟨_, _, rfl, .inr ⟨(fun v h => by cases h), _, _, rfl⟩⟩, hg⟩
theorem Zxe : Zgj := fun c w => (Tryz.strings_IndexByte ⟨#[48, 49, 50, 51, 52, 53, 54, 55, 56, 57, 97, 98, 99, 100, 101, 102]⟩ (c.toNat : Int) w).mono fun r w' ⟨he, hw'⟩ => by
 have h1 : ((c.toNat : Int).toNat.toUInt8) = c := by simp
 rw [h1] at he;exact ⟨by rw [he, ← Zna c]; rfl, by rw [hw']; exact Zj.refl _⟩
theorem Zql : Zbv := fun s w => (Tryz.strings_Index_one ⟨s.toArray⟩ 32 w).mono fun _ _ ⟨he, hw'⟩ => ⟨by rw [he], hw'⟩
theorem Zwu : Zi9 Vl := Zo5 Vl Zql
theorem tRT : Zi8 Vl := Zux Vl Kr Zx4 Zyb Zxe Zwu
theorem Zk4 (args : Array Value) (w : World) : (callFunc 67 args).run Tryz.prog w = .ok (.enter 67 args) w := by
 simp [callFunc, Tryz.func67, Tryz.f67, mark]
theorem Ziy (args : Array Value) (w : World) : (callFunc 130 args).run Tryz.prog w = .ok (.enter 130 args) w := by
 simp [callFunc, Tryz.func130, Tryz.f130, mark]
theorem Zk8 (args : Array Value) (w : World) : (callFunc 132 args).run Tryz.prog w = .ok (.enter 132 args) w := by
 simp [callFunc, Tryz.func132, Tryz.f132, mark]
theorem Zk7 (args : Array Value) (w : World) : (callFunc 133 args).run Tryz.prog w = .ok (.enter 133 args) w := by
 simp [callFunc, Tryz.func133, Tryz.f133, mark]
theorem Zk6 (args : Array Value) (w : World) : (callFunc 134 args).run Tryz.prog w = .ok (.enter 134 args) w := by
 simp [callFunc, Tryz.func134, Tryz.f134, mark]
theorem Zs6 (x : Ent) (a : Option Addr) (c : Nat) (w : World) : Calls Tryz.prog 67 #[.agg #[.int .i64 x.rc.kind, .int .i64 x.rc.key, .int .i64 x.rc.ver, .slice a x.rc.data.length c, .int .i64 x.pair]] w fun e w' => e = .returned (.bool true) ∧ Zj w w' := by
 have g0 := Zd w (.cells #[.int .i64 x.rc.kind, .int .i64 x.rc.key, .int .i64 x.rc.ver, .slice a x.rc.data.length c, .int .i64 x.pair] 61);go_enter Tryz.func67, Tryz.ntmps67;go_wp2_with fail;go_ret;exact ⟨rfl, g0⟩
theorem Zqx (x : Ent) (a : Option Addr) (c : Nat) (p : Int) (g : Nat) (w : World) (hp : w.heap[g]? = some (.cells #[.int .i64 p] 3 (0, 0))) : Calls Tryz.prog 130 #[.agg #[.int .i64 x.rc.kind, .int .i64 x.rc.key, .int .i64 x.rc.ver, .slice a x.rc.data.length c, .int .i64 x.pair], .pointer (some ⟨g, 0, none⟩)] w fun e w' => e = .returned (.bool (x.pair != p)) ∧ Zj w w' := by
 have g0 := Zd w (.cells #[.int .i64 x.rc.kind, .int .i64 x.rc.key, .int .i64 x.rc.ver, .slice a x.rc.data.length c, .int .i64 x.pair] 61);have y0 := Zh ((g0.block _ (Zb hp)).trans hp) 0 _ rfl;go_enter Tryz.func130, Tryz.ntmps130;go_wp2_with fail;go_ret;exact ⟨rfl, g0⟩
theorem Zua (x e : Ent) (a b : Option Addr) (c d : Nat) (g : Nat) (w : World) (hne : x.pair ≠ e.pair) (hp : w.heap[g]? = some (.cells #[.int .i64 e.rc.kind, .int .i64 e.rc.key, .int .i64 e.rc.ver, .slice b e.rc.data.length d, .int .i64 e.pair] 61 (0, 0))) : Calls Tryz.prog 132 #[.agg #[.int .i64 x.rc.kind, .int .i64 x.rc.key, .int .i64 x.rc.ver, .slice a x.rc.data.length c, .int .i64 x.pair], .pointer (some ⟨g, 0, none⟩)] w fun e w' => e = .returned (.bool false) ∧ Zj w w' := by
 have g0 := Zd w (.cells #[.int .i64 x.rc.kind, .int .i64 x.rc.key, .int .i64 x.rc.ver, .slice a x.rc.data.length c, .int .i64 x.pair] 61);have y4 := Zh ((g0.block _ (Zb hp)).trans hp) 4 _ rfl;have d0 : (x.pair == e.pair) = false := by simp [hne]
 clear hne;go_enter Tryz.func132, Tryz.ntmps132;go_wp2_with fail;go_ret;exact ⟨rfl, g0⟩
theorem Zt9 (x e : Ent) (a b : Option Addr) (c d : Nat) (g : Nat) (w : World) (hp : w.heap[g]? = some (.cells #[.int .i64 e.rc.kind, .int .i64 e.rc.key, .int .i64 e.rc.ver, .slice b e.rc.data.length d, .int .i64 e.pair] 61 (0, 0))) : Calls Tryz.prog 133 #[.agg #[.int .i64 x.rc.kind, .int .i64 x.rc.key, .int .i64 x.rc.ver, .slice a x.rc.data.length c, .int .i64 x.pair], .pointer (some ⟨g, 0, none⟩)] w fun r w' => r = .returned (.bool (Yv x e)) ∧ Zj w w' := by
 have g0 := Zd w (.cells #[.int .i64 x.rc.kind, .int .i64 x.rc.key, .int .i64 x.rc.ver, .slice a x.rc.data.length c, .int .i64 x.pair] 61);have hp1 := (g0.block _ (Zb hp)).trans hp;obtain ⟨y0, y1, y2, y3, y4⟩ := Kl hp1 rfl rfl rfl rfl rfl;have hx1 := Zk w #[.int .i64 x.rc.kind, .int .i64 x.rc.key, .int .i64 x.rc.ver, .slice a x.rc.data.length c, .int .i64 x.pair] 61;obtain ⟨x0, x1, x2, x3, x4⟩ := Kl hx1 rfl rfl rfl rfl rfl;clear hp hp1 hx1;obtain ⟨R, hR⟩ : ∃ R, R = Yv x e := ⟨_, rfl⟩;rw [← hR];have HR : Hid _ := hR;clear hR;go_enter Tryz.func133, Tryz.ntmps133;go_wp2_with fail;refine (Zbk x e _ _ _ _ _).mono ?_;rintro r w1 ⟨rfl, g1⟩;have gE := g0.trans g1;have HO : Hid (decide (Zd1 x e < 0) = R) := by show _ = _; rw [Zod, HR.out]
 clear g0 g1 x0 x1 x2 x3 x4 y0 y1 y2 y3 y4;generalize Zd1 x e = o at *;go_wp2_with fail;go_ret;exact ⟨by rw [← HO.out]; rfl, gE⟩
theorem Zt8 (x e : Ent) (a b : Option Addr) (c d : Nat) (g : Nat) (w : World) (hp : w.heap[g]? = some (.cells #[.int .i64 e.rc.kind, .int .i64 e.rc.key, .int .i64 e.rc.ver, .slice b e.rc.data.length d, .int .i64 e.pair] 61 (0, 0))) : Calls Tryz.prog 134 #[.agg #[.int .i64 x.rc.kind, .int .i64 x.rc.key, .int .i64 x.rc.ver, .slice a x.rc.data.length c, .int .i64 x.pair], .pointer (some ⟨g, 0, none⟩)] w fun r w' => r = .returned (.bool (Yv e x)) ∧ Zj w w' := by
 have g0 := Zd w (.cells #[.int .i64 x.rc.kind, .int .i64 x.rc.key, .int .i64 x.rc.ver, .slice a x.rc.data.length c, .int .i64 x.pair] 61);have hp1 := (g0.block _ (Zb hp)).trans hp;obtain ⟨y0, y1, y2, y3, y4⟩ := Kl hp1 rfl rfl rfl rfl rfl;have hx1 := Zk w #[.int .i64 x.rc.kind, .int .i64 x.rc.key, .int .i64 x.rc.ver, .slice a x.rc.data.length c, .int .i64 x.pair] 61;obtain ⟨x0, x1, x2, x3, x4⟩ := Kl hx1 rfl rfl rfl rfl rfl;clear hp hp1 hx1;obtain ⟨R, hR⟩ : ∃ R, R = Yv e x := ⟨_, rfl⟩;rw [← hR];have HR : Hid _ := hR;clear hR;go_enter Tryz.func134, Tryz.ntmps134;go_wp2_with fail;refine (Zbk x e _ _ _ _ _).mono ?_;rintro r w1 ⟨rfl, g1⟩;have gE := g0.trans g1;have HO : Hid (decide (0 < Zd1 x e) = R) := by show _ = _; rw [Zvo, HR.out]
 clear g0 g1 x0 x1 x2 x3 x4 y0 y1 y2 y3 y4;generalize Zd1 x e = o at *;go_wp2_with fail;go_ret;exact ⟨by rw [← HO.out]; rfl, gE⟩
theorem Zst (S : Nat → Prop) (l : List Ent) (v : Value) (w : World) (hl : Yp S w v l) (hn : l.length ≤ 1000000) (h8 : ∀ x ∈ l, x.rc.data.length ≤ 8) :
  Calls Tryz.prog 43 #[v] w fun e w' => ∃ v' css, e = .returned v' ∧ Yo Ys NoS w.heap.size v' l css w' ∧ Zj w w' := by
 obtain ⟨ao, cp, rfl⟩ := hl.form;go_enter Tryz.func43, Tryz.ntmps43;go_wp2_with fail;refine (Zai 67 #[] (fun _ => true) S l _ w Zk4 hl hn h8 (fun x a c w' _ _ => by rw [Array.append_empty]; exact Zs6 x a c w')).mono ?_;rw [List.filter_eq_self.2 (fun _ _ => rfl)];rintro e w1 ⟨v', css, rfl, hR, g1⟩;obtain ⟨a1, c1, rfl⟩ := hR.form;go_wp2_with fail;go_ret;exact ⟨_, _, rfl, hR, g1⟩
theorem Yo.less {α : Type} {sh : Xz α} {S0 : Nat → Prop} {B B' : Nat} {v : Value} {xs : List α} {css : List (List Value)} {w : World} (h : Yo sh S0 B v xs css w) (hb : B' ≤ B) : Yo sh S0 B' v xs css w :=
 ⟨h.len, fun i hi => (h.each i hi).imp fun _ x => ⟨x.1, sh.mono x.2 fun _ k => Xh k (fun y => y) fun y => ⟨Nat.le_trans hb y.1, y.2⟩⟩, Yi h.row hb⟩
theorem Zpr (S : Nat → Prop) (l : List Ent) (p : Int) (v : Value) (w : World) (hl : Yp S w v l) (hn : l.length ≤ 1000000) (h8 : ∀ x ∈ l, x.rc.data.length ≤ 8) :
  Calls Tryz.prog 97 #[v, .int .i64 p] w fun e w' => ∃ v' css, e = .returned v' ∧ Yo Ys NoS w.heap.size v' (l.filter fun x => x.pair != p) css w' ∧ Zj w w' := by
 obtain ⟨ao, cp, rfl⟩ := hl.form;have g0 := Zd w (.cells #[.int .i64 p] 3);have hp := Zk w #[.int .i64 p] 3;have s0 := World.size_alloc w (.cells #[.int .i64 p] 3);go_enter Tryz.func97, Tryz.ntmps97;go_wp2_with fail;refine (Zai 130 #[.pointer (some ⟨w.heap.size, 0, none⟩)] (fun x => x.pair != p) S l _ _ Ziy (hl.grow g0) hn h8 (fun x a c w' _ hg => Zqx x a c p _ w' ((hg.block _ (Zb hp)).trans hp))).mono ?_;rintro e w1 ⟨v', css, rfl, hR, g1⟩;have hR2 := hR.less (B' := w.heap.size) (by rw [s0]; omega);have gE := g0.trans g1;obtain ⟨a1, c1, rfl⟩ := hR.form;clear hR g0 g1 hp s0;go_wp2_with fail;go_ret;exact ⟨_, _, rfl, hR2, gE⟩
theorem Zm7 (K : Nat) (caps : Array Value) (S : Nat → Prop) (l : List Ent) (v : Value) (w : World) (hK : ∀ (args : Array Value) (w : World), (callFunc K args).run Tryz.prog w = .ok (.enter K args) w) (hl : Yp S w v l) (hn : l.length ≤ 1000000)
  (hc : ∀ (x : Ent) (a : Option Addr) (c : Nat) (w' : World), x ∈ l → Zj w w' → Calls Tryz.prog K (#[.agg #[.int .i64 x.rc.kind, .int .i64 x.rc.key, .int .i64 x.rc.ver, .slice a x.rc.data.length c, .int .i64 x.pair]] ++ caps) w' fun e w2 => e = .returned (.bool false) ∧ Zj w' w2) :
  Calls Tryz.prog 160 #[v, .func (.func K) #[] caps] w fun e w' => e = .returned (.int .i64 (-1)) ∧ Zj w w' := by
 obtain ⟨ao, cp, rfl⟩ := hl.form;go_enter Tryz.func160, Tryz.ntmps160;go_wp2_with fail;go_loopw [8] (fun i wr => ∃ k : Nat, k ≤ l.length ∧ i = .int .i64 k ∧ Zj w wr) (fun i _ => l.length - (intOf i).toNat)
 case atStart => exact ⟨0, Nat.zero_le _, rfl, Zj.refl _⟩
 case round =>
  obtain ⟨k, hk, rfl, hg⟩ := hrel;by_cases hlt : k < l.length
  ·obtain ⟨b, off, a1, c1, hv1, q0, q1, q2, q3, q4, hu⟩ := Zbr (hl.grow hg) k hlt;cases hv1;have HM : Hid (l[k] ∈ l) := List.getElem_mem hlt;generalize l[k] = x at *;clear hu;go_wp2_with fail;refine (hc x a1 c1 _ HM.out hg).mono ?_;rintro e w2 ⟨rfl, g2⟩;have gw := hg.trans g2;clear g2 hg q0 q1 q2 q3 q4;go_wp2_with fail;go_roundw
   case rel => exact ⟨k + 1, by omega, by go_num, gw⟩
   case measure => simp [intOf]; omega
  ·go_wp2_with fail;go_ret;exact ⟨rfl, hg⟩
theorem Zgq (K : Nat) (caps : Array Value) (S : Nat → Prop) (l : List Ent) (v : Value) (w : World) (hK : ∀ (args : Array Value) (w : World), (callFunc K args).run Tryz.prog w = .ok (.enter K args) w) (hl : Yp S w v l) (hn : l.length ≤ 1000000)
  (hc : ∀ (x : Ent) (a : Option Addr) (c : Nat) (w' : World), x ∈ l → Zj w w' → Calls Tryz.prog K (#[.agg #[.int .i64 x.rc.kind, .int .i64 x.rc.key, .int .i64 x.rc.ver, .slice a x.rc.data.length c, .int .i64 x.pair]] ++ caps) w' fun e w2 => e = .returned (.bool false) ∧ Zj w' w2) :
  Calls Tryz.prog 131 #[v, .func (.func K) #[] caps] w fun e w' => e = .returned (.bool false) ∧ Zj w w' := by
 go_enter Tryz.func131, Tryz.ntmps131;go_wp2_with fail;refine (Zm7 K caps S l v w hK hl hn hc).mono ?_;rintro e w1 ⟨rfl, g1⟩;clear hl hc;go_wp2_with fail;go_ret;exact ⟨rfl, g1⟩
end Go.Proofs.YtgaecpdokgklpadGreatDoor
