import Derived.Test.YtpdnapbchcdhladGreatDoorShelf
import Derived.Test.YtpdnapbchcdhladGreatDoorTParse2
set_option maxHeartbeats 8000000
namespace Go.Proofs.YtpdnapbchcdhladGreatDoor
set_option maxRecDepth 100000
open Go.RowKit
open Plain Reg
variable {ds : List (List UInt8)} {n : Nat}
def Zb7 : Prop := ∀ (s : List UInt8) (w : World),
 Calls Tryz.prog 94 #[.string ⟨s.toArray⟩, .string ⟨#[32]⟩] w fun r w' => r = .returned (.int .i64 (Lib.indexByte s 32)) ∧ w' = w
theorem Zsg : (Tryz.prog.info? 9).map (fun i => (i.zero, i.size, i.bytes)) = some (some (.string ⟨#[]⟩), 1, 16) := by kernel_rfl
def Kn (ds : List (List UInt8)) (n : Nat) : List Value := ds.map (fun x => .string ⟨x.toArray⟩) ++ List.replicate (n - ds.length) (.string ⟨#[]⟩)
theorem Zco (h : ds.length < n) (x : List UInt8) : (Kn ds n).set ds.length (.string ⟨x.toArray⟩) = Kn (ds ++ [x]) n := by
 unfold Kn;rw [show n - ds.length = (n - (ds ++ [x]).length) + 1 by simp; omega, List.replicate_succ, List.set_append_right _ _ (by simp)];simp
theorem Zh9 {i : Nat} (h : i < ds.length) : (Kn ds n)[i]? = some (.string ⟨ds[i].toArray⟩) := by
 unfold Kn;rw [List.getElem?_append_left (by simpa using h)];simp [h]
theorem Zbb (h : ds.length < n) : (Kn ds n)[ds.length]? = some (.string ⟨#[]⟩) := by
 unfold Kn;rw [List.getElem?_append_right (by simp), List.length_map, Nat.sub_self, show n - ds.length = (n - ds.length - 1) + 1 by omega, List.replicate_succ];rfl
def Zws (s : List UInt8) (r : Ending) (w' : World) : Prop := ∃ (ws : List (List UInt8)) (g c : Nat), Zm5 s ws ∧ r = .returned (.slice (some ⟨g, 0, none⟩) ws.length c) ∧ ws.length ≤ c ∧ ∀ (i : Nat) (h : i < ws.length), w'.cell? ⟨g, i, none⟩ = some (.string ⟨ws[i].toArray⟩)
theorem Zt2 (IX : Zb7) (s : List UInt8) (w : World) (hs : s.length ≤ 140737488355328) :
  Calls Tryz.prog 55 #[.string ⟨s.toArray⟩, .string ⟨#[32]⟩, .int .i64 0, .int .i64 4] w fun r w' => Zws s r w' ∧ Zj w w' := by
 obtain ⟨N, hN⟩ : ∃ N, N = min 4 (s.length + 1) := ⟨_, rfl⟩;have hmin : (if (s.length : Int) + 1 < 4 then (s.length : Int) + 1 else 4) = (N : Int) := by split <;> omega
 have hN1 : 1 ≤ N := by omega
 have hN4 : N ≤ 4 := by omega
 have HPA : Hid (Zm5 s (Lib.splitK [32] 0 (N - 1) s)) := by rw [hN]; exact Zlg s
 clear hN;obtain ⟨i0, hif, hz0, hz1, hz2⟩ := info_parts Zsg;go_enter Tryz.func55, Tryz.ntmps55;go_wp2_with (at_make; go_loud (refine wpList_make_full _ rfl _ _ 62 rfl w.heap.size 9 i0 (.string ⟨#[]⟩) 1 Tryz.underlying62 hif hz0 hz1 .i64 .i64 _ _ N rfl rfl (by first | exact hmin | rfl | (split at hmin <;> omega)) (by first | exact hmin | rfl | (split at hmin <;> omega)) (by rw [hz2]; omega) (by unfold maxLen; omega) (Nat.le_refl _) ?_; intro w1 hown1 hgrow1));have g1 : Zj w w1 := Yl (Zj.refl _) hgrow1 (fun k hk => by cases hk);clear hgrow1;rw [Nat.mul_one, show (Value.string ⟨#[]⟩).cells = #[Value.string ⟨#[]⟩] from rfl, toList_madeCells_one] at hown1;go_loopw [0, 10] (fun sv iv wr => ∃ (ds : List (List UInt8)) (r : List UInt8), sv = .string ⟨r.toArray⟩ ∧ iv = .int .i64 (ds.length : Int) ∧ ds.length ≤ N - 1 ∧ r.length ≤ s.length ∧ Hid (ds ++ Lib.splitK [32] 0 (N - 1 - ds.length) r = Lib.splitK [32] 0 (N - 1) s) ∧ wr.ownsRow w.heap.size 9 1 (.slice (some ⟨w.heap.size, 0, none⟩) N N) N (Kn ds N) ∧ Zj w wr) (fun _ iv _ => N - (intOf iv).toNat)
 case atStart => exact ⟨[], s, rfl, rfl, Nat.zero_le _, Nat.le_refl _, (by show _ = _; rfl), by simpa [Kn] using hown1, g1⟩
 case round =>
  clear hown1 g1;obtain ⟨ds, r, rfl, rfl, hd, hrl, HS, hrow, hgr⟩ := hrel;by_cases hlt : ds.length < N - 1
  ·have hltz : (ds.length : Int) < (N : Int) - 1 := by omega
   go_wp2_with fail;refine (IX r _).mono ?_;rcases Zdz r with ⟨hi, hbl⟩ | ⟨i, hi, hcut, hbl⟩
   ·rw [hi];rintro e w2 ⟨rfl, hw2⟩;rw [hw2];clear hw2 w2;have HW : Hid (Lib.splitK [32] 0 (N - 1) s = ds ++ [r]) := by
     show _ = _;rw [← HS.out]
     congr 1
     rw [show N - 1 - ds.length = (N - 1 - ds.length - 1) + 1 by omega];unfold Lib.splitK;rw [Jr, hi];rfl
    clear hi hbl HS;have f0 := hrow.frozenAt ds.length;have c0 : wr.cell? ⟨w.heap.size, ds.length, none⟩ = some (.string ⟨#[]⟩) := by
     rw [hrow.cellAt ds.length (by omega)]; exact Zbb (by omega)
    have hst := (hrow.stored ds.length (.string ⟨r.toArray⟩)).1;rw [Zco (by omega)] at hst;have g6 := Ya hgr (a := ⟨w.heap.size, ds.length, none⟩) (Nat.le_refl _) (.string ⟨r.toArray⟩);have HR6 : Hid _ := hst;have HG6 : Hid _ := g6;have hdN : (ds.length : Int) + 1 ≤ (N : Int) := by omega
    have cs := Zu;clear hst g6 hrow hgr;go_wp2_with fail;go_ret;have h6 : (wr.setCell ⟨w.heap.size, ds.length, none⟩ (.string ⟨r.toArray⟩)).ownsRow w.heap.size 9 1 (.slice (some ⟨w.heap.size, 0, none⟩) N N) N (Kn (ds ++ [r]) N) := HR6.out;have hln : (ds ++ [r]).length = ds.length + 1 := by simp
    refine ⟨⟨ds ++ [r], w.heap.size, N, by rw [← HW.out]; exact HPA.out, by rw [hln]; rfl, by rw [hln]; omega, fun j hj => ?_⟩, HG6.out⟩;rw [h6.cellAt j (by omega)];exact Zh9 hj
   ·rw [hi];rintro e w2 ⟨rfl, hw2⟩;rw [hw2];clear hw2 w2;have hil : i < r.length := by
     have := congrArg List.length hcut;simp at this;omega
    have e1 : (ByteArray.mk r.toArray).extract 0 i = ByteArray.mk (r.take i).toArray := by rw [Zi3]; simp
    have e2 : (ByteArray.mk r.toArray).extract (i + 1) r.length = ByteArray.mk (r.drop (i + 1)).toArray := by rw [Zi3, List.take_of_length_le (by simp)]
    have HS2 : Hid ((ds ++ [r.take i]) ++ Lib.splitK [32] 0 (N - 1 - (ds ++ [r.take i]).length) (r.drop (i + 1)) = Lib.splitK [32] 0 (N - 1) s) := by
     show _ = _;rw [← HS.out, List.append_assoc]
     congr 1
     conv => rhs; rw [show N - 1 - ds.length = (N - 1 - (ds ++ [r.take i]).length) + 1 by simp; omega]; unfold Lib.splitK
     rw [Jr, hi, if_neg (by simp)];simp
    have dn : ¬ ((i : Int) < 0) := by omega
    have f0 := hrow.frozenAt ds.length;have c0 : wr.cell? ⟨w.heap.size, ds.length, none⟩ = some (.string ⟨#[]⟩) := by
     rw [hrow.cellAt ds.length (by omega)]; exact Zbb (by omega)
    have hst := (hrow.stored ds.length (.string ⟨(r.take i).toArray⟩)).1;rw [Zco (by omega)] at hst;have g6 := Ya hgr (a := ⟨w.heap.size, ds.length, none⟩) (Nat.le_refl _) (.string ⟨(r.take i).toArray⟩);have cs := Zu;have HR6 : Hid _ := hst;have HG6 : Hid _ := g6;have HIL : Hid _ := hil;clear hi hbl HS hcut hst g6 hrow hgr;go_wp2_with fail;go_roundw
    case rel => exact ⟨ds ++ [r.take i], r.drop (i + 1), rfl, by first | rfl | go_num | (simp; done), by first | omega | (simp; done) | (simp; omega), by first | omega | (simp; done) | (simp; omega), HS2, HR6.out, HG6.out⟩
    case measure => simp [intOf]; omega
  ·have hltz : ¬ ((ds.length : Int) < (N : Int) - 1) := by omega
   have HW : Hid (Lib.splitK [32] 0 (N - 1) s = ds ++ [r]) := by
    show _ = _;rw [← HS.out, show N - 1 - ds.length = 0 by omega];rfl
   clear HS;have f0 := hrow.frozenAt ds.length;have c0 : wr.cell? ⟨w.heap.size, ds.length, none⟩ = some (.string ⟨#[]⟩) := by
    rw [hrow.cellAt ds.length (by omega)]; exact Zbb (by omega)
   have hst := (hrow.stored ds.length (.string ⟨r.toArray⟩)).1;rw [Zco (by omega)] at hst;have g6 := Ya hgr (a := ⟨w.heap.size, ds.length, none⟩) (Nat.le_refl _) (.string ⟨r.toArray⟩);have HR6 : Hid _ := hst;have HG6 : Hid _ := g6;have hdN : (ds.length : Int) + 1 ≤ (N : Int) := by omega
   have cs := Zu;clear hst g6 hrow hgr;go_wp2_with fail;go_ret;have h6 : (wr.setCell ⟨w.heap.size, ds.length, none⟩ (.string ⟨r.toArray⟩)).ownsRow w.heap.size 9 1 (.slice (some ⟨w.heap.size, 0, none⟩) N N) N (Kn (ds ++ [r]) N) := HR6.out;have hln : (ds ++ [r]).length = ds.length + 1 := by simp
   refine ⟨⟨ds ++ [r], w.heap.size, N, by rw [← HW.out]; exact HPA.out, by rw [hln]; rfl, by rw [hln]; omega, fun j hj => ?_⟩, HG6.out⟩;rw [h6.cellAt j (by omega)];exact Zh9 hj
theorem Zni (IX : Zb7) (s : List UInt8) (w : World) (hs : s.length ≤ 140737488355328) :
  Calls Tryz.prog 31 #[.string ⟨s.toArray⟩, .string ⟨#[32]⟩, .int .i64 4] w fun r w' => Zws s r w' ∧ Zj w w' := by
 go_enter Tryz.func31, Tryz.ntmps31;go_wp2_with fail;refine (Zt2 IX s w hs).mono ?_;rintro r w1 ⟨⟨ws, g, c, hP, rfl, hc, hcell⟩, g1⟩;go_wp2_with fail;go_ret;exact ⟨⟨ws, g, c, hP, rfl, hc, hcell⟩, g1⟩
theorem Zqy (V : World → Prop) (IX : Zb7) : Zkh V := fun s w _ hs => (Zni IX s w hs).mono fun _ _ ⟨⟨ws, g, c, h1, h2, h3, h4⟩, h5⟩ => ⟨ws, g, c, h1, h2, h3, h4, h5⟩
variable {w : World}
def Z1c (v : Value) : Prop := v = .nilIface ∨ ∃ te pe, v = .iface te pe
def Vb (w : World) : Prop := Lib.TabIs Tryz.prog w "internal/strconv.uint64pow10" .u64 Lib.pow10Tab ∧ (∃ ev, w.cell? ⟨3, 0, none⟩ = some ev ∧ Z1c ev) ∧ ∃ ev, w.cell? ⟨4, 0, none⟩ = some ev ∧ Z1c ev
theorem Ztv {w' : World} {nm : String} {cs : Array Value} (h : w.var? Tryz.prog nm = some cs) (hg : Zj w w') : w'.var? Tryz.prog nm = some cs := by
 unfold World.var? at h ⊢;cases hn : Tryz.prog.globalNamed nm with
 | none => rw [hn] at h; cases h
 | some g =>
  rw [hn] at h;simp only [Option.bind_some] at h ⊢;cases hb : w.heap[g]? with
  | none => rw [hb] at h; cases h
  | some o => rw [(hg.block g (Za hb)).trans hb, ← hb]; exact h
theorem K2 (w w' : World) (h : Vb w) (hg : Zj w w') : Vb w' := by
 obtain ⟨h1, ⟨e1, h2, h3⟩, e2, h4, h5⟩ := h;exact ⟨Ztv h1 hg, ⟨e1, (Below.cell hg (Zr h2)).trans h2, h3⟩, e2, (Below.cell hg (Zr h4)).trans h4, h5⟩
theorem Zsk (w : World) (k : Nat) (os : Array Obj) : Zj w («Sort».grow (w.drewN k) os) := by
 refine ⟨rfl, rfl, rfl, ?_, fun b hb => ?_⟩
 ·show w.heap.size ≤ (w.heap ++ os).size;simp
 ·show (w.heap ++ os)[b]? = w.heap[b]?;rw [Array.getElem?_append_left hb]
theorem Zl6 {W : World} (h : Zj w W) {a : Addr} (ha : w.heap.size ≤ a.block) (n : Nat) : Zj w (W.freeze a n) := by
 unfold World.freeze;split
 ·exact h
 ·refine ⟨h.os, h.tape, h.output, by simpa using h.size, fun b hb => ?_⟩;show (W.heap.modify a.block _)[b]? = _;rw [Array.getElem?_modify, if_neg (by omega)];exact h.block b hb
theorem Zoy (w : World) (t : ByteArray) : Zj w (Lib.bytesWorld w 5 t) := by
 unfold Lib.bytesWorld;exact Zl6 ((Zj.refl w).drew.trans (Zd w.drew _)) (Nat.le_refl _) 1
theorem Z0x : Zd6 Vb := fun n w hw h0 h1 => (Tryz.strconv_Itoa n h0 h1 w hw.1).mono fun _ w' ⟨he, k, os, hw'⟩ => ⟨he, by rw [hw']; exact Zsk w k os⟩
theorem Zyt {s : List UInt8} {v : Int} (h : Lib.atoiAll s = .ok v) : -9223372036854775808 ≤ v ∧ v ≤ 9223372036854775807 := by
 unfold Lib.atoiAll at h;split at h
 ·cases h
 ·simp only at h;split at h
  ·cases h
  ·cases h
  ·split at h
   ·cases h
   ·split at h
    ·cases h
    ·rename_i h1 h2;cases h;split <;> simp_all <;> omega
theorem Z04 : Zd8 Vb := by
 intro s w hw hs;obtain ⟨-, ⟨e1, h2, h3⟩, e2, h4, h5⟩ := hw;have hsz : (ByteArray.mk s.toArray).size = s.length := by simp [ByteArray.size]
 have hdl : (ByteArray.mk s.toArray).data.toList = s := by simp
 cases h : Lib.atoiAll s with
 | ok v =>
  refine (Tryz.strconv_Atoi_ok ⟨s.toArray⟩ (by rw [hsz]; omega) v (by rw [hdl]; exact h) w).mono ?_;rintro r w' ⟨rfl, hw'⟩;refine ⟨⟨v, .nilIface, rfl, .inl ⟨rfl, rfl, Zyt h⟩⟩, ?_⟩;rcases hw' with rfl | ⟨t, rfl⟩
  ·exact Zj.refl _
  ·exact Zoy w t
 | «syntax» =>
  refine (Tryz.strconv_Atoi_syntax ⟨s.toArray⟩ (by rw [hsz]; omega) (by rw [hdl]; exact h) e1 w h2 h3).mono ?_;rintro r w' ⟨N, rfl, -, -, hg⟩;exact ⟨⟨_, _, rfl, .inr ⟨(fun v h => by cases h), _, _, rfl⟩⟩, hg⟩
 | range =>
  refine (Tryz.strconv_Atoi_range ⟨s.toArray⟩ (by rw [hsz]; omega) (by rw [hdl]; exact h) e2 w h4 h5).mono ?_;rintro r w' ⟨N, rfl, -, -, hg⟩;exact ⟨⟨_, _, rfl, .inr ⟨(fun v h => by cases h), _, _, rfl⟩⟩, hg⟩
theorem Zz4 : Zhd := fun c w => (Tryz.strings_IndexByte ⟨#[48, 49, 50, 51, 52, 53, 54, 55, 56, 57, 97, 98, 99, 100, 101, 102]⟩ (c.toNat : Int) w).mono fun r w' ⟨he, hw'⟩ => by
 have h1 : ((c.toNat : Int).toNat.toUInt8) = c := by simp
 rw [h1] at he;exact ⟨by rw [he, ← Zox c]; rfl, by rw [hw']; exact Zj.refl _⟩
theorem Zsj : Zb7 := fun s w => (Tryz.strings_Index_one ⟨s.toArray⟩ 32 w).mono fun _ _ ⟨he, hw'⟩ => ⟨by rw [he], hw'⟩
theorem Zzh : Zkh Vb := Zqy Vb Zsj
theorem tRT : Zkg Vb := Zxd Vb K2 Z0x Z04 Zz4 Zzh
def Qu (x y : Int) : Int := if x < y then -1 else if y < x then 1 else 0
def Zek (x y : Ent) : Int := if Qu x.rc.key y.rc.key ≠ 0 then Qu x.rc.key y.rc.key else if Qu x.rc.ver y.rc.ver ≠ 0 then Qu x.rc.ver y.rc.ver else Qu x.pair y.pair
theorem Jv (x y : Int) : Qu x y = 0 ↔ x = y := by unfold Qu; split <;> (try split) <;> omega
theorem Zka (x y : Int) : Qu x y < 0 ↔ x < y := by unfold Qu; split <;> (try split) <;> omega
theorem Zkb (x y : Int) : 0 < Qu x y ↔ y < x := by unfold Qu; split <;> (try split) <;> omega
theorem Zp4 (x y : Ent) : (decide (Zek x y < 0)) = Yv x y := by
 rw [Bool.eq_iff_iff, decide_eq_true_eq];unfold Zek Yv;by_cases hk : x.rc.key = y.rc.key
 ·rw [if_neg (by simpa using (Jv _ _).2 hk), if_pos hk];by_cases hv : x.rc.ver = y.rc.ver
  ·rw [if_neg (by simpa using (Jv _ _).2 hv), if_pos hv, Zka, decide_eq_true_eq]
  ·rw [if_pos (fun h => hv ((Jv _ _).1 h)), if_neg hv, Zka, decide_eq_true_eq]
 ·rw [if_pos (fun h => hk ((Jv _ _).1 h)), if_neg hk, Zka, decide_eq_true_eq]
theorem Zx6 (x y : Ent) : (decide (0 < Zek x y)) = Yv y x := by
 rw [Bool.eq_iff_iff, decide_eq_true_eq];unfold Zek Yv;by_cases hk : x.rc.key = y.rc.key
 ·rw [if_neg (by simpa using (Jv _ _).2 hk), if_pos hk.symm];by_cases hv : x.rc.ver = y.rc.ver
  ·rw [if_neg (by simpa using (Jv _ _).2 hv), if_pos hv.symm, Zkb, decide_eq_true_eq]
  ·rw [if_pos (fun h => hv ((Jv _ _).1 h)), if_neg (fun h => hv h.symm), Zkb, decide_eq_true_eq]
 ·rw [if_pos (fun h => hk ((Jv _ _).1 h)), if_neg (fun h => hk h.symm), Zkb, decide_eq_true_eq]
theorem Zqp {P : Program} {w w' : World} {R : Value → World → Prop} {o : Oper} {ev : Operand → Value} {v : Value} (h : (execOp ev o).run P w = .ok (.value v) w') (hg : Zj w w') (hv : R v w') : upon P w R ((execOp ev o).run P w) := by
 rw [h]; exact ⟨hg, hv⟩
theorem Zam (x : Int) (w : World) : Calls Tryz.prog 130 #[.int .i64 x] w fun e w' => e = .returned (.bool false) ∧ w' = w := by
 have d0 : (x != x) = false := by simp
 go_enter Tryz.func130, Tryz.ntmps130;go_wp2_with fail;go_ret;exact ⟨rfl, rfl⟩
theorem Zj9 (x y : Int) (w : World) : Calls Tryz.prog 115 #[.int .i64 x, .int .i64 y] w fun e w' => e = .returned (.int .i64 (Qu x y)) ∧ w' = w := by
 by_cases h1 : x < y
 ·have HC : Hid (Qu x y = -1) := by show _ = _; unfold Qu; rw [if_pos h1]
  rw [HC.out];go_enter Tryz.func115, Tryz.ntmps115;go_wp2_with fail;refine (Zam _ _).mono ?_;rintro e w1 ⟨rfl, rfl⟩;go_wp2_with fail;refine (Zam _ _).mono ?_;rintro e w1 ⟨rfl, rfl⟩;go_wp2_with fail;go_ret;exact ⟨rfl, rfl⟩
 ·by_cases h2 : y < x
  ·have HC : Hid (Qu x y = 1) := by show _ = _; unfold Qu; rw [if_neg h1, if_pos h2]
   rw [HC.out];go_enter Tryz.func115, Tryz.ntmps115;go_wp2_with fail;refine (Zam _ _).mono ?_;rintro e w1 ⟨rfl, rfl⟩;go_wp2_with fail;refine (Zam _ _).mono ?_;rintro e w1 ⟨rfl, rfl⟩;go_wp2_with fail;go_ret;exact ⟨rfl, rfl⟩
  ·have HC : Hid (Qu x y = 0) := by show _ = _; unfold Qu; rw [if_neg h1, if_neg h2]
   rw [HC.out];go_enter Tryz.func115, Tryz.ntmps115;go_wp2_with fail;refine (Zam _ _).mono ?_;rintro e w1 ⟨rfl, rfl⟩;go_wp2_with fail;refine (Zam _ _).mono ?_;rintro e w1 ⟨rfl, rfl⟩;go_wp2_with fail;go_ret;exact ⟨rfl, rfl⟩
def orN : List Int → Int
 | [] => 0
 | v :: l => if v ≠ 0 then v else orN l
theorem Zzz (vs : List Int) (b cap : Nat) (w : World) (hn : vs.length ≤ 1000) (hc : ∀ (j : Nat) (h : j < vs.length), w.cell? ⟨b, j, none⟩ = some (.int .i64 vs[j])) :
  Calls Tryz.prog 114 #[.slice (some ⟨b, 0, none⟩) vs.length cap] w fun e w' => e = .returned (.int .i64 (orN vs)) ∧ Zj w w' := by
 obtain ⟨R, hR⟩ : ∃ R, R = orN vs := ⟨_, rfl⟩;rw [← hR];have HR : Hid _ := hR;clear hR;go_enter Tryz.func114, Tryz.ntmps114;go_wp2_with fail;go_loopw [8] (fun i wr => ∃ k : Nat, k ≤ vs.length ∧ i = .int .i64 k ∧ R = orN (vs.drop k) ∧ Zj w wr) (fun i _ => vs.length - (intOf i).toNat)
 case atStart => exact ⟨0, Nat.zero_le _, rfl, HR.out, Zj.refl _⟩
 case round =>
  obtain ⟨k, hk, rfl, hRk, hg⟩ := hrel;have HK : Hid (R = orN (vs.drop k)) := hRk;clear hRk;by_cases hlt : k < vs.length
  ·have q0 := (Below.cell hg (Zr (hc k hlt))).trans (hc k hlt);have HX : Hid (R = if vs[k] ≠ 0 then vs[k] else orN (vs.drop (k + 1))) := by show R = _; rw [HK.out, List.drop_eq_getElem_cons hlt]; rfl
   generalize vs[k] = x at *;clear HK;by_cases hx : x = 0
   ·have HY : Hid (R = orN (vs.drop (k + 1))) := by show R = _; rw [HX.out, if_neg (by simpa using hx)]
    have d0 : (x != 0) = false := by simp [hx]
    clear HX hx;go_wp2_with fail;go_roundw
    case rel => exact ⟨k + 1, by omega, by go_num, HY.out, hg⟩
    case measure => simp [intOf]; omega
   ·have HY : Hid (R = x) := by show R = _; rw [HX.out, if_pos hx]
    have d0 : (x != 0) = true := by simp [hx]
    clear HX hx;go_wp2_with fail;go_ret;exact ⟨by rw [HY.out]; rfl, hg⟩
  ·have HY : Hid (R = 0) := by show R = _; rw [HK.out, List.drop_eq_nil_of_le (by omega)]; rfl
   clear HK;go_wp2_with fail;go_ret;exact ⟨by rw [HY.out]; rfl, hg⟩
theorem Zvk (x y : Ent) : orN [Qu x.rc.key y.rc.key, Qu x.rc.ver y.rc.ver, Qu x.pair y.pair] = Zek x y := by
 unfold Zek;simp only [orN];split
 ·rfl
 ·split
  ·rfl
  ·split
   ·rfl
   ·rename_i h; exact (Decidable.of_not_not h).symm
def Zpg (n0 n1 n2 : Int) (v : Value) (w : World) : Prop := ∃ g, v = .slice (some ⟨g, 0, none⟩) 3 3 ∧ w.heap[g]? = some (.cells #[.int .i64 n0, .int .i64 n1, .int .i64 n2] 3 (0, 0))
theorem Zqx (n0 n1 n2 : Int) : X3 (Zpg n0 n1 n2) := by
 rintro v w w' hg ⟨g, h1, h2⟩; exact ⟨g, h1, (hg.block _ (Za h2)).trans h2⟩
theorem Zbw (x y : Ent) (a0 a1 : Option Addr) (c0 c1 : Nat) (w : World) :
  Calls Tryz.prog 69 #[.agg #[.int .i64 x.rc.kind, .int .i64 x.rc.key, .int .i64 x.rc.ver, .slice a0 x.rc.data.length c0, .int .i64 x.pair], .agg #[.int .i64 y.rc.kind, .int .i64 y.rc.key, .int .i64 y.rc.ver, .slice a1 y.rc.data.length c1, .int .i64 y.pair]] w fun e w' => e = .returned (.int .i64 (Zek x y)) ∧ Zj w w' := by
 have g0 := Zx w (.cells #[.int .i64 x.rc.kind, .int .i64 x.rc.key, .int .i64 x.rc.ver, .slice a0 x.rc.data.length c0, .int .i64 x.pair] 66) (.cells #[.int .i64 y.rc.kind, .int .i64 y.rc.key, .int .i64 y.rc.ver, .slice a1 y.rc.data.length c1, .int .i64 y.pair] 66);have hx0 := Zk w #[.int .i64 x.rc.kind, .int .i64 x.rc.key, .int .i64 x.rc.ver, .slice a0 x.rc.data.length c0, .int .i64 x.pair] 66;have hy0 := Zk (w.alloc (.cells #[.int .i64 x.rc.kind, .int .i64 x.rc.key, .int .i64 x.rc.ver, .slice a0 x.rc.data.length c0, .int .i64 x.pair] 66)) #[.int .i64 y.rc.kind, .int .i64 y.rc.key, .int .i64 y.rc.ver, .slice a1 y.rc.data.length c1, .int .i64 y.pair] 66;have hx1 := ((Zd (w.alloc (.cells #[.int .i64 x.rc.kind, .int .i64 x.rc.key, .int .i64 x.rc.ver, .slice a0 x.rc.data.length c0, .int .i64 x.pair] 66)) (.cells #[.int .i64 y.rc.kind, .int .i64 y.rc.key, .int .i64 y.rc.ver, .slice a1 y.rc.data.length c1, .int .i64 y.pair] 66)).block _ (Za hx0)).trans hx0;rw [World.size_alloc] at hy0;clear hx0;obtain ⟨R, hR⟩ : ∃ R, R = Zek x y := ⟨_, rfl⟩;rw [← hR];have HR : Hid _ := hR;clear hR;go_enter Tryz.func69, Tryz.ntmps69;go_wp2_with fail;generalize World.alloc (World.alloc w _) _ = W at *
 refine Zz [ex (.pointer (some ⟨w.heap.size, 0, none⟩)), ex (.pointer (some ⟨w.heap.size, 1, none⟩)), ex (.int .i64 x.rc.key), ex (.pointer (some ⟨w.heap.size + 1, 0, none⟩)), ex (.pointer (some ⟨w.heap.size + 1, 1, none⟩)), ex (.int .i64 y.rc.key), ex (.int .i64 (Qu x.rc.key y.rc.key)), ex (.pointer (some ⟨w.heap.size, 0, none⟩)), ex (.pointer (some ⟨w.heap.size, 2, none⟩)), ex (.int .i64 x.rc.ver), ex (.pointer (some ⟨w.heap.size + 1, 0, none⟩)), ex (.pointer (some ⟨w.heap.size + 1, 2, none⟩)), ex (.int .i64 y.rc.ver), ex (.int .i64 (Qu x.rc.ver y.rc.ver)), ex (.pointer (some ⟨w.heap.size, 4, none⟩)), ex (.int .i64 x.pair), ex (.pointer (some ⟨w.heap.size + 1, 4, none⟩)), ex (.int .i64 y.pair), ex (.int .i64 (Qu x.pair y.pair)), ((Zpg (Qu x.rc.key y.rc.key) (Qu x.rc.ver y.rc.ver) (Qu x.pair y.pair))), ex (.int .i64 R), ex (.int .i64 R)] (by kernel_rfl) (by kernel_rfl) ⟨Zg _, Zg _, Zg _, Zg _, Zg _, Zg _, Zg _, Zg _, Zg _, Zg _, Zg _, Zg _, Zg _, Zg _, Zg _, Zg _, Zg _, Zg _, Zg _, Zqx _ _ _, Zg _, Zg _, trivial⟩ ?_ ?_
 ·refine ⟨?_, ?_, ?_, ?_, ?_, ?_, ?_, ?_, ?_, ?_, ?_, ?_, ?_, ?_, ?_, ?_, ?_, ?_, ?_, ?_, ?_, ?_, trivial⟩
  ·refine Zb rfl fun a _ _ _ B A => ?_;have e2 : a (.tmp 2) = .pointer (some ⟨w.heap.size, 0, none⟩) := Zp A 2 rfl;refine Zi ?_ rfl;clear A B;go_simp;all_goals go_arith
  ·refine Zb rfl fun a _ _ _ B A => ?_;have e5 : a (.tmp 5) = _ := Zc A 0 rfl;refine Zi ?_ rfl;clear A B;go_simp;all_goals go_arith
  ·refine Zb rfl fun a _ _ _ B A => ?_;have e6 : a (.tmp 6) = _ := Zc A 1 rfl;have h1 := Ze ((B.block _ (Za hx1)).trans hx1) 1 _ rfl;refine Zi ?_ rfl;clear A B;go_simp;all_goals go_arith
  ·refine Zb rfl fun a _ _ _ B A => ?_;have e3 : a (.tmp 3) = .pointer (some ⟨w.heap.size + 1, 0, none⟩) := Zp A 3 rfl;refine Zi ?_ rfl;clear A B;go_simp;all_goals go_arith
  ·refine Zb rfl fun a _ _ _ B A => ?_;have e8 : a (.tmp 8) = _ := Zc A 3 rfl;refine Zi ?_ rfl;clear A B;go_simp;all_goals go_arith
  ·refine Zb rfl fun a _ _ _ B A => ?_;have e9 : a (.tmp 9) = _ := Zc A 4 rfl;have h1 := Ze ((B.block _ (Za hy0)).trans hy0) 1 _ rfl;refine Zi ?_ rfl;clear A B;go_simp;all_goals go_arith
  ·refine Zb rfl fun a B _ _ C A => ?_;have e7 : a (.tmp 7) = _ := Zc A 2 rfl;have e10 : a (.tmp 10) = _ := Zc A 5 rfl;refine Yj (f := 115) (args := #[.int .i64 x.rc.key, .int .i64 y.rc.key]) ?_ ((Zj9 _ _ B).mono ?_)
   ·clear A C;go_simp;all_goals go_arith
   ·rintro e w2 ⟨rfl, rfl⟩;exact ⟨_, rfl, Zj.refl _, rfl⟩
  ·refine Zb rfl fun a _ _ _ B A => ?_;have e2 : a (.tmp 2) = .pointer (some ⟨w.heap.size, 0, none⟩) := Zp A 2 rfl;refine Zi ?_ rfl;clear A B;go_simp;all_goals go_arith
  ·refine Zb rfl fun a _ _ _ B A => ?_;have e12 : a (.tmp 12) = _ := Zc A 7 rfl;refine Zi ?_ rfl;clear A B;go_simp;all_goals go_arith
  ·refine Zb rfl fun a _ _ _ B A => ?_;have e13 : a (.tmp 13) = _ := Zc A 8 rfl;have h1 := Ze ((B.block _ (Za hx1)).trans hx1) 2 _ rfl;refine Zi ?_ rfl;clear A B;go_simp;all_goals go_arith
  ·refine Zb rfl fun a _ _ _ B A => ?_;have e3 : a (.tmp 3) = .pointer (some ⟨w.heap.size + 1, 0, none⟩) := Zp A 3 rfl;refine Zi ?_ rfl;clear A B;go_simp;all_goals go_arith
  ·refine Zb rfl fun a _ _ _ B A => ?_;have e15 : a (.tmp 15) = _ := Zc A 10 rfl;refine Zi ?_ rfl;clear A B;go_simp;all_goals go_arith
  ·refine Zb rfl fun a _ _ _ B A => ?_;have e16 : a (.tmp 16) = _ := Zc A 11 rfl;have h1 := Ze ((B.block _ (Za hy0)).trans hy0) 2 _ rfl;refine Zi ?_ rfl;clear A B;go_simp;all_goals go_arith
  ·refine Zb rfl fun a B _ _ C A => ?_;have e14 : a (.tmp 14) = _ := Zc A 9 rfl;have e17 : a (.tmp 17) = _ := Zc A 12 rfl;refine Yj (f := 115) (args := #[.int .i64 x.rc.ver, .int .i64 y.rc.ver]) ?_ ((Zj9 _ _ B).mono ?_)
   ·clear A C;go_simp;all_goals go_arith
   ·rintro e w2 ⟨rfl, rfl⟩;exact ⟨_, rfl, Zj.refl _, rfl⟩
  ·refine Zb rfl fun a _ _ _ B A => ?_;have e2 : a (.tmp 2) = .pointer (some ⟨w.heap.size, 0, none⟩) := Zp A 2 rfl;refine Zi ?_ rfl;clear A B;go_simp;all_goals go_arith
  ·refine Zb rfl fun a _ _ _ B A => ?_;have e19 : a (.tmp 19) = _ := Zc A 14 rfl;have h1 := Ze ((B.block _ (Za hx1)).trans hx1) 4 _ rfl;refine Zi ?_ rfl;clear A B;go_simp;all_goals go_arith
  ·refine Zb rfl fun a _ _ _ B A => ?_;have e3 : a (.tmp 3) = .pointer (some ⟨w.heap.size + 1, 0, none⟩) := Zp A 3 rfl;refine Zi ?_ rfl;clear A B;go_simp;all_goals go_arith
  ·refine Zb rfl fun a _ _ _ B A => ?_;have e21 : a (.tmp 21) = _ := Zc A 16 rfl;have h1 := Ze ((B.block _ (Za hy0)).trans hy0) 4 _ rfl;refine Zi ?_ rfl;clear A B;go_simp;all_goals go_arith
  ·refine Zb rfl fun a B _ _ C A => ?_;have e20 : a (.tmp 20) = _ := Zc A 15 rfl;have e22 : a (.tmp 22) = _ := Zc A 17 rfl;refine Yj (f := 115) (args := #[.int .i64 x.pair, .int .i64 y.pair]) ?_ ((Zj9 _ _ B).mono ?_)
   ·clear A C;go_simp;all_goals go_arith
   ·rintro e w2 ⟨rfl, rfl⟩;exact ⟨_, rfl, Zj.refl _, rfl⟩
  ·refine Zb rfl fun a w' _ _ B A => ?_;have e11 : a (.tmp 11) = _ := Zc A 6 rfl;have e18 : a (.tmp 18) = _ := Zc A 13 rfl;have e23 : a (.tmp 23) = _ := Zc A 18 rfl;refine Zqp (v := .slice (some ⟨w'.heap.size, 0, none⟩) 3 3) (w' := w'.alloc (.cells #[.int .i64 (Qu x.rc.key y.rc.key), .int .i64 (Qu x.rc.ver y.rc.ver), .int .i64 (Qu x.pair y.pair)] 3)) ?_ (Zd _ _) ⟨_, rfl, Zk _ _ _⟩;clear A B;go_simp;all_goals go_arith
  ·refine Zb rfl fun a B _ _ C A => ?_;have e24 : ((Zpg (Qu x.rc.key y.rc.key) (Qu x.rc.ver y.rc.ver) (Qu x.pair y.pair))) (a (.tmp 24)) B := Zc A 19 rfl;obtain ⟨g, h24, h3⟩ := e24;refine Yj (f := 114) (args := #[.slice (some ⟨g, 0, none⟩) 3 3]) ?_ ((Zzz [Qu x.rc.key y.rc.key, Qu x.rc.ver y.rc.ver, Qu x.pair y.pair] g 3 B (by simp) (fun j hj => by
    have hj3 : j < 3 := hj
    match j, hj3 with
    | 0, _ => exact Ze h3 0 _ rfl
    | 1, _ => exact Ze h3 1 _ rfl
    | 2, _ => exact Ze h3 2 _ rfl)).mono ?_)
   ·clear A C h3;go_simp;all_goals go_arith
   ·rw [Zvk, ← HR.out];rintro e w2 ⟨rfl, g2⟩;exact ⟨_, rfl, g2, rfl⟩
  ·exact Zb rfl fun a _ _ _ _ A => Yk rfl (Zc A 20 rfl)
 ·intro vs w' hg ht;obtain ⟨(r5 : vs 0 = _), (r6 : vs 1 = _), (r7 : vs 2 = _), (r8 : vs 3 = _), (r9 : vs 4 = _), (r10 : vs 5 = _), (r11 : vs 6 = _), (r12 : vs 7 = _), (r13 : vs 8 = _), (r14 : vs 9 = _), (r15 : vs 10 = _), (r16 : vs 11 = _), (r17 : vs 12 = _), (r18 : vs 13 = _), (r19 : vs 14 = _), (r20 : vs 15 = _), (r21 : vs 16 = _), (r22 : vs 17 = _), (r23 : vs 18 = _), q24, (r25 : vs 20 = _), (r4 : vs 21 = _), -⟩ := ht;simp only [Z8, Act.put, List.setIfInBounds_toArray, List.set_cons_zero, List.set_cons_succ, r5, r6, r7, r8, r9, r10, r11, r12, r13, r14, r15, r16, r17, r18, r19, r20, r21, r22, r23, r25, r4];clear r5 r6 r7 r8 r9 r10 r11 r12 r13 r14 r15 r16 r17 r18 r19 r20 r21 r22 r23 r25 r4;have gE := g0.trans hg;clear q24 hg hx1 hy0 g0;go_wp2_with fail;go_ret;exact ⟨rfl, gE⟩
end Go.Proofs.YtpdnapbchcdhladGreatDoor
