import Derived.Test.YtpdnapbchcdhlacGreatProg
import Derived.Test.YtpdnapbchcdhlacGreatJReg
import Derived.WalkKit
import Derived.WalkSpells
import Derived.WalkLawsBesides
import Derived.Laws.BitsAllLaws
import Derived.Laws.AppendOwnNone
import Derived.Handy
set_option maxHeartbeats 8000000
namespace Go.Proofs.YtpdnapbchcdhlacGreat
set_option maxRecDepth 100000
open Go.RowKit
open Plain Reg
variable {a b : Int} {k : IntKind}
def Bytes (w : World) (v : Value) (l : List UInt8) : Prop :=
 (∃ ao cap, v = .slice ao 0 cap ∧ l = [] ∧ (ao = none → cap = 0)) ∨
 (∃ b off cap, v = .slice (some ⟨b, off, none⟩) l.length cap ∧ l.length ≤ cap ∧ ∀ (i : Nat) (h : i < l.length), w.cell? ⟨b, off + i, none⟩ = some (.int .u8 (l[i].toNat : Int)))
theorem Xk (h : a = b) : Ending.returned (.int k a) = .returned (.int k b) := by rw [h]
theorem Zfi (h : a = b) : Value.int k a = .int k b := by rw [h]
theorem Zzg (l : List UInt8) (b off cap : Nat) (w : World) (hm : l.length ≤ 140737488355328)
  (hc : ∀ (i : Nat) (h : i < l.length), w.cell? ⟨b, off + i, none⟩ = some (.int .u8 (l[i].toNat : Int))) :
  Calls Tryz.prog 168 #[.slice (some ⟨b, off, none⟩) l.length cap] w fun e w' => e = .returned (.int .i64 (Xh l)) ∧ w = w' := by
 go_enter Tryz.func168, Tryz.ntmps168;go_wp2
 go_loop [3, 8] (fun n i => ∃ k : Nat, k ≤ l.length ∧ i = .int .i64 k ∧ n = .int .i64 (Xh (l.take k))) (fun _ i => l.length - (intOf i).toNat)
 case atStart => exact ⟨0, Nat.zero_le _, rfl, rfl⟩
 case round =>
  obtain ⟨k, hk, rfl, rfl⟩ := hrel;have hs := Zam (l.take k);by_cases hlt : k < l.length
  ·have hcell := hc k hlt;have hb : l[k].toNat < 256 := UInt8.toNat_lt _;have HS : Hid (Xh (l.take (k + 1)) = (Xh (l.take k) * 131 + (l[k].toNat : Int) + 1) % 65521) := by rw [Zeb l k hlt]; exact Zfz _ _
   clear hc;go_wp2
   go_round
   case rel => exact ⟨k + 1, by omega, by go_num, Zfi (by rw [HS.out])⟩
   case measure => simp [intOf]; omega
  ·go_wp2;go_ret;exact ⟨Xk (by rw [List.take_of_length_le (by omega)]), rfl⟩
theorem Zzh (ao : Option Addr) (cap : Nat) (w : World) : Calls Tryz.prog 168 #[.slice ao 0 cap] w fun e w' => e = .returned (.int .i64 (Xh [])) ∧ w = w' := by
 go_enter Tryz.func168, Tryz.ntmps168;go_wp2
 go_loop [3, 8] (fun n i => n = .int .i64 3 ∧ i = .int .i64 0) (fun _ i => 0)
 case atStart => exact ⟨rfl, rfl⟩
 case round =>
  obtain ⟨rfl, rfl⟩ := hrel;go_wp2;go_ret;exact ⟨rfl, rfl⟩
theorem Zuv (l : List UInt8) (v : Value) (w : World) (hm : l.length ≤ 140737488355328) (h : Bytes w v l) :
  Calls Tryz.prog 168 #[v] w fun e w' => e = .returned (.int .i64 (Xh l)) ∧ w = w' := by
 rcases h with ⟨ao, cap, rfl, rfl, _⟩ | ⟨b, off, cap, rfl, _, hc⟩
 ·exact Zzh ao cap w
 ·exact Zzg l b off cap w hm hc
theorem Zt1 (l : List UInt8) (b off cap : Nat) (w : World) (hm : l.length ≤ 140737488355328)
  (hc : ∀ (i : Nat) (h : i < l.length), w.cell? ⟨b, off + i, none⟩ = some (.int .u8 (l[i].toNat : Int))) :
  Calls Tryz.prog 161 #[.slice (some ⟨b, off, none⟩) l.length cap] w fun e w' => e = .returned (.int .i64 (Xh l)) ∧ w = w' := by
 go_enter Tryz.func161, Tryz.ntmps161;go_wp2
 go_loop [3, 7] (fun n i => ∃ k : Nat, k ≤ l.length ∧ i = .int .i64 k ∧ n = .int .i64 (Xh (l.take k))) (fun _ i => l.length - (intOf i).toNat)
 case atStart => exact ⟨0, Nat.zero_le _, rfl, rfl⟩
 case round =>
  obtain ⟨k, hk, rfl, rfl⟩ := hrel;have hs := Zam (l.take k);by_cases hlt : k < l.length
  ·have hcell := hc k hlt;have hb : l[k].toNat < 256 := UInt8.toNat_lt _;have HS : Hid (Xh (l.take (k + 1)) = (Xh (l.take k) * 131 + (l[k].toNat : Int) + 1) % 65521) := by rw [Zeb l k hlt]; exact Zfz _ _
   clear hc;go_wp2
   go_round
   case rel => exact ⟨k + 1, by omega, by go_num, Zfi (by rw [HS.out, Int.mul_comm])⟩
   case measure => simp [intOf]; omega
  ·go_wp2;go_ret;exact ⟨Xk (by rw [List.take_of_length_le (by omega)]), rfl⟩
theorem Zt2 (ao : Option Addr) (cap : Nat) (w : World) : Calls Tryz.prog 161 #[.slice ao 0 cap] w fun e w' => e = .returned (.int .i64 (Xh [])) ∧ w = w' := by
 go_enter Tryz.func161, Tryz.ntmps161;go_wp2
 go_loop [3, 7] (fun n i => n = .int .i64 3 ∧ i = .int .i64 0) (fun _ i => 0)
 case atStart => exact ⟨rfl, rfl⟩
 case round =>
  obtain ⟨rfl, rfl⟩ := hrel;go_wp2;go_ret;exact ⟨rfl, rfl⟩
theorem Zk2 (l : List UInt8) (v : Value) (w : World) (hm : l.length ≤ 140737488355328) (h : Bytes w v l) :
  Calls Tryz.prog 161 #[v] w fun e w' => e = .returned (.int .i64 (Xh l)) ∧ w = w' := by
 rcases h with ⟨ao, cap, rfl, rfl, _⟩ | ⟨b, off, cap, rfl, _, hc⟩
 ·exact Zt2 ao cap w
 ·exact Zt1 l b off cap w hm hc
theorem Zpm (n : Int) (w : World) :
  Calls Tryz.prog 138 #[.int .i64 n] w fun e w' => e = .returned (.slice (some ⟨w.heap.size, 0, none⟩) 2 2) ∧ w' = w.alloc (.cells #[.int .u8 ((hi n).toNat : Int), .int .u8 ((lo n).toNat : Int)] 5) := by
 rw [Zg6, Kt];go_enter Tryz.func138, Tryz.ntmps138;go_wp2;go_ret;exact ⟨rfl, rfl⟩
theorem Zze (a b : Nat) (ha : a < 256) (hb : b < 256) : bits .or .i64 ((a : Int) * 256) (b : Int) = (a : Int) * 256 + (b : Int) := by
 have hx : a * 256 ||| b = a * 256 + b := nat_join 8 (a * 256) b (by omega) (by omega);have e1 : (BitVec.ofInt 64 ((a * 256 : Nat) : Int)).toNat = a * 256 := by
  rw [BitVec.ofInt_natCast, BitVec.toNat_ofNat]; exact Nat.mod_eq_of_lt (by omega)
 have e2 : (BitVec.ofInt 64 (b : Int)).toNat = b := by
  rw [BitVec.ofInt_natCast, BitVec.toNat_ofNat]; exact Nat.mod_eq_of_lt (by omega)
 rw [show ((a : Int) * 256) = ((a * 256 : Nat) : Int) from by omega];show IntKind.i64.wrap ((BitVec.ofInt 64 ((a * 256 : Nat) : Int) ||| BitVec.ofInt 64 (b : Int)).toNat : Int) = _;rw [BitVec.toNat_or, e1, e2, hx, IntKind.wrap_i64];omega
theorem Zgm (a b : UInt8) (w : World) :
  Calls Tryz.prog 152 #[.int .u8 (a.toNat : Int), .int .u8 (b.toNat : Int)] w fun e w' => e = .returned (.int .i64 ((a.toNat : Int) * 256 + (b.toNat : Int))) ∧ w = w' := by
 have ha : a.toNat < 256 := UInt8.toNat_lt _;have hb : b.toNat < 256 := UInt8.toNat_lt _;go_enter Tryz.func152, Tryz.ntmps152;go_wp2;go_ret;exact ⟨Xk (Zze _ _ ha hb), rfl⟩
end Go.Proofs.YtpdnapbchcdhlacGreat
namespace Go.Proofs.YtpdnapbchcdhlacGreat
set_option maxRecDepth 100000
open Go.RowKit
open Plain Reg
variable {l : List UInt8} {v : Value} {w w' w1 w2 : World}
def bv (c : UInt8) : Value := .int .u8 (c.toNat : Int)
theorem Kf : (Tryz.prog.info? 5).map (fun i => (i.zero, i.size, i.bytes)) = some (some (.int .u8 0), 1, 1) := by kernel_rfl
theorem Yp (h : Bytes w v l) :
  ∃ ao cap, v = .slice ao l.length cap ∧ (ao = none → l.length = 0 ∧ cap = 0) ∧ (∀ ad, ao = some ad → ∀ (j : Nat) u, (l.map bv)[j]? = some u → w.cell? (ad.add j) = some u) := by
 rcases h with ⟨ao, cap, rfl, rfl, h0⟩ | ⟨b, off, cap, rfl, _, hc⟩
 ·exact ⟨ao, cap, rfl, fun h => ⟨rfl, h0 h⟩, fun ad _ j u hj => by simp at hj⟩
 ·refine ⟨_, cap, rfl, fun h => (by cases h), fun ad had j u hj => ?_⟩;cases had;rw [List.getElem?_map] at hj;by_cases hl : j < l.length
  ·simp only [List.getElem?_eq_getElem hl, Option.map_some, bv, Option.some.injEq] at hj;subst hj;have e : (⟨b, off, none⟩ : Addr).add j = ⟨b, off + j, none⟩ := by simp [Addr.add]
   rw [e];exact hc j hl
  ·rw [List.getElem?_eq_none (by omega)] at hj; cases hj
theorem Jv (l : List UInt8) : ∀ u ∈ l.map bv, u.oneCell' = true := by
 intro u hu;obtain ⟨c, _, rfl⟩ := List.mem_map.1 hu;rfl
theorem Z6 {row : Option Nat} (h : Zn w w1) (hg : w1.grownBy w2 row) (hr : ∀ k, row = some k → w.heap.size ≤ k) : Zn w w2 :=
 Below.grown h hg h.size hr
theorem Zv {p : Addr} (h : w.cell? p = some v) : p.block < w.heap.size := by
 rcases Nat.lt_or_ge p.block w.heap.size with hl | hl
 ·exact hl
 ·simp [World.cell?, Array.getElem?_eq_none hl] at h
theorem Z3 (h : Bytes w v l) (hg : Zn w w') : Bytes w' v l := by
 rcases h with h | ⟨b, off, cap, rfl, h1, hc⟩
 ·exact .inl h
 ·refine .inr ⟨b, off, cap, rfl, h1, fun i hi => ?_⟩;have h2 := hc i hi;rw [← h2];exact Below.cell hg (Zv h2)
theorem Qq {base : Nat} {e : TypeId} {n : Nat} (h : w.ownsRow base e 1 v n (l.map bv)) : Bytes w v l := by
 have hl : l.length = n := by simpa using h.1
 subst hl;rcases h.2 with ⟨rfl, h0⟩ | ⟨g, cap, cur, rfl, hb, hh, h1, h2, h3, h4⟩
 ·exact .inl ⟨none, 0, rfl, List.eq_nil_of_length_eq_zero h0, fun _ => rfl⟩
 ·refine .inr ⟨g, 0, cap, rfl, h1, fun i hi => ?_⟩;have := h.cellAt i (by omega);rw [Nat.zero_add, this];simp [hi, bv]
theorem Zf7 (l : List UInt8) : (Xq l).map bv = l.map bv ++ [.int .u8 ((hi (Xh l)).toNat : Int), .int .u8 ((lo (Xh l)).toNat : Int)] := by
 simp [Xq, bv]
theorem Zat (w : World) (x y : Value) (e : TypeId) (j : Nat) (u : Value) (h : [x, y][j]? = some u) : (w.alloc (.cells #[x, y] e)).cell? ((⟨w.heap.size, 0, none⟩ : Addr).add j) = some u := by
 match j, h with
 | 0, h => simp at h; subst h; simp [Addr.add]
 | 1, h => simp at h; subst h; simp [Addr.add]
 | j + 2, h => simp at h
theorem Zi2 (hg : w.grownBy w1 none) : Zn w w1 := Z6 (Zn.refl w) hg (fun k h => by cases h)
theorem Zl8 (h : Zn w w1) (hg : w1.grownBy w2 (some w.heap.size)) : Zn w w2 := Z6 h hg (fun k e => by cases e; exact Nat.le_refl _)
theorem Zb (w : World) (o : Obj) : Zn w (w.alloc o) := Below.alloc (Below.refl _ _) (Nat.le_refl _) o
theorem Ztr {ao : Option Addr} (h : ∀ ad, ao = some ad → ∀ (j : Nat) u, (l.map bv)[j]? = some u → w.cell? (ad.add j) = some u) (hg : Zn w w') :
  ∀ ad, ao = some ad → ∀ (j : Nat) u, (l.map bv)[j]? = some u → w'.cell? (ad.add j) = some u := by
 intro ad ha j u hj;have h2 := h ad ha j u hj;rw [← h2];exact Below.cell hg (Zv h2)
theorem Zty (l : List UInt8) (v : Value) (w : World) (hm : l.length ≤ 140737488355326) (h : Bytes w v l) :
  Calls Tryz.prog 139 #[v] w fun e w' => ∃ v', e = .returned v' ∧ w'.ownsRow w.heap.size 5 1 v' (l.length + 2) ((Xq l).map bv) ∧ Zn w w' := by
 rw [Zf7];obtain ⟨ao, cap, rfl, hnone, hcells⟩ := Yp h;obtain ⟨i0, hif, hz0, hz1, hz2⟩ := info_parts Kf;go_enter Tryz.func139, Tryz.ntmps139;go_wp2_with (first
  | (at_make; refine wpList_make_own _ rfl _ _ 45 rfl w.heap.size 5 i0 (.int .u8 0) 1 Tryz.underlying45 hif hz0 hz1 .i64 .i64 _ (l.length + 2) rfl rfl (by omega) (by rw [hz2]; omega) (by unfold maxLen; omega) (Nat.le_refl _) ?_; intro w1 hown1 hgrow1)
  | (at_builtin; refine wpList_append_fits_any _ rfl (.tmp 8) (.tmp 9) 45 rfl w.heap.size 5 i0 1 Tryz.underlying45 hif hz1 w.heap.size 0 (l.length + 2) [] rfl (by assumption) ao l.length cap (l.map bv) rfl (by simp) hnone (Ztr hcells (Zi2 hgrow1)) (Jv l) (by omega) ?_; intro w2 hown2 hgrow2))
 have g2 : Zn w w2 := Zl8 (Zi2 hgrow1) hgrow2;have hb2 : Bytes w2 (.slice ao l.length cap) l := Z3 h g2;simp only [Nat.zero_add, List.nil_append] at hown2;refine (Zuv l _ _ (by omega) hb2).mono ?_;rintro e w' ⟨rfl, rfl⟩;clear hown1 hgrow1 hgrow2 hcells h hb2;go_wp2_with fail;refine (Zpm _ _).mono ?_;rintro e w' ⟨rfl, rfl⟩;go_wp2_with (at_builtin; refine wpList_append_fits_any _ rfl (.tmp 11) (.tmp 14) 45 rfl w.heap.size 5 i0 1 Tryz.underlying45 hif hz1 w.heap.size l.length (l.length + 2) (l.map bv) rfl (hown2.alloc _) (some ⟨w2.heap.size, 0, none⟩) 2 2 [.int .u8 ((hi (Xh l)).toNat : Int), .int .u8 ((lo (Xh l)).toNat : Int)] rfl rfl (fun h => by cases h) ?c1 ?c2 (Nat.le_refl _) ?_; rotate_right; intro w3 hown3 hgrow3)
 ·go_ret;exact ⟨_, rfl, hown3, Zl8 (g2.trans (Zb w2 _)) hgrow3⟩
 ·intro ad had j u hj;cases had;exact Zat w2 _ _ _ j u hj
 ·intro u hu;simp at hu;rcases hu with rfl | rfl <;> rfl
theorem Zco (w : World) : (w.alloc (.cells #[] 5)).ownsRow w.heap.size 5 1 (.slice (some ⟨w.heap.size, 0, none⟩) 0 0) 0 [] :=
 ⟨rfl, .inr ⟨w.heap.size, 0, #[], rfl, Nat.le_refl _, by show (w.heap.push _)[w.heap.size]? = _; simp, Nat.le_refl _, by unfold maxLen; omega, rfl, rfl⟩⟩
theorem Znm (l : List UInt8) (ad : Addr) (cap : Nat) (w : World) (hm : l.length ≤ 140737488355326) (h : Bytes w (.slice (some ad) l.length cap) l)
  (hcells : ∀ (j : Nat) u, (l.map bv)[j]? = some u → w.cell? (ad.add j) = some u) :
  Calls Tryz.prog 125 #[.slice (some ad) l.length cap] w fun e w' => ∃ v', e = .returned v' ∧ w'.ownsRow w.heap.size 5 1 v' (l.length + 2) ((Xq l).map bv) ∧ Zn w w' := by
 rw [Zf7];have hs := Zam l;have e1 : ((hi (Xh l)).toNat : Int) = Xh l / 256 := by rw [Zg6]; omega
 have e2 : ((lo (Xh l)).toNat : Int) = Xh l % 256 := Kt _;rw [e1, e2];clear e1 e2;obtain ⟨i0, hif, hz0, hz1, hz2⟩ := info_parts Kf;go_enter Tryz.func125, Tryz.ntmps125;go_wp2_with fail;refine (Zk2 l _ _ (by omega) h).mono ?_;rintro e w' ⟨rfl, rfl⟩;have ho := Zco w;have hc1 : ∀ (j : Nat) u, (l.map bv)[j]? = some u → (w.alloc (.cells #[] 5)).cell? (ad.add j) = some u := by
  intro j u hj;have h2 := hcells j u hj;rw [← h2];exact Below.cell (Zb w _) (Zv h2)
 clear hcells h;go_wp2_with (first
  | (at_builtin; refine wpList_append_own _ rfl (.tmp 6) (.tmp 7) 45 rfl w.heap.size 5 i0 (.int .u8 0) 1 1 Tryz.underlying45 hif hz0 hz1 hz2 rfl (by decide) (.slice (some ⟨w.heap.size, 0, none⟩) 0 0) 0 [] rfl ho ad l.length cap (l.map bv) rfl (by simp) hc1 (Jv l) (by unfold maxLen; omega) (by omega) (by simp) ?_; intro v2 w2 hown2 hgrow2 _; simp only [Nat.zero_add, List.nil_append] at hown2)
  | (at_builtin; refine wpList_append_own _ rfl (.tmp 8) (.tmp 15) 45 rfl w.heap.size 5 i0 (.int .u8 0) 1 1 Tryz.underlying45 hif hz0 hz1 hz2 rfl (by decide) v2 l.length (l.map bv) rfl (hown2.alloc _) ⟨w2.heap.size, 0, none⟩ 2 2 [.int .u8 (Xh l / 256), .int .u8 (Xh l % 256)] rfl rfl (fun j u hj => Zat w2 _ _ _ j u hj) (by intro u hu; simp at hu; rcases hu with rfl | rfl <;> rfl) (by unfold maxLen; omega) (by omega) (by have := hgrow2.size; simp at this ⊢; omega) ?_; intro v3 w3 hown3 hgrow3 _))
 have g2 : Zn w w2 := Z6 (Zb w _) hgrow2 (fun k e => by simp [Value.ownBlock] at e; omega);have g3 : Zn w w3 := Z6 (g2.trans (Zb w2 _)) hgrow3 (fun k e => (hown2.lt k e).1);go_ret;exact ⟨_, rfl, hown3, g3⟩
theorem Znn (w : World) :
  Calls Tryz.prog 125 #[.slice none 0 0] w fun e w' => ∃ v', e = .returned v' ∧ w'.ownsRow w.heap.size 5 1 v' 2 ((Xq []).map bv) ∧ Zn w w' := by
 rw [show (Xq []).map bv = [.int .u8 0, .int .u8 3] from by kernel_rfl];obtain ⟨i0, hif, hz0, hz1, hz2⟩ := info_parts Kf;go_enter Tryz.func125, Tryz.ntmps125;go_wp2_with fail;refine (Zk2 [] _ _ (by simp) (.inl ⟨none, 0, rfl, rfl, fun _ => rfl⟩)).mono ?_;rw [Zqt];rintro e w' ⟨rfl, rfl⟩;have ho := Zco w;go_wp2_with (first
  | (at_builtin; refine wpList_append_own_none rfl (.tmp 6) (.tmp 7) 45 rfl w.heap.size 5 i0 1 Tryz.underlying45 hif (.slice (some ⟨w.heap.size, 0, none⟩) 0 0) 0 [] rfl ho rfl ?_)
  | (at_builtin; refine wpList_append_own _ rfl (.tmp 8) (.tmp 15) 45 rfl w.heap.size 5 i0 (.int .u8 0) 1 1 Tryz.underlying45 hif hz0 hz1 hz2 rfl (by decide) (.slice (some ⟨w.heap.size, 0, none⟩) 0 0) 0 [] rfl (ho.alloc _) ⟨w.heap.size + 1, 0, none⟩ 2 2 [.int .u8 0, .int .u8 3] rfl rfl (fun j u hj => by have := Zat (w.alloc (.cells #[] 5)) (.int .u8 0) (.int .u8 3) 5 j u hj; simpa using this) (by intro u hu; simp at hu; rcases hu with rfl | rfl <;> rfl) (by unfold maxLen; omega) (by omega) (by simp; omega) ?_; intro v3 w3 hown3 hgrow3 _))
 have g3 : Zn w w3 := Z6 ((Zb w _).trans (Zb _ _)) hgrow3 (fun k e => by simp [Value.ownBlock] at e; omega);go_ret;exact ⟨_, rfl, hown3, g3⟩
theorem Zih (l : List UInt8) (v : Value) (w : World) (hm : l.length ≤ 140737488355326) (h : Bytes w v l) :
  Calls Tryz.prog 125 #[v] w fun e w' => ∃ v', e = .returned v' ∧ w'.ownsRow w.heap.size 5 1 v' (l.length + 2) ((Xq l).map bv) ∧ Zn w w' := by
 obtain ⟨ao, cap, rfl, hnone, hcells⟩ := Yp h;cases ao with
 | some ad => exact Znm l ad cap w hm h (hcells ad rfl)
 | none =>
  obtain ⟨h1, rfl⟩ := hnone rfl;obtain rfl := List.eq_nil_of_length_eq_zero h1;exact Znn w
end Go.Proofs.YtpdnapbchcdhlacGreat
namespace Go.Proofs.YtpdnapbchcdhlacGreat
set_option maxRecDepth 100000
open Go.RowKit
open Plain Reg
theorem Zb5 (l : List UInt8) (ao : Option Addr) (cap : Nat) (w : World) (hs : l.length < 2) :
  Calls Tryz.prog 174 #[.slice ao l.length cap] w fun e w' => e = .returned (.bool false) ∧ Zn w w' := by
 have hd : decide ((0 : Int) ≤ (l.length : Int) - 2) = false := by simp; omega
 go_enter Tryz.func174, Tryz.ntmps174;go_wp2;refine Yb [ex (.int .i64 ((l.length : Int) - 2)), ex (.bool false), ex (.bool false), ex (undef), ex (undef), ex (undef), ex (undef), ex (undef), ex (undef), ex (undef), ex (undef), ex (undef), ex (undef), ex (undef), ex (undef), ex (undef), ex (undef), ex (undef), ex (.bool false), ex (.bool false)] (by kernel_rfl) (by kernel_rfl) ⟨Zj _, Zj _, Zj _, Zj _, Zj _, Zj _, Zj _, Zj _, Zj _, Zj _, Zj _, Zj _, Zj _, Zj _, Zj _, Zj _, Zj _, Zj _, Zj _, Zj _, trivial⟩ ?_ ?_
 ·refine ⟨?_, ?_, ?_, ?_, ?_, ?_, ?_, ?_, ?_, ?_, ?_, ?_, ?_, ?_, ?_, ?_, ?_, ?_, ?_, ?_, trivial⟩
  ·exact Ze rfl fun a _ _ _ _ A => Zx rfl (Zy A 3 rfl)
  ·refine Ze rfl fun a _ _ _ B A => ?_;have e7 : a (.tmp 7) = _ := Zg A 0 rfl;refine Zo ?_ rfl;clear A B;go_simp;all_goals go_arith
  ·exact Ze rfl fun a _ _ _ _ A => Zx rfl (Zg A 1 rfl)
  ·refine Zz 2 true rfl rfl rfl (fun _ => rfl)
  ·refine Zz 2 true rfl rfl rfl (fun _ => rfl)
  ·refine Zz 2 true rfl rfl rfl (fun _ => rfl)
  ·refine Zz 2 true rfl rfl rfl (fun _ => rfl)
  ·refine Zz 2 true rfl rfl rfl (fun _ => rfl)
  ·refine Zz 2 true rfl rfl rfl (fun _ => rfl)
  ·refine Zz 2 true rfl rfl rfl (fun _ => rfl)
  ·refine Zz 2 true rfl rfl rfl (fun _ => rfl)
  ·refine Zz 2 true rfl rfl rfl (fun _ => rfl)
  ·refine Zz 2 true rfl rfl rfl (fun _ => rfl)
  ·refine Zz 2 true rfl rfl rfl (fun _ => rfl)
  ·refine Zz 2 true rfl rfl rfl (fun _ => rfl)
  ·refine Zz 2 true rfl rfl rfl (fun _ => rfl)
  ·refine Zz 2 true rfl rfl rfl (fun _ => rfl)
  ·refine Zz 2 true rfl rfl rfl (fun _ => rfl)
  ·refine Ze rfl fun a _ B _ _ A => ?_;have ec : a (.tmp 9) = _ := Zg A 2 rfl;exact Xb rfl ec (B _)
  ·exact Ze rfl fun a _ _ _ _ A => Yx rfl (Zg A 18 rfl)
 ·intro vs w' hg ht;obtain ⟨(r7 : vs 0 = _), (r8 : vs 1 = _), (r9 : vs 2 = _), (r10 : vs 3 = _), (r11 : vs 4 = _), (r12 : vs 5 = _), (r13 : vs 6 = _), (r14 : vs 7 = _), (r15 : vs 8 = _), (r16 : vs 9 = _), (r17 : vs 10 = _), (r18 : vs 11 = _), (r19 : vs 12 = _), (r20 : vs 13 = _), (r21 : vs 14 = _), (r22 : vs 15 = _), (r23 : vs 16 = _), (r24 : vs 17 = _), (r25 : vs 18 = _), (r2 : vs 19 = _), -⟩ := ht;simp only [Ye, Act.put, List.setIfInBounds_toArray, List.set_cons_zero, List.set_cons_succ, r7, r8, r9, r10, r11, r12, r13, r14, r15, r16, r17, r18, r19, r20, r21, r22, r23, r24, r25, r2];clear r7 r8 r9 r10 r11 r12 r13 r14 r15 r16 r17 r18 r19 r20 r21 r22 r23 r24 r25 r2;go_wp2;go_ret;exact ⟨rfl, hg⟩
theorem Zkv {w : World} {b off cap n m : Nat} {l : List UInt8} (hl : l.length = m) (hn : n ≤ m) (hcap : m ≤ cap) (hc : ∀ (i : Nat) (h : i < l.length), w.cell? ⟨b, off + i, none⟩ = some (.int .u8 (l[i].toNat : Int))) :
  Bytes w (.slice (some ⟨b, off, none⟩) n cap) (l.take n) := by
 have e : (l.take n).length = n := by simp; omega
 refine .inr ⟨b, off, cap, by rw [e], by omega, fun i hi => ?_⟩;rw [List.getElem_take];exact hc i (by omega)
theorem Zhw (l : List UInt8) (x y : UInt8) (b off cap n : Nat) (w : World) (hm : n ≤ 140737488355326) (hcap : n + 2 ≤ cap) (hl : l.length = n)
  (hc : ∀ (i : Nat) (h : i < l.length), w.cell? ⟨b, off + i, none⟩ = some (.int .u8 (l[i].toNat : Int)))
  (hx : w.cell? ⟨b, off + n, none⟩ = some (.int .u8 (x.toNat : Int))) (hy : w.cell? ⟨b, off + (n + 1), none⟩ = some (.int .u8 (y.toNat : Int))) :
  Calls Tryz.prog 174 #[.slice (some ⟨b, off, none⟩) (n + 2) cap] w fun e w' => e = .returned (.bool ((x.toNat : Int) * 256 + (y.toNat : Int) == Xh l)) ∧ Zn w w' := by
 have HL : Hid (l.length = n) := hl;clear hl;have hb0 : Bytes w (.slice (some ⟨b, off, none⟩) n cap) l := .inr ⟨b, off, cap, by rw [HL.out], by have := HL.out; omega, hc⟩;go_enter Tryz.func174, Tryz.ntmps174;go_wp2;refine Yb [ex (.int .i64 n), ex (.bool true), ex (.bool true), ex (.slice (some ⟨b, off, none⟩) (n + 2) cap), ex (.int .i64 n), ex (.pointer (some ⟨b, off + n, none⟩)), ex (.int .u8 (x.toNat : Int)), ex (.slice (some ⟨b, off, none⟩) (n + 2) cap), ex (.int .i64 n), ex (.int .i64 ((n : Int) + 1)), ex (.pointer (some ⟨b, off + (n + 1), none⟩)), ex (.int .u8 (y.toNat : Int)), ex (.int .i64 ((x.toNat : Int) * 256 + (y.toNat : Int))), ex (.slice (some ⟨b, off, none⟩) (n + 2) cap), ex (.int .i64 n), ex (.slice (some ⟨b, off, none⟩) n cap), ex (.int .i64 (Xh l)), ex (.bool ((x.toNat : Int) * 256 + (y.toNat : Int) == Xh l)), ex (.bool ((x.toNat : Int) * 256 + (y.toNat : Int) == Xh l)), ex (.bool ((x.toNat : Int) * 256 + (y.toNat : Int) == Xh l))] (by kernel_rfl) (by kernel_rfl) ⟨Zj _, Zj _, Zj _, Zj _, Zj _, Zj _, Zj _, Zj _, Zj _, Zj _, Zj _, Zj _, Zj _, Zj _, Zj _, Zj _, Zj _, Zj _, Zj _, Zj _, trivial⟩ ?_ ?_
 ·refine ⟨?_, ?_, ?_, ?_, ?_, ?_, ?_, ?_, ?_, ?_, ?_, ?_, ?_, ?_, ?_, ?_, ?_, ?_, ?_, ?_, trivial⟩
  ·exact Ze rfl fun a _ _ _ _ A => Zx rfl (Zy A 3 rfl)
  ·refine Ze rfl fun a _ _ _ B A => ?_;have e7 : a (.tmp 7) = _ := Zg A 0 rfl;refine Zo ?_ rfl;clear A B;go_simp;all_goals go_arith
  ·exact Ze rfl fun a _ _ _ _ A => Zx rfl (Zg A 1 rfl)
  ·exact Zw 2 true rfl rfl rfl fun a _ _ _ _ A => Zx rfl (Zy A 0 rfl)
  ·exact Zw 2 true rfl rfl rfl fun a _ _ _ _ A => Zx rfl (Zy A 3 rfl)
  ·refine Zw 2 true rfl rfl rfl fun a _ _ _ B A => ?_;have e10 : a (.tmp 10) = _ := Zg A 3 rfl;have e11 : a (.tmp 11) = _ := Zg A 4 rfl;refine Zo ?_ rfl;clear A B;go_simp;all_goals go_arith
  ·refine Zw 2 true rfl rfl rfl fun a B _ _ C A => ?_;have e12 : a (.tmp 12) = _ := Zg A 5 rfl;have h1 : B.cell? ⟨b, off + n, none⟩ = some (.int .u8 (x.toNat : Int)) := (Below.cell C (Zv hx)).trans hx;refine Zo ?_ rfl;clear A C;go_simp;all_goals go_arith
  ·exact Zw 2 true rfl rfl rfl fun a _ _ _ _ A => Zx rfl (Zy A 0 rfl)
  ·exact Zw 2 true rfl rfl rfl fun a _ _ _ _ A => Zx rfl (Zy A 3 rfl)
  ·refine Zw 2 true rfl rfl rfl fun a _ _ _ B A => ?_;have e15 : a (.tmp 15) = _ := Zg A 8 rfl;refine Zo ?_ rfl;clear A B;go_simp;all_goals go_arith
  ·refine Zw 2 true rfl rfl rfl fun a _ _ _ B A => ?_;have e14 : a (.tmp 14) = _ := Zg A 7 rfl;have e16 : a (.tmp 16) = _ := Zg A 9 rfl;refine Zo ?_ rfl;clear A B;go_simp;all_goals go_arith
  ·refine Zw 2 true rfl rfl rfl fun a B _ _ C A => ?_;have e17 : a (.tmp 17) = _ := Zg A 10 rfl;have h1 : B.cell? ⟨b, off + (n + 1), none⟩ = some (.int .u8 (y.toNat : Int)) := (Below.cell C (Zv hy)).trans hy;refine Zo ?_ rfl;clear A C;go_simp;all_goals go_arith
  ·refine Zw 2 true rfl rfl rfl fun a B _ _ C A => ?_;have e13 : a (.tmp 13) = _ := Zg A 6 rfl;have e18 : a (.tmp 18) = _ := Zg A 11 rfl;refine Yv (f := 152) (args := #[.int .u8 (x.toNat : Int), .int .u8 (y.toNat : Int)]) ?_ ((Zgm x y B).mono ?_)
   ·clear A C;go_simp;all_goals go_arith
   ·rintro e w2 ⟨rfl, rfl⟩;exact ⟨_, rfl, Zn.refl _, rfl⟩
  ·exact Zw 2 true rfl rfl rfl fun a _ _ _ _ A => Zx rfl (Zy A 0 rfl)
  ·exact Zw 2 true rfl rfl rfl fun a _ _ _ _ A => Zx rfl (Zy A 3 rfl)
  ·refine Zw 2 true rfl rfl rfl fun a _ _ _ B A => ?_;have e20 : a (.tmp 20) = _ := Zg A 13 rfl;have e21 : a (.tmp 21) = _ := Zg A 14 rfl;refine Zo ?_ rfl;clear A B;go_simp;all_goals go_arith
  ·refine Zw 2 true rfl rfl rfl fun a B _ _ C A => ?_;have e22 : a (.tmp 22) = _ := Zg A 15 rfl;refine Yv (f := 168) (args := #[.slice (some ⟨b, off, none⟩) n cap]) ?_ ((Zuv l _ B (by have := HL.out; omega) (Z3 hb0 C)).mono ?_)
   ·clear A C;go_simp;all_goals go_arith
   ·rintro e w2 ⟨rfl, rfl⟩;exact ⟨_, rfl, Zn.refl _, rfl⟩
  ·refine Zw 2 true rfl rfl rfl fun a _ _ _ B A => ?_;have e19 : a (.tmp 19) = _ := Zg A 12 rfl;have e23 : a (.tmp 23) = _ := Zg A 16 rfl;refine Zo ?_ rfl;clear A B;go_simp;all_goals go_arith
  ·refine Ze rfl fun a _ _ _ _ A => ?_;have ec : a (.tmp 9) = _ := Zg A 2 rfl;have e : a (.tmp 24) = _ := Zg A 17 rfl;exact Xb rfl ec e
  ·exact Ze rfl fun a _ _ _ _ A => Yx rfl (Zg A 18 rfl)
 ·intro vs w' hg ht;obtain ⟨(r7 : vs 0 = _), (r8 : vs 1 = _), (r9 : vs 2 = _), (r10 : vs 3 = _), (r11 : vs 4 = _), (r12 : vs 5 = _), (r13 : vs 6 = _), (r14 : vs 7 = _), (r15 : vs 8 = _), (r16 : vs 9 = _), (r17 : vs 10 = _), (r18 : vs 11 = _), (r19 : vs 12 = _), (r20 : vs 13 = _), (r21 : vs 14 = _), (r22 : vs 15 = _), (r23 : vs 16 = _), (r24 : vs 17 = _), (r25 : vs 18 = _), (r2 : vs 19 = _), -⟩ := ht;simp only [Ye, Act.put, List.setIfInBounds_toArray, List.set_cons_zero, List.set_cons_succ, r7, r8, r9, r10, r11, r12, r13, r14, r15, r16, r17, r18, r19, r20, r21, r22, r23, r24, r25, r2];clear r7 r8 r9 r10 r11 r12 r13 r14 r15 r16 r17 r18 r19 r20 r21 r22 r23 r24 r25 r2;go_wp2;go_ret;exact ⟨rfl, hg⟩
theorem Zj0 (l : List UInt8) (v : Value) (w : World) (hm : l.length ≤ 140737488355328) (h : Bytes w v l) :
  Calls Tryz.prog 174 #[v] w fun e w' => e = .returned (.bool (Xj l)) ∧ Zn w w' := by
 by_cases hs : l.length < 2
 ·have e : Xj l = false := by simp [Xj]; omega
  rw [e];rcases h with ⟨ao, cap, rfl, rfl, h0⟩ | ⟨b, off, cap, rfl, hcap, hc⟩
  ·exact Zb5 [] ao cap w hs
  ·exact Zb5 l _ cap w hs
 ·rcases h with ⟨ao, cap, rfl, rfl, h0⟩ | ⟨b, off, cap, rfl, hcap, hc⟩
  ·simp at hs
  ·have hl : l.length = (l.length - 2) + 2 := by omega
   have e : Xj l = ((((l.getD (l.length - 2) 0).toNat : Int) * 256 + ((l.getD (l.length - 1) 0).toNat : Int)) == Xh (l.take (l.length - 2))) := by
    unfold Xj; rw [decide_eq_true (by omega : 2 ≤ l.length), Bool.true_and]
   rw [e, show (Value.slice (some ⟨b, off, none⟩) l.length cap) = .slice (some ⟨b, off, none⟩) ((l.length - 2) + 2) cap from by rw [← hl]];refine Zhw (l.take (l.length - 2)) _ _ b off cap (l.length - 2) w (by omega) (by omega) (by simp) (fun i hi => ?_) ?_ ?_
   ·rw [List.getElem_take]; exact hc i (by simp at hi; omega)
   ·have := hc (l.length - 2) (by omega);rw [this, List.getD_eq_getElem?_getD, List.getElem?_eq_getElem (by omega)]; rfl
   ·have := hc (l.length - 1) (by omega);rw [show l.length - 2 + 1 = l.length - 1 from by omega, this, List.getD_eq_getElem?_getD, List.getElem?_eq_getElem (by omega)]; rfl
def str (l : List UInt8) : Value := .string ⟨l.toArray⟩
theorem Zrb (l : List UInt8) : ∀ (s : ByteArray), (l.map (fun c => (c.toNat : Int))).foldl (fun r n => r.push (UInt8.ofNat n.toNat)) s = ⟨s.data ++ l.toArray⟩ := by
 induction l with
 | nil => intro s; simp
 | cons c l ih =>
  intro s;simp only [List.map_cons, List.foldl_cons];rw [ih];simp [ByteArray.push]
theorem Zck (w : World) (v : Value) (l : List UInt8) (h : Bytes w v l) : (convert 45 9 v).run Tryz.prog w = .ok (str l) w := by
 obtain ⟨ao, cap, rfl, hnone, hcells⟩ := Yp h;rw [run_convert_bytes_string w 45 9 5 ao l.length cap Tryz.underlying45 Tryz.underlying5 Tryz.underlying9];cases ao with
 | none =>
  obtain ⟨h1, _⟩ := hnone rfl;obtain rfl := List.eq_nil_of_length_eq_zero h1;rfl
 | some ad =>
  have h1 : (loadCells ad l.length).run Tryz.prog w = .ok ((l.map (fun c => (c.toNat : Int))).map (Value.int .u8)).toArray w := by
   have h2 := run_loadCells_list (P := Tryz.prog) (w := w) ad (l.map bv) (hcells ad rfl);simp only [List.length_map] at h2;rw [h2];simp [bv, Function.comp_def]
  rw [run_bytesToString w ad l.length cap _ h1, Zrb];simp [str]
theorem Ztn (l : List UInt8) : Xx (fun v w => Bytes w v l) := fun _ _ _ hg h => Z3 h hg
theorem Zcy (l : List UInt8) (ao : Option Addr) (cap : Nat) (w : World) (hs : l.length < 2) :
  Calls Tryz.prog 119 #[.slice ao l.length cap] w fun e w' => e = .returned (.bool false) ∧ Zn w w' := by
 go_enter Tryz.func119, Tryz.ntmps119;go_wp2;refine Yb [ex (.slice ao l.length cap), ex (.int .i64 (l.length : Int)), ex (.bool false), ex (.bool false), ex (undef), ex (undef), ex (undef), ex (undef), ex (undef), ex (undef), ex (undef), ex (undef), ex (undef), ex (undef), ex (.bool false), ex (.bool false)] (by kernel_rfl) (by kernel_rfl) ⟨Zj _, Zj _, Zj _, Zj _, Zj _, Zj _, Zj _, Zj _, Zj _, Zj _, Zj _, Zj _, Zj _, Zj _, Zj _, Zj _, trivial⟩ ?_ ?_
 ·refine ⟨?_, ?_, ?_, ?_, ?_, ?_, ?_, ?_, ?_, ?_, ?_, ?_, ?_, ?_, ?_, ?_, trivial⟩
  ·exact Ze rfl fun a _ _ _ _ A => Zx rfl (Zy A 0 rfl)
  ·refine Ze rfl fun a _ _ _ B A => ?_;have e3 : a (.tmp 3) = _ := Zg A 0 rfl;refine Zo ?_ rfl;clear A B;go_simp;all_goals go_arith
  ·refine Ze rfl fun a _ _ _ B A => ?_;have e4 : a (.tmp 4) = _ := Zg A 1 rfl;refine Zo ?_ rfl;clear A B;go_simp;all_goals go_arith
  ·exact Ze rfl fun a _ _ _ _ A => Zx rfl (Zg A 2 rfl)
  ·refine Zz 3 true rfl rfl rfl (fun _ => rfl)
  ·refine Zz 3 true rfl rfl rfl (fun _ => rfl)
  ·refine Zz 3 true rfl rfl rfl (fun _ => rfl)
  ·refine Zz 3 true rfl rfl rfl (fun _ => rfl)
  ·refine Zz 3 true rfl rfl rfl (fun _ => rfl)
  ·refine Zz 3 true rfl rfl rfl (fun _ => rfl)
  ·refine Zz 3 true rfl rfl rfl (fun _ => rfl)
  ·refine Zz 3 true rfl rfl rfl (fun _ => rfl)
  ·refine Zz 3 true rfl rfl rfl (fun _ => rfl)
  ·refine Zz 3 true rfl rfl rfl (fun _ => rfl)
  ·refine Ze rfl fun a _ B _ _ A => ?_;have ec : a (.tmp 6) = _ := Zg A 3 rfl;exact Xb rfl ec (B _)
  ·exact Ze rfl fun a _ _ _ _ A => Yx rfl (Zg A 14 rfl)
 ·intro vs w' hg ht;obtain ⟨(r3 : vs 0 = _), (r4 : vs 1 = _), (r5 : vs 2 = _), (r6 : vs 3 = _), (r7 : vs 4 = _), (r8 : vs 5 = _), (r9 : vs 6 = _), (r10 : vs 7 = _), (r11 : vs 8 = _), (r12 : vs 9 = _), (r13 : vs 10 = _), (r14 : vs 11 = _), (r15 : vs 12 = _), (r16 : vs 13 = _), (r17 : vs 14 = _), (r2 : vs 15 = _), -⟩ := ht;simp only [Ye, Act.put, List.setIfInBounds_toArray, List.set_cons_zero, List.set_cons_succ, r3, r4, r5, r6, r7, r8, r9, r10, r11, r12, r13, r14, r15, r16, r17, r2];clear r3 r4 r5 r6 r7 r8 r9 r10 r11 r12 r13 r14 r15 r16 r17 r2;go_wp2;go_ret;exact ⟨rfl, hg⟩
theorem Zjm (l m : List UInt8) (b off cap n : Nat) (w : World) (hm : n ≤ 140737488355326) (hcap : n + 2 ≤ cap) (hl : l.length = n)
  (hb : Bytes w (.slice (some ⟨b, off, none⟩) n cap) l) (hbm : Bytes w (.slice (some ⟨b, off, none⟩) (n + 2) cap) m) :
  Calls Tryz.prog 119 #[.slice (some ⟨b, off, none⟩) (n + 2) cap] w fun e w' => e = .returned (.bool (Xq l == m)) ∧ Zn w w' := by
 have HL : Hid (l.length = n) := hl;clear hl;go_enter Tryz.func119, Tryz.ntmps119;go_wp2;refine Yb [ex (.slice (some ⟨b, off, none⟩) (n + 2) cap), ex (.int .i64 ((n : Int) + 2)), ex (.bool true), ex (.bool true), ex (.slice (some ⟨b, off, none⟩) (n + 2) cap), ex (.slice (some ⟨b, off, none⟩) (n + 2) cap), ex (.int .i64 ((n : Int) + 2)), ex (.int .i64 (n : Int)), ex (.slice (some ⟨b, off, none⟩) n cap), (fun v w => Bytes w v (Xq l)), ex (str (Xq l)), ex (.slice (some ⟨b, off, none⟩) (n + 2) cap), ex (str m), ex (.bool (Xq l == m)), ex (.bool (Xq l == m)), ex (.bool (Xq l == m))] (by kernel_rfl) (by kernel_rfl) ⟨Zj _, Zj _, Zj _, Zj _, Zj _, Zj _, Zj _, Zj _, Zj _, Ztn _, Zj _, Zj _, Zj _, Zj _, Zj _, Zj _, trivial⟩ ?_ ?_
 ·refine ⟨?_, ?_, ?_, ?_, ?_, ?_, ?_, ?_, ?_, ?_, ?_, ?_, ?_, ?_, ?_, ?_, trivial⟩
  ·exact Ze rfl fun a _ _ _ _ A => Zx rfl (Zy A 0 rfl)
  ·refine Ze rfl fun a _ _ _ B A => ?_;have e3 : a (.tmp 3) = _ := Zg A 0 rfl;refine Zo ?_ rfl;clear A B;go_simp;all_goals go_arith
  ·refine Ze rfl fun a _ _ _ B A => ?_;have e4 : a (.tmp 4) = _ := Zg A 1 rfl;refine Zo ?_ rfl;clear A B;go_simp;all_goals go_arith
  ·exact Ze rfl fun a _ _ _ _ A => Zx rfl (Zg A 2 rfl)
  ·exact Zw 3 true rfl rfl rfl fun a _ _ _ _ A => Zx rfl (Zy A 0 rfl)
  ·exact Zw 3 true rfl rfl rfl fun a _ _ _ _ A => Zx rfl (Zy A 0 rfl)
  ·refine Zw 3 true rfl rfl rfl fun a _ _ _ B A => ?_;have e8 : a (.tmp 8) = _ := Zg A 5 rfl;refine Zo ?_ rfl;clear A B;go_simp;all_goals go_arith
  ·refine Zw 3 true rfl rfl rfl fun a _ _ _ B A => ?_;have e9 : a (.tmp 9) = _ := Zg A 6 rfl;refine Zo ?_ rfl;clear A B;go_simp;all_goals go_arith
  ·refine Zw 3 true rfl rfl rfl fun a _ _ _ B A => ?_;have e7 : a (.tmp 7) = _ := Zg A 4 rfl;have e10 : a (.tmp 10) = _ := Zg A 7 rfl;refine Zo ?_ rfl;clear A B;go_simp;all_goals go_arith
  ·refine Zw 3 true rfl rfl rfl fun a B _ _ C A => ?_;have e11 : a (.tmp 11) = _ := Zg A 8 rfl;refine Yv (f := 125) (args := #[.slice (some ⟨b, off, none⟩) n cap]) ?_ ((Zih l _ B (by have := HL.out; omega) (Z3 hb C)).mono ?_)
   ·clear A C;go_simp;all_goals go_arith
   ·rintro e w2 ⟨v', rfl, ho, hgr⟩;exact ⟨_, rfl, hgr, Qq ho⟩
  ·refine Zw 3 true rfl rfl rfl fun a B _ _ C A => ?_;have e12 : (fun v w => Bytes w v (Xq l)) (a (.tmp 12)) B := Zg A 9 rfl;refine Zo ?_ rfl;have hrun := Zck B _ _ e12;clear A C e12;go_simp;all_goals go_arith
  ·exact Zw 3 true rfl rfl rfl fun a _ _ _ _ A => Zx rfl (Zy A 0 rfl)
  ·refine Zw 3 true rfl rfl rfl fun a B _ _ C A => ?_;have e14 : a (.tmp 14) = _ := Zg A 11 rfl;refine Zo ?_ rfl;have hrun := Zck B _ _ (Z3 hbm C);clear A C;go_simp;all_goals go_arith
  ·refine Zw 3 true rfl rfl rfl fun a _ _ _ B A => ?_;have e13 : a (.tmp 13) = _ := Zg A 10 rfl;have e15 : a (.tmp 15) = _ := Zg A 12 rfl;refine Zo ?_ rfl;unfold str at e13 e15;clear A B;go_simp;all_goals go_arith
  ·refine Ze rfl fun a _ _ _ _ A => ?_;have ec : a (.tmp 6) = _ := Zg A 3 rfl;have e : a (.tmp 16) = _ := Zg A 13 rfl;exact Xb rfl ec e
  ·exact Ze rfl fun a _ _ _ _ A => Yx rfl (Zg A 14 rfl)
 ·intro vs w' hg ht;obtain ⟨(r3 : vs 0 = _), (r4 : vs 1 = _), (r5 : vs 2 = _), (r6 : vs 3 = _), (r7 : vs 4 = _), (r8 : vs 5 = _), (r9 : vs 6 = _), (r10 : vs 7 = _), (r11 : vs 8 = _), q12, (r13 : vs 10 = _), (r14 : vs 11 = _), (r15 : vs 12 = _), (r16 : vs 13 = _), (r17 : vs 14 = _), (r2 : vs 15 = _), -⟩ := ht;simp only [Ye, Act.put, List.setIfInBounds_toArray, List.set_cons_zero, List.set_cons_succ, r3, r4, r5, r6, r7, r8, r9, r10, r11, r13, r14, r15, r16, r17, r2];clear r3 r4 r5 r6 r7 r8 r9 r10 r11 r13 r14 r15 r16 r17 r2;go_wp2;go_ret;exact ⟨rfl, hg⟩
theorem Zf9 (l : List UInt8) (h : 2 ≤ l.length) : (Xq (l.take (l.length - 2)) == l) = Xj l := by
 have hs := Zam (l.take (l.length - 2));have hl : l = l.take (l.length - 2) ++ [l[l.length - 2], l[l.length - 1]] := by
  conv => lhs; rw [← List.take_append_drop (l.length - 2) l]
  congr 1
  rw [List.drop_eq_getElem_cons (by omega), List.drop_eq_getElem_cons (by omega), List.drop_eq_nil_of_le (by omega)];simp [show l.length - 2 + 1 = l.length - 1 from by omega]
 have e1 : l.getD (l.length - 2) 0 = l[l.length - 2] := by rw [List.getD_eq_getElem?_getD, List.getElem?_eq_getElem (by omega)]; rfl
 have e2 : l.getD (l.length - 1) 0 = l[l.length - 1] := by rw [List.getD_eq_getElem?_getD, List.getElem?_eq_getElem (by omega)]; rfl
 unfold Xj;rw [decide_eq_true h, Bool.true_and, e1, e2, Bool.eq_iff_iff, beq_iff_eq, beq_iff_eq, Zda _ _ _ hs.1 (by omega)];unfold Xq;constructor
 ·intro h3;have h4 : l.take (l.length - 2) ++ [hi (Xh (l.take (l.length - 2))), lo (Xh (l.take (l.length - 2)))] = l.take (l.length - 2) ++ [l[l.length - 2], l[l.length - 1]] := h3.trans hl;have h5 := List.append_cancel_left h4;simp only [List.cons.injEq, and_true] at h5;exact h5
 ·rintro ⟨h3, h4⟩;rw [h3, h4];exact hl.symm
theorem J6 (l : List UInt8) (v : Value) (w : World) (hm : l.length ≤ 140737488355328) (h : Bytes w v l) :
  Calls Tryz.prog 119 #[v] w fun e w' => e = .returned (.bool (Xj l)) ∧ Zn w w' := by
 by_cases hs : l.length < 2
 ·have e : Xj l = false := by simp [Xj]; omega
  rw [e];rcases h with ⟨ao, cap, rfl, rfl, h0⟩ | ⟨b, off, cap, rfl, hcap, hc⟩
  ·exact Zcy [] ao cap w hs
  ·exact Zcy l _ cap w hs
 ·have h2 := h;rcases h with ⟨ao, cap, rfl, rfl, h0⟩ | ⟨b, off, cap, rfl, hcap, hc⟩
  ·simp at hs
  ·have hl : l.length = (l.length - 2) + 2 := by omega
   rw [← Zf9 l (by omega)];have e3 : (Value.slice (some ⟨b, off, none⟩) l.length cap) = .slice (some ⟨b, off, none⟩) ((l.length - 2) + 2) cap := by rw [← hl]
   rw [e3] at h2 ⊢;exact Zjm (l.take (l.length - 2)) l b off cap (l.length - 2) w (by omega) (by omega) (by simp) (Zkv rfl (by omega) hcap hc) h2
end Go.Proofs.YtpdnapbchcdhlacGreat
namespace Go.Proofs.YtpdnapbchcdhlacGreat
set_option maxRecDepth 100000
open Go.RowKit
open Plain Reg
theorem Zsf (l m : List UInt8) (v u : Value) (w : World) (hv : Bytes w v l) (hu : Bytes w u m) :
  Calls Tryz.prog 154 #[v, u] w fun e w' => e = .returned (.bool (l == m)) ∧ w = w' := by
 have h1 := Zck w _ _ hv;have h2 := Zck w _ _ hu;unfold str at h1 h2;clear hv hu;go_enter Tryz.func154, Tryz.ntmps154;go_wp2;go_ret;exact ⟨rfl, rfl⟩
theorem Zq (w : World) (o p : Obj) : Zn w ((w.alloc o).alloc p) := (Zb w o).trans (Zb _ p)
theorem Zgb (k y n k' y' n' : Int) (l m : List UInt8) (v u : Value) (w : World) (hv : Bytes w v l) (hu : Bytes w u m) :
  Calls Tryz.prog 117 #[.agg #[.int .i64 k, .int .i64 y, .int .i64 n, v], .agg #[.int .i64 k', .int .i64 y', .int .i64 n', u]] w fun e w' => e = .returned (.bool (X9 ⟨k, y, n, l⟩ ⟨k', y', n', m⟩)) ∧ Zn w w' := by
 go_enter Tryz.func117, Tryz.ntmps117;go_wp2_with (go_at_call 154; refine (Zsf l m v u _ (by exact Z3 hv (Zq _ _ _)) (by exact Z3 hu (Zq _ _ _))).mono ?_; rintro e w' ⟨rfl, rfl⟩);all_goals go_ret
 all_goals refine ⟨?_, Zq _ _ _⟩
 all_goals simp_all [X9]
theorem Zij (k y n k' y' n' : Int) (l m : List UInt8) (v u : Value) (w : World) (hv : Bytes w v l) (hu : Bytes w u m) :
  Calls Tryz.prog 59 #[.agg #[.int .i64 k, .int .i64 y, .int .i64 n, v], .agg #[.int .i64 k', .int .i64 y', .int .i64 n', u]] w fun e w' => e = .returned (.bool (X9 ⟨k, y, n, l⟩ ⟨k', y', n', m⟩)) ∧ Zn w w' := by
 by_cases h : k = k' ∧ y = y' ∧ n = n'
 ·obtain ⟨rfl, rfl, rfl⟩ := h;have h1 := Zck _ _ _ (Z3 hv (Zq w (.cells #[.int .i64 k, .int .i64 y, .int .i64 n, v] 61) (.cells #[.int .i64 k, .int .i64 y, .int .i64 n, u] 61)));have h2 := Zck _ _ _ (Z3 hu (Zq w (.cells #[.int .i64 k, .int .i64 y, .int .i64 n, v] 61) (.cells #[.int .i64 k, .int .i64 y, .int .i64 n, u] 61)));unfold str at h1 h2;clear hv hu;go_enter Tryz.func59, Tryz.ntmps59;go_wp2;go_ret;refine ⟨?_, Zq _ _ _⟩;simp [X9]
 ·clear hv hu;by_cases h1 : k = k'
  ·subst h1;by_cases h2 : y = y'
   ·subst h2;have d3 : (n == n') = false := by simp at h; simpa using h
    have HN : Hid (X9 ⟨k, y, n, l⟩ ⟨k, y, n', m⟩ = false) := by show _ = _; simp [X9, d3]
    rw [HN.out];clear h;go_enter Tryz.func59, Tryz.ntmps59;go_wp2_with fail;go_ret;exact ⟨rfl, Zq _ _ _⟩
   ·have d2 : (y == y') = false := by simpa using h2
    have HN : Hid (X9 ⟨k, y, n, l⟩ ⟨k, y', n', m⟩ = false) := by show _ = _; simp [X9, d2]
    rw [HN.out];clear h h2;go_enter Tryz.func59, Tryz.ntmps59;go_wp2_with fail;go_ret;exact ⟨rfl, Zq _ _ _⟩
  ·have d1 : (k == k') = false := by simpa using h1
   have HN : Hid (X9 ⟨k, y, n, l⟩ ⟨k', y', n', m⟩ = false) := by show _ = _; simp [X9, d1]
   rw [HN.out];clear h h1;go_enter Tryz.func59, Tryz.ntmps59;go_wp2_with fail;go_ret;exact ⟨rfl, Zq _ _ _⟩
end Go.Proofs.YtpdnapbchcdhlacGreat
