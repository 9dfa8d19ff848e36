/-
  Sum, Seal, Sealed, Same: several texts in one.
-/
import Derived.Test.YtgaecpdokgklpabProg
import Derived.Test.YtgaecpdokgklpabJReg
import Derived.WalkKit
import Derived.WalkSpells
import Derived.WalkLawsBesides
import Derived.Laws.BitsAllLaws
import Derived.Laws.AppendOwnNone
import Derived.Handy
/-
  What sum.Of and the document's Sum tell of any bytes that lie in memory: their sum.
  Condition: the slice holds those bytes, and fewer than 2^47 of them.
-/
namespace Go.Proofs.Ytgaecpdokgklpab
set_option maxRecDepth 100000
open Go.RowKit
open Go.Proofs.Ytgaecpdokgklpab.Plain Go.Proofs.Ytgaecpdokgklpab.Reg

/-- The slice value v holds the bytes l. -/
def Bytes (w : World) (v : Value) (l : List UInt8) : Prop :=
 (∃ ao cap, v = .slice ao 0 cap ∧ l = [] ∧ (ao = none → cap = 0)) ∨
 (∃ b off cap, v = .slice (some ⟨b, off, none⟩) l.length cap ∧ l.length ≤ cap ∧ ∀ (i : Nat) (h : i < l.length), w.cell? ⟨b, off + i, none⟩ = some (.int .u8 (l[i].toNat : Int)))

theorem ret_int {k : IntKind} {a b : Int} (h : a = b) : Ending.returned (.int k a) = .returned (.int k b) := by rw [h]
theorem val_int {k : IntKind} {a b : Int} (h : a = b) : Value.int k a = .int k b := by rw [h]

set_option maxHeartbeats 400000 in
theorem of_row (l : List UInt8) (b off cap : Nat) (w : World) (hm : l.length ≤ 140737488355328)
  (hc : ∀ (i : Nat) (h : i < l.length), w.cell? ⟨b, off + i, none⟩ = some (.int .u8 (l[i].toNat : Int))) :
  Calls Try.prog 119 #[.slice (some ⟨b, off, none⟩) l.length cap] w fun e w' => e = .returned (.int .i64 (sumOf l)) ∧ w = w' := by
 go_enter Try.func119, Try.ntmps119
 go_wp2
 go_loop [3, 8] (fun n i => ∃ k : Nat, k ≤ l.length ∧ i = .int .i64 k ∧ n = .int .i64 (sumOf (l.take k))) (fun _ i => l.length - (intOf i).toNat)
 case atStart => exact ⟨0, Nat.zero_le _, rfl, rfl⟩
 case round =>
  obtain ⟨k, hk, rfl, rfl⟩ := hrel
  have hs := sumOf_bd (l.take k)
  by_cases hlt : k < l.length
  ·have hcell := hc k hlt
   have hb : l[k].toNat < 256 := UInt8.toNat_lt _
   have HS : Hid (sumOf (l.take (k + 1)) = (sumOf (l.take k) * 131 + (l[k].toNat : Int) + 1) % 65521) := by rw [take_snoc l k hlt]; exact sumOf_snoc _ _
   clear hc
   go_wp2
   go_round
   case rel => exact ⟨k + 1, by omega, by go_num, val_int (by rw [HS.out])⟩
   case measure => simp [intOf]; omega
  ·go_wp2
   go_ret
   exact ⟨ret_int (by rw [List.take_of_length_le (by omega)]), rfl⟩

set_option maxHeartbeats 400000 in
theorem of_nil (ao : Option Addr) (cap : Nat) (w : World) : Calls Try.prog 119 #[.slice ao 0 cap] w fun e w' => e = .returned (.int .i64 (sumOf [])) ∧ w = w' := by
 go_enter Try.func119, Try.ntmps119
 go_wp2
 go_loop [3, 8] (fun n i => n = .int .i64 3 ∧ i = .int .i64 0) (fun _ i => 0)
 case atStart => exact ⟨rfl, rfl⟩
 case round =>
  obtain ⟨rfl, rfl⟩ := hrel
  go_wp2
  go_ret
  exact ⟨rfl, rfl⟩

theorem of_any (l : List UInt8) (v : Value) (w : World) (hm : l.length ≤ 140737488355328) (h : Bytes w v l) :
  Calls Try.prog 119 #[v] w fun e w' => e = .returned (.int .i64 (sumOf l)) ∧ w = w' := by
 rcases h with ⟨ao, cap, rfl, rfl, _⟩ | ⟨b, off, cap, rfl, _, hc⟩
 ·exact of_nil ao cap w
 ·exact of_row l b off cap w hm hc

set_option maxHeartbeats 400000 in
theorem rsum_row (l : List UInt8) (b off cap : Nat) (w : World) (hm : l.length ≤ 140737488355328)
  (hc : ∀ (i : Nat) (h : i < l.length), w.cell? ⟨b, off + i, none⟩ = some (.int .u8 (l[i].toNat : Int))) :
  Calls Try.prog 103 #[.slice (some ⟨b, off, none⟩) l.length cap] w fun e w' => e = .returned (.int .i64 (sumOf l)) ∧ w = w' := by
 go_enter Try.func103, Try.ntmps103
 go_wp2
 go_loop [3, 7] (fun n i => ∃ k : Nat, k ≤ l.length ∧ i = .int .i64 k ∧ n = .int .i64 (sumOf (l.take k))) (fun _ i => l.length - (intOf i).toNat)
 case atStart => exact ⟨0, Nat.zero_le _, rfl, rfl⟩
 case round =>
  obtain ⟨k, hk, rfl, rfl⟩ := hrel
  have hs := sumOf_bd (l.take k)
  by_cases hlt : k < l.length
  ·have hcell := hc k hlt
   have hb : l[k].toNat < 256 := UInt8.toNat_lt _
   have HS : Hid (sumOf (l.take (k + 1)) = (sumOf (l.take k) * 131 + (l[k].toNat : Int) + 1) % 65521) := by rw [take_snoc l k hlt]; exact sumOf_snoc _ _
   clear hc
   go_wp2
   go_round
   case rel => exact ⟨k + 1, by omega, by go_num, val_int (by rw [HS.out, Int.mul_comm])⟩
   case measure => simp [intOf]; omega
  ·go_wp2
   go_ret
   exact ⟨ret_int (by rw [List.take_of_length_le (by omega)]), rfl⟩

set_option maxHeartbeats 400000 in
theorem rsum_nil (ao : Option Addr) (cap : Nat) (w : World) : Calls Try.prog 103 #[.slice ao 0 cap] w fun e w' => e = .returned (.int .i64 (sumOf [])) ∧ w = w' := by
 go_enter Try.func103, Try.ntmps103
 go_wp2
 go_loop [3, 7] (fun n i => n = .int .i64 3 ∧ i = .int .i64 0) (fun _ i => 0)
 case atStart => exact ⟨rfl, rfl⟩
 case round =>
  obtain ⟨rfl, rfl⟩ := hrel
  go_wp2
  go_ret
  exact ⟨rfl, rfl⟩

theorem rsum_any (l : List UInt8) (v : Value) (w : World) (hm : l.length ≤ 140737488355328) (h : Bytes w v l) :
  Calls Try.prog 103 #[v] w fun e w' => e = .returned (.int .i64 (sumOf l)) ∧ w = w' := by
 rcases h with ⟨ao, cap, rfl, rfl, _⟩ | ⟨b, off, cap, rfl, _, hc⟩
 ·exact rsum_nil ao cap w
 ·exact rsum_row l b off cap w hm hc

theorem or_i64 (a b : Nat) (ha : a < 256) (hb : b < 256) : bits .or .i64 ((a : Int) * 256) (b : Int) = (a : Int) * 256 + (b : Int) := by
 have hx : a * 256 ||| b = a * 256 + b := nat_join 8 (a * 256) b (by omega) (by omega)
 have e1 : (BitVec.ofInt 64 ((a * 256 : Nat) : Int)).toNat = a * 256 := by
  rw [BitVec.ofInt_natCast, BitVec.toNat_ofNat]; exact Nat.mod_eq_of_lt (by omega)
 have e2 : (BitVec.ofInt 64 (b : Int)).toNat = b := by
  rw [BitVec.ofInt_natCast, BitVec.toNat_ofNat]; exact Nat.mod_eq_of_lt (by omega)
 rw [show ((a : Int) * 256) = ((a * 256 : Nat) : Int) from by omega]
 show IntKind.i64.wrap ((BitVec.ofInt 64 ((a * 256 : Nat) : Int) ||| BitVec.ofInt 64 (b : Int)).toNat : Int) = _
 rw [BitVec.toNat_or, e1, e2, hx, IntKind.wrap_i64]
 omega

set_option maxHeartbeats 400000 in
theorem number_any (a b : UInt8) (w : World) :
  Calls Try.prog 106 #[.int .u8 (a.toNat : Int), .int .u8 (b.toNat : Int)] w fun e w' => e = .returned (.int .i64 ((a.toNat : Int) * 256 + (b.toNat : Int))) ∧ w = w' := by
 have ha : a.toNat < 256 := UInt8.toNat_lt _
 have hb : b.toNat < 256 := UInt8.toNat_lt _
 go_enter Try.func106, Try.ntmps106
 go_wp2
 go_ret
 exact ⟨ret_int (or_i64 _ _ ha hb), rfl⟩
end Go.Proofs.Ytgaecpdokgklpab

/-
  What sum.Seal and the document's Seal make of any bytes: those bytes and the two bytes of their sum behind, in memory of their own.
  Condition: the slice holds those bytes, and fewer than 2^47 - 2 of them.
-/
namespace Go.Proofs.Ytgaecpdokgklpab
set_option maxRecDepth 100000
open Go.RowKit
open Go.Proofs.Ytgaecpdokgklpab.Plain Go.Proofs.Ytgaecpdokgklpab.Reg

/-- A byte as a value. -/
def bv (c : UInt8) : Value := .int .u8 (c.toNat : Int)

theorem info_byte : (Try.prog.info? 5).map (fun i => (i.zero, i.size, i.bytes)) = some (some (.int .u8 0), 1, 1) := by kernel_rfl

/-- A slice of bytes as append wants its source. -/
theorem bytes_src {w : World} {v : Value} {l : List UInt8} (h : Bytes w v l) :
  ∃ ao cap, v = .slice ao l.length cap ∧ (ao = none → l.length = 0 ∧ cap = 0) ∧ (∀ ad, ao = some ad → ∀ (j : Nat) u, (l.map bv)[j]? = some u → w.cell? (ad.add j) = some u) := by
 rcases h with ⟨ao, cap, rfl, rfl, h0⟩ | ⟨b, off, cap, rfl, _, hc⟩
 ·exact ⟨ao, cap, rfl, fun h => ⟨rfl, h0 h⟩, fun ad _ j u hj => by simp at hj⟩
 ·refine ⟨_, cap, rfl, fun h => (by cases h), fun ad had j u hj => ?_⟩
  cases had
  rw [List.getElem?_map] at hj
  by_cases hl : j < l.length
  ·simp only [List.getElem?_eq_getElem hl, Option.map_some, bv, Option.some.injEq] at hj
   subst hj
   have e : (⟨b, off, none⟩ : Addr).add j = ⟨b, off + j, none⟩ := by simp [Addr.add]
   rw [e]
   exact hc j hl
  ·rw [List.getElem?_eq_none (by omega)] at hj; cases hj

theorem bv_oneCell (l : List UInt8) : ∀ u ∈ l.map bv, u.oneCell' = true := by
 intro u hu
 obtain ⟨c, _, rfl⟩ := List.mem_map.1 hu
 rfl

theorem grow_of_grown {w w1 w2 : World} {row : Option Nat} (h : Grow w w1) (hg : w1.grownBy w2 row) (hr : ∀ k, row = some k → w.heap.size ≤ k) : Grow w w2 :=
 Below.grown h hg h.size hr

theorem cell_lt {w : World} {p : Addr} {v : Value} (h : w.cell? p = some v) : p.block < w.heap.size := by
 rcases Nat.lt_or_ge p.block w.heap.size with hl | hl
 ·exact hl
 ·simp [World.cell?, Array.getElem?_eq_none hl] at h

theorem bytes_grow {w w' : World} {v : Value} {l : List UInt8} (h : Bytes w v l) (hg : Grow w w') : Bytes w' v l := by
 rcases h with h | ⟨b, off, cap, rfl, h1, hc⟩
 ·exact .inl h
 ·refine .inr ⟨b, off, cap, rfl, h1, fun i hi => ?_⟩
  have h2 := hc i hi
  rw [← h2]
  exact Below.cell hg (cell_lt h2)

/-- What is owned reads as bytes. -/
theorem bytes_own {w : World} {base : Nat} {e : TypeId} {v : Value} {n : Nat} {l : List UInt8} (h : w.ownsRow base e 1 v n (l.map bv)) : Bytes w v l := by
 have hl : l.length = n := by simpa using h.1
 subst hl
 rcases h.2 with ⟨rfl, h0⟩ | ⟨g, cap, cur, rfl, hb, hh, h1, h2, h3, h4⟩
 ·exact .inl ⟨none, 0, rfl, List.eq_nil_of_length_eq_zero h0, fun _ => rfl⟩
 ·refine .inr ⟨g, 0, cap, rfl, h1, fun i hi => ?_⟩
  have := h.cellAt i (by omega)
  rw [Nat.zero_add, this]
  simp [hi, bv]

theorem sealed_map (l : List UInt8) : (sealed l).map bv = l.map bv ++ [.int .u8 ((hi (sumOf l)).toNat : Int), .int .u8 ((lo (sumOf l)).toNat : Int)] := by
 simp [sealed, bv]

theorem news_two (w : World) (x y : Value) (e : TypeId) (j : Nat) (u : Value) (h : [x, y][j]? = some u) : (w.alloc (.cells #[x, y] e)).cell? ((⟨w.heap.size, 0, none⟩ : Addr).add j) = some u := by
 match j, h with
 | 0, h => simp at h; subst h; simp [Addr.add]
 | 1, h => simp at h; subst h; simp [Addr.add]
 | j + 2, h => simp at h

theorem grow_make {w w1 : World} (hg : w.grownBy w1 none) : Grow w w1 := grow_of_grown (Grow.refl w) hg (fun k h => by cases h)
theorem grow_row {w w1 w2 : World} (h : Grow w w1) (hg : w1.grownBy w2 (some w.heap.size)) : Grow w w2 := grow_of_grown h hg (fun k e => by cases e; exact Nat.le_refl _)
theorem grow_alloc (w : World) (o : Obj) : Grow w (w.alloc o) := Below.alloc (Below.refl _ _) (Nat.le_refl _) o

theorem src_grow {w w' : World} {ao : Option Addr} {l : List UInt8} (h : ∀ ad, ao = some ad → ∀ (j : Nat) u, (l.map bv)[j]? = some u → w.cell? (ad.add j) = some u) (hg : Grow w w') :
  ∀ ad, ao = some ad → ∀ (j : Nat) u, (l.map bv)[j]? = some u → w'.cell? (ad.add j) = some u := by
 intro ad ha j u hj
 have h2 := h ad ha j u hj
 rw [← h2]
 exact Below.cell hg (cell_lt h2)

theorem own_empty (w : World) : (w.alloc (.cells #[] 5)).ownsRow w.heap.size 5 1 (.slice (some ⟨w.heap.size, 0, none⟩) 0 0) 0 [] :=
 ⟨rfl, .inr ⟨w.heap.size, 0, #[], rfl, Nat.le_refl _, by show (w.heap.push _)[w.heap.size]? = _; simp, Nat.le_refl _, by unfold maxLen; omega, rfl, rfl⟩⟩

set_option maxHeartbeats 400000 in
theorem rseal_some (l : List UInt8) (ad : Addr) (cap : Nat) (w : World) (hm : l.length ≤ 140737488355326) (h : Bytes w (.slice (some ad) l.length cap) l)
  (hcells : ∀ (j : Nat) u, (l.map bv)[j]? = some u → w.cell? (ad.add j) = some u) :
  Calls Try.prog 88 #[.slice (some ad) l.length cap] w fun e w' => ∃ v', e = .returned v' ∧ w'.ownsRow w.heap.size 5 1 v' (l.length + 2) ((sealed l).map bv) ∧ Grow w w' := by
 rw [sealed_map]
 have hs := sumOf_bd l
 have e1 : ((hi (sumOf l)).toNat : Int) = sumOf l / 256 := by rw [hi_val]; omega
 have e2 : ((lo (sumOf l)).toNat : Int) = sumOf l % 256 := lo_val _
 rw [e1, e2]
 clear e1 e2
 obtain ⟨i0, hif, hz0, hz1, hz2⟩ := info_parts info_byte
 go_enter Try.func88, Try.ntmps88
 go_wp2_with fail
 refine (rsum_any l _ _ (by omega) h).mono ?_
 rintro e w' ⟨rfl, rfl⟩
 have ho := own_empty w
 have hc1 : ∀ (j : Nat) u, (l.map bv)[j]? = some u → (w.alloc (.cells #[] 5)).cell? (ad.add j) = some u := by
  intro j u hj
  have h2 := hcells j u hj
  rw [← h2]
  exact Below.cell (grow_alloc w _) (cell_lt h2)
 clear hcells h
 go_wp2_with (first
  | (at_builtin; refine wpList_append_own _ rfl (.tmp 6) (.tmp 7) 31 rfl w.heap.size 5 i0 (.int .u8 0) 1 1 Try.underlying31 hif hz0 hz1 hz2 rfl (by decide) (.slice (some ⟨w.heap.size, 0, none⟩) 0 0) 0 [] rfl ho ad l.length cap (l.map bv) rfl (by simp) hc1 (bv_oneCell l) (by unfold maxLen; omega) (by omega) (by simp) ?_; intro v2 w2 hown2 hgrow2 _; simp only [Nat.zero_add, List.nil_append] at hown2)
  | (at_builtin; refine wpList_append_own _ rfl (.tmp 8) (.tmp 15) 31 rfl w.heap.size 5 i0 (.int .u8 0) 1 1 Try.underlying31 hif hz0 hz1 hz2 rfl (by decide) v2 l.length (l.map bv) rfl (hown2.alloc _) ⟨w2.heap.size, 0, none⟩ 2 2 [.int .u8 (sumOf l / 256), .int .u8 (sumOf l % 256)] rfl rfl (fun j u hj => news_two w2 _ _ _ j u hj) (by intro u hu; simp at hu; rcases hu with rfl | rfl <;> rfl) (by unfold maxLen; omega) (by omega) (by have := hgrow2.size; simp at this ⊢; omega) ?_; intro v3 w3 hown3 hgrow3 _))
 have g2 : Grow w w2 := grow_of_grown (grow_alloc w _) hgrow2 (fun k e => by simp [Value.ownBlock] at e; omega)
 have g3 : Grow w w3 := grow_of_grown (g2.trans (grow_alloc w2 _)) hgrow3 (fun k e => (hown2.lt k e).1)
 go_ret
 exact ⟨_, rfl, hown3, g3⟩

set_option maxHeartbeats 400000 in
theorem rseal_none (w : World) :
  Calls Try.prog 88 #[.slice none 0 0] w fun e w' => ∃ v', e = .returned v' ∧ w'.ownsRow w.heap.size 5 1 v' 2 ((sealed []).map bv) ∧ Grow w w' := by
 rw [show (sealed []).map bv = [.int .u8 0, .int .u8 3] from by kernel_rfl]
 obtain ⟨i0, hif, hz0, hz1, hz2⟩ := info_parts info_byte
 go_enter Try.func88, Try.ntmps88
 go_wp2_with fail
 refine (rsum_any [] _ _ (by simp) (.inl ⟨none, 0, rfl, rfl, fun _ => rfl⟩)).mono ?_
 rw [sumOf_nil]
 rintro e w' ⟨rfl, rfl⟩
 have ho := own_empty w
 go_wp2_with (first
  | (at_builtin; refine wpList_append_own_none rfl (.tmp 6) (.tmp 7) 31 rfl w.heap.size 5 i0 1 Try.underlying31 hif (.slice (some ⟨w.heap.size, 0, none⟩) 0 0) 0 [] rfl ho rfl ?_)
  | (at_builtin; refine wpList_append_own _ rfl (.tmp 8) (.tmp 15) 31 rfl w.heap.size 5 i0 (.int .u8 0) 1 1 Try.underlying31 hif hz0 hz1 hz2 rfl (by decide) (.slice (some ⟨w.heap.size, 0, none⟩) 0 0) 0 [] rfl (ho.alloc _) ⟨w.heap.size + 1, 0, none⟩ 2 2 [.int .u8 0, .int .u8 3] rfl rfl (fun j u hj => by have := news_two (w.alloc (.cells #[] 5)) (.int .u8 0) (.int .u8 3) 5 j u hj; simpa using this) (by intro u hu; simp at hu; rcases hu with rfl | rfl <;> rfl) (by unfold maxLen; omega) (by omega) (by simp; omega) ?_; intro v3 w3 hown3 hgrow3 _))
 have g3 : Grow w w3 := grow_of_grown ((grow_alloc w _).trans (grow_alloc _ _)) hgrow3 (fun k e => by simp [Value.ownBlock] at e; omega)
 go_ret
 exact ⟨_, rfl, hown3, g3⟩

theorem rseal_any (l : List UInt8) (v : Value) (w : World) (hm : l.length ≤ 140737488355326) (h : Bytes w v l) :
  Calls Try.prog 88 #[v] w fun e w' => ∃ v', e = .returned v' ∧ w'.ownsRow w.heap.size 5 1 v' (l.length + 2) ((sealed l).map bv) ∧ Grow w w' := by
 obtain ⟨ao, cap, rfl, hnone, hcells⟩ := bytes_src h
 cases ao with
 | some ad => exact rseal_some l ad cap w hm h (hcells ad rfl)
 | none =>
  obtain ⟨h1, rfl⟩ := hnone rfl
  obtain rfl := List.eq_nil_of_length_eq_zero h1
  exact rseal_none w
end Go.Proofs.Ytgaecpdokgklpab

/-
  What sum.Sealed tells of any bytes: whether there are two at least, and the last two are those of the sum of the ones ahead.
  Condition: the slice holds those bytes, and fewer than 2^47 of them.
-/
namespace Go.Proofs.Ytgaecpdokgklpab
set_option maxRecDepth 100000
open Go.RowKit
open Go.Proofs.Ytgaecpdokgklpab.Plain Go.Proofs.Ytgaecpdokgklpab.Reg

set_option maxHeartbeats 400000 in
theorem issealed_short (l : List UInt8) (ao : Option Addr) (cap : Nat) (w : World) (hs : l.length < 2) :
  Calls Try.prog 114 #[.slice ao l.length cap] w fun e w' => e = .returned (.bool false) ∧ Grow w w' := by
 have hd : decide ((0 : Int) ≤ (l.length : Int) - 2) = false := by simp; omega
 go_enter Try.func114, Try.ntmps114
 go_wp2
 refine wp_region_told [ex (.int .i64 ((l.length : Int) - 2)), ex (.bool false), ex (.bool false), ex (undef), ex (undef), ex (undef), ex (undef), ex (undef), ex (undef), ex (undef), ex (undef), ex (undef), ex (undef), ex (undef), ex (undef), ex (undef), ex (undef), ex (undef), ex (.bool false), ex (.bool false)] (by kernel_rfl) (by kernel_rfl) ⟨st_ex _, st_ex _, st_ex _, st_ex _, st_ex _, st_ex _, st_ex _, st_ex _, st_ex _, st_ex _, st_ex _, st_ex _, st_ex _, st_ex _, st_ex _, st_ex _, st_ex _, st_ex _, st_ex _, st_ex _, trivial⟩ ?_ ?_
 ·refine ⟨?_, ?_, ?_, ?_, ?_, ?_, ?_, ?_, ?_, ?_, ?_, ?_, ?_, ?_, ?_, ?_, ?_, ?_, ?_, ?_, trivial⟩
  ·refine need_plain rfl (fun a w' hg hin => ?_)
   have e : a.eval (.tmp 3) = .int .i64 ((l.length : Int) - 2) := ins_ext hin 3 (by kernel_rfl)
   exact upon_move rfl e
  ·refine need_plain rfl (fun a w' hg hin => ?_)
   have e7 : a.eval (.tmp 7) = _ := ins_on hin 0 (by kernel_rfl)
   refine upon_val ?_ rfl
   clear hin hg
   obtain ⟨ek, ef⟩ := evs a
   generalize a.eval = ev at *
   go_simp
   all_goals first | omega | (intro _; omega) | go_arith
  ·refine need_plain rfl (fun a w' hg hin => ?_)
   have e : a.eval (.tmp 8) = _ := ins_on hin 1 (by kernel_rfl)
   exact upon_move rfl e
  ·refine need_no 2 true false rfl (by decide) (fun a w' hin => ins_on hin 2 (by kernel_rfl)) (fun _ => rfl)
  ·refine need_no 2 true false rfl (by decide) (fun a w' hin => ins_on hin 2 (by kernel_rfl)) (fun _ => rfl)
  ·refine need_no 2 true false rfl (by decide) (fun a w' hin => ins_on hin 2 (by kernel_rfl)) (fun _ => rfl)
  ·refine need_no 2 true false rfl (by decide) (fun a w' hin => ins_on hin 2 (by kernel_rfl)) (fun _ => rfl)
  ·refine need_no 2 true false rfl (by decide) (fun a w' hin => ins_on hin 2 (by kernel_rfl)) (fun _ => rfl)
  ·refine need_no 2 true false rfl (by decide) (fun a w' hin => ins_on hin 2 (by kernel_rfl)) (fun _ => rfl)
  ·refine need_no 2 true false rfl (by decide) (fun a w' hin => ins_on hin 2 (by kernel_rfl)) (fun _ => rfl)
  ·refine need_no 2 true false rfl (by decide) (fun a w' hin => ins_on hin 2 (by kernel_rfl)) (fun _ => rfl)
  ·refine need_no 2 true false rfl (by decide) (fun a w' hin => ins_on hin 2 (by kernel_rfl)) (fun _ => rfl)
  ·refine need_no 2 true false rfl (by decide) (fun a w' hin => ins_on hin 2 (by kernel_rfl)) (fun _ => rfl)
  ·refine need_no 2 true false rfl (by decide) (fun a w' hin => ins_on hin 2 (by kernel_rfl)) (fun _ => rfl)
  ·refine need_no 2 true false rfl (by decide) (fun a w' hin => ins_on hin 2 (by kernel_rfl)) (fun _ => rfl)
  ·refine need_no 2 true false rfl (by decide) (fun a w' hin => ins_on hin 2 (by kernel_rfl)) (fun _ => rfl)
  ·refine need_no 2 true false rfl (by decide) (fun a w' hin => ins_on hin 2 (by kernel_rfl)) (fun _ => rfl)
  ·refine need_no 2 true false rfl (by decide) (fun a w' hin => ins_on hin 2 (by kernel_rfl)) (fun _ => rfl)
  ·refine need_plain rfl (fun a w' hg hin => ?_)
   have ec : a.eval (.tmp 9) = _ := ins_on hin 2 (by kernel_rfl)
   exact upon_pick rfl ec rfl
  ·refine need_plain rfl (fun a w' hg hin => ?_)
   have e : a.eval (.tmp 25) = _ := ins_on hin 18 (by kernel_rfl)
   exact upon_assign rfl e
 ·intro vs w' hg ht
  obtain ⟨q7, q8, q9, q10, q11, q12, q13, q14, q15, q16, q17, q18, q19, q20, q21, q22, q23, q24, q25, q2, -⟩ := ht
  have r7 : vs 0 = .int .i64 ((l.length : Int) - 2) := q7
  have r8 : vs 1 = .bool false := q8
  have r9 : vs 2 = .bool false := q9
  have r10 : vs 3 = undef := q10
  have r11 : vs 4 = undef := q11
  have r12 : vs 5 = undef := q12
  have r13 : vs 6 = undef := q13
  have r14 : vs 7 = undef := q14
  have r15 : vs 8 = undef := q15
  have r16 : vs 9 = undef := q16
  have r17 : vs 10 = undef := q17
  have r18 : vs 11 = undef := q18
  have r19 : vs 12 = undef := q19
  have r20 : vs 13 = undef := q20
  have r21 : vs 14 = undef := q21
  have r22 : vs 15 = undef := q22
  have r23 : vs 16 = undef := q23
  have r24 : vs 17 = undef := q24
  have r25 : vs 18 = .bool false := q25
  have r2 : vs 19 = .bool false := q2
  clear q7 q8 q9 q10 q11 q12 q13 q14 q15 q16 q17 q18 q19 q20 q21 q22 q23 q24 q25 q2
  simp only [putAll, Act.put, List.setIfInBounds_toArray, List.set_cons_zero, List.set_cons_succ, r7, r8, r9, r10, r11, r12, r13, r14, r15, r16, r17, r18, r19, r20, r21, r22, r23, r24, r25, r2]
  clear r7 r8 r9 r10 r11 r12 r13 r14 r15 r16 r17 r18 r19 r20 r21 r22 r23 r24 r25 r2
  go_wp2
  go_ret
  exact ⟨rfl, hg⟩

theorem slice_bytes {w : World} {b off cap n m : Nat} {l : List UInt8} (hl : l.length = m) (hn : n ≤ m) (hcap : m ≤ cap) (hc : ∀ (i : Nat) (h : i < l.length), w.cell? ⟨b, off + i, none⟩ = some (.int .u8 (l[i].toNat : Int))) :
  Bytes w (.slice (some ⟨b, off, none⟩) n cap) (l.take n) := by
 have e : (l.take n).length = n := by simp; omega
 refine .inr ⟨b, off, cap, by rw [e], by omega, fun i hi => ?_⟩
 rw [List.getElem_take]
 exact hc i (by omega)

set_option maxHeartbeats 400000 in
theorem issealed_long (l : List UInt8) (x y : UInt8) (b off cap n : Nat) (w : World) (hm : n ≤ 140737488355326) (hcap : n + 2 ≤ cap) (hl : l.length = n)
  (hc : ∀ (i : Nat) (h : i < l.length), w.cell? ⟨b, off + i, none⟩ = some (.int .u8 (l[i].toNat : Int)))
  (hx : w.cell? ⟨b, off + n, none⟩ = some (.int .u8 (x.toNat : Int))) (hy : w.cell? ⟨b, off + (n + 1), none⟩ = some (.int .u8 (y.toNat : Int))) :
  Calls Try.prog 114 #[.slice (some ⟨b, off, none⟩) (n + 2) cap] w fun e w' => e = .returned (.bool ((x.toNat : Int) * 256 + (y.toNat : Int) == sumOf l)) ∧ Grow w w' := by
 have HL : Hid (l.length = n) := hl
 clear hl
 have hb0 : Bytes w (.slice (some ⟨b, off, none⟩) n cap) l := .inr ⟨b, off, cap, by rw [HL.out], by have := HL.out; omega, hc⟩
 go_enter Try.func114, Try.ntmps114
 go_wp2
 refine wp_region_told [ex (.int .i64 n), ex (.bool true), ex (.bool true), ex (.slice (some ⟨b, off, none⟩) (n + 2) cap), ex (.int .i64 n), ex (.pointer (some ⟨b, off + n, none⟩)), ex (.int .u8 (x.toNat : Int)), ex (.slice (some ⟨b, off, none⟩) (n + 2) cap), ex (.int .i64 n), ex (.int .i64 ((n : Int) + 1)), ex (.pointer (some ⟨b, off + (n + 1), none⟩)), ex (.int .u8 (y.toNat : Int)), ex (.int .i64 ((x.toNat : Int) * 256 + (y.toNat : Int))), ex (.slice (some ⟨b, off, none⟩) (n + 2) cap), ex (.int .i64 n), ex (.slice (some ⟨b, off, none⟩) n cap), ex (.int .i64 (sumOf l)), ex (.bool ((x.toNat : Int) * 256 + (y.toNat : Int) == sumOf l)), ex (.bool ((x.toNat : Int) * 256 + (y.toNat : Int) == sumOf l)), ex (.bool ((x.toNat : Int) * 256 + (y.toNat : Int) == sumOf l))] (by kernel_rfl) (by kernel_rfl) ⟨st_ex _, st_ex _, st_ex _, st_ex _, st_ex _, st_ex _, st_ex _, st_ex _, st_ex _, st_ex _, st_ex _, st_ex _, st_ex _, st_ex _, st_ex _, st_ex _, st_ex _, st_ex _, st_ex _, st_ex _, trivial⟩ ?_ ?_
 ·refine ⟨?_, ?_, ?_, ?_, ?_, ?_, ?_, ?_, ?_, ?_, ?_, ?_, ?_, ?_, ?_, ?_, ?_, ?_, ?_, ?_, trivial⟩
  ·refine need_plain rfl (fun a w' hg hin => ?_)
   have e : a.eval (.tmp 3) = .int .i64 n := ins_ext hin 3 (by kernel_rfl)
   exact upon_move rfl e
  ·refine need_plain rfl (fun a w' hg hin => ?_)
   have e7 : a.eval (.tmp 7) = _ := ins_on hin 0 (by kernel_rfl)
   refine upon_val ?_ rfl
   clear hin hg
   obtain ⟨ek, ef⟩ := evs a
   generalize a.eval = ev at *
   go_simp
   all_goals first | omega | (intro _; omega) | go_arith
  ·refine need_plain rfl (fun a w' hg hin => ?_)
   have e : a.eval (.tmp 8) = _ := ins_on hin 1 (by kernel_rfl)
   exact upon_move rfl e
  ·refine need_yes 2 true rfl (fun a w' hin => ins_on hin 2 (by kernel_rfl)) (fun a w' hg hin => ?_)
   have e : a.eval (.tmp 0) = .slice (some ⟨b, off, none⟩) (n + 2) cap := ins_ext hin 0 (by kernel_rfl)
   exact upon_move rfl e
  ·refine need_yes 2 true rfl (fun a w' hin => ins_on hin 2 (by kernel_rfl)) (fun a w' hg hin => ?_)
   have e : a.eval (.tmp 3) = .int .i64 n := ins_ext hin 3 (by kernel_rfl)
   exact upon_move rfl e
  ·refine need_yes 2 true rfl (fun a w' hin => ins_on hin 2 (by kernel_rfl)) (fun a w' hg hin => ?_)
   have e10 : a.eval (.tmp 10) = _ := ins_on hin 3 (by kernel_rfl)
   have e11 : a.eval (.tmp 11) = _ := ins_on hin 4 (by kernel_rfl)
   refine upon_val ?_ rfl
   clear hin hg
   obtain ⟨ek, ef⟩ := evs a
   generalize a.eval = ev at *
   go_simp
   all_goals first | omega | (intro _; omega) | go_arith
  ·refine need_yes 2 true rfl (fun a w' hin => ins_on hin 2 (by kernel_rfl)) (fun a w' hg hin => ?_)
   have e12 : a.eval (.tmp 12) = _ := ins_on hin 5 (by kernel_rfl)
   have h1 : w'.cell? ⟨b, off + n, none⟩ = some (.int .u8 (x.toNat : Int)) := (Below.cell hg (cell_lt hx)).trans hx
   refine upon_val ?_ rfl
   clear hin hg
   obtain ⟨ek, ef⟩ := evs a
   generalize a.eval = ev at *
   go_simp
   all_goals first | omega | (intro _; omega) | go_arith
  ·refine need_yes 2 true rfl (fun a w' hin => ins_on hin 2 (by kernel_rfl)) (fun a w' hg hin => ?_)
   have e : a.eval (.tmp 0) = .slice (some ⟨b, off, none⟩) (n + 2) cap := ins_ext hin 0 (by kernel_rfl)
   exact upon_move rfl e
  ·refine need_yes 2 true rfl (fun a w' hin => ins_on hin 2 (by kernel_rfl)) (fun a w' hg hin => ?_)
   have e : a.eval (.tmp 3) = .int .i64 n := ins_ext hin 3 (by kernel_rfl)
   exact upon_move rfl e
  ·refine need_yes 2 true rfl (fun a w' hin => ins_on hin 2 (by kernel_rfl)) (fun a w' hg hin => ?_)
   have e15 : a.eval (.tmp 15) = _ := ins_on hin 8 (by kernel_rfl)
   refine upon_val ?_ rfl
   clear hin hg
   obtain ⟨ek, ef⟩ := evs a
   generalize a.eval = ev at *
   go_simp
   all_goals first | omega | (intro _; omega) | go_arith
  ·refine need_yes 2 true rfl (fun a w' hin => ins_on hin 2 (by kernel_rfl)) (fun a w' hg hin => ?_)
   have e14 : a.eval (.tmp 14) = _ := ins_on hin 7 (by kernel_rfl)
   have e16 : a.eval (.tmp 16) = _ := ins_on hin 9 (by kernel_rfl)
   refine upon_val ?_ rfl
   clear hin hg
   obtain ⟨ek, ef⟩ := evs a
   generalize a.eval = ev at *
   go_simp
   all_goals first | omega | (intro _; omega) | go_arith
  ·refine need_yes 2 true rfl (fun a w' hin => ins_on hin 2 (by kernel_rfl)) (fun a w' hg hin => ?_)
   have e17 : a.eval (.tmp 17) = _ := ins_on hin 10 (by kernel_rfl)
   have h1 : w'.cell? ⟨b, off + (n + 1), none⟩ = some (.int .u8 (y.toNat : Int)) := (Below.cell hg (cell_lt hy)).trans hy
   refine upon_val ?_ rfl
   clear hin hg
   obtain ⟨ek, ef⟩ := evs a
   generalize a.eval = ev at *
   go_simp
   all_goals first | omega | (intro _; omega) | go_arith
  ·refine need_yes 2 true rfl (fun a w' hin => ins_on hin 2 (by kernel_rfl)) (fun a w' hg hin => ?_)
   have e13 : a.eval (.tmp 13) = _ := ins_on hin 6 (by kernel_rfl)
   have e18 : a.eval (.tmp 18) = _ := ins_on hin 11 (by kernel_rfl)
   refine upon_call (f := 106) (args := #[.int .u8 (x.toNat : Int), .int .u8 (y.toNat : Int)]) ?_ ((number_any x y w').mono ?_)
   ·clear hin hg
    obtain ⟨ek, ef⟩ := evs a
    generalize a.eval = ev at *
    go_simp
    all_goals first | omega | (intro _; omega) | go_arith
   ·rintro e w2 ⟨rfl, rfl⟩
    exact ⟨_, rfl, Grow.refl _, rfl⟩
  ·refine need_yes 2 true rfl (fun a w' hin => ins_on hin 2 (by kernel_rfl)) (fun a w' hg hin => ?_)
   have e : a.eval (.tmp 0) = .slice (some ⟨b, off, none⟩) (n + 2) cap := ins_ext hin 0 (by kernel_rfl)
   exact upon_move rfl e
  ·refine need_yes 2 true rfl (fun a w' hin => ins_on hin 2 (by kernel_rfl)) (fun a w' hg hin => ?_)
   have e : a.eval (.tmp 3) = .int .i64 n := ins_ext hin 3 (by kernel_rfl)
   exact upon_move rfl e
  ·refine need_yes 2 true rfl (fun a w' hin => ins_on hin 2 (by kernel_rfl)) (fun a w' hg hin => ?_)
   have e20 : a.eval (.tmp 20) = _ := ins_on hin 13 (by kernel_rfl)
   have e21 : a.eval (.tmp 21) = _ := ins_on hin 14 (by kernel_rfl)
   refine upon_val ?_ rfl
   clear hin hg
   obtain ⟨ek, ef⟩ := evs a
   generalize a.eval = ev at *
   go_simp
   all_goals first | omega | (intro _; omega) | go_arith
  ·refine need_yes 2 true rfl (fun a w' hin => ins_on hin 2 (by kernel_rfl)) (fun a w' hg hin => ?_)
   have e22 : a.eval (.tmp 22) = _ := ins_on hin 15 (by kernel_rfl)
   refine upon_call (f := 119) (args := #[.slice (some ⟨b, off, none⟩) n cap]) ?_ ((of_any l _ w' (by have := HL.out; omega) (bytes_grow hb0 hg)).mono ?_)
   ·clear hin hg
    obtain ⟨ek, ef⟩ := evs a
    generalize a.eval = ev at *
    go_simp
    all_goals first | omega | (intro _; omega) | go_arith
   ·rintro e w2 ⟨rfl, rfl⟩
    exact ⟨_, rfl, Grow.refl _, rfl⟩
  ·refine need_yes 2 true rfl (fun a w' hin => ins_on hin 2 (by kernel_rfl)) (fun a w' hg hin => ?_)
   have e19 : a.eval (.tmp 19) = _ := ins_on hin 12 (by kernel_rfl)
   have e23 : a.eval (.tmp 23) = _ := ins_on hin 16 (by kernel_rfl)
   refine upon_val ?_ rfl
   clear hin hg
   obtain ⟨ek, ef⟩ := evs a
   generalize a.eval = ev at *
   go_simp
   all_goals first | omega | (intro _; omega) | go_arith
  ·refine need_plain rfl (fun a w' hg hin => ?_)
   have ec : a.eval (.tmp 9) = _ := ins_on hin 2 (by kernel_rfl)
   have e : a.eval (.tmp 24) = _ := ins_on hin 17 (by kernel_rfl)
   exact upon_pick rfl ec e
  ·refine need_plain rfl (fun a w' hg hin => ?_)
   have e : a.eval (.tmp 25) = _ := ins_on hin 18 (by kernel_rfl)
   exact upon_assign rfl e
 ·intro vs w' hg ht
  obtain ⟨q7, q8, q9, q10, q11, q12, q13, q14, q15, q16, q17, q18, q19, q20, q21, q22, q23, q24, q25, q2, -⟩ := ht
  have r7 : vs 0 = .int .i64 n := q7
  have r8 : vs 1 = .bool true := q8
  have r9 : vs 2 = .bool true := q9
  have r10 : vs 3 = .slice (some ⟨b, off, none⟩) (n + 2) cap := q10
  have r11 : vs 4 = .int .i64 n := q11
  have r12 : vs 5 = .pointer (some ⟨b, off + n, none⟩) := q12
  have r13 : vs 6 = .int .u8 (x.toNat : Int) := q13
  have r14 : vs 7 = .slice (some ⟨b, off, none⟩) (n + 2) cap := q14
  have r15 : vs 8 = .int .i64 n := q15
  have r16 : vs 9 = .int .i64 ((n : Int) + 1) := q16
  have r17 : vs 10 = .pointer (some ⟨b, off + (n + 1), none⟩) := q17
  have r18 : vs 11 = .int .u8 (y.toNat : Int) := q18
  have r19 : vs 12 = .int .i64 ((x.toNat : Int) * 256 + (y.toNat : Int)) := q19
  have r20 : vs 13 = .slice (some ⟨b, off, none⟩) (n + 2) cap := q20
  have r21 : vs 14 = .int .i64 n := q21
  have r22 : vs 15 = .slice (some ⟨b, off, none⟩) n cap := q22
  have r23 : vs 16 = .int .i64 (sumOf l) := q23
  have r24 : vs 17 = .bool ((x.toNat : Int) * 256 + (y.toNat : Int) == sumOf l) := q24
  have r25 : vs 18 = .bool ((x.toNat : Int) * 256 + (y.toNat : Int) == sumOf l) := q25
  have r2 : vs 19 = .bool ((x.toNat : Int) * 256 + (y.toNat : Int) == sumOf l) := q2
  clear q7 q8 q9 q10 q11 q12 q13 q14 q15 q16 q17 q18 q19 q20 q21 q22 q23 q24 q25 q2
  simp only [putAll, Act.put, List.setIfInBounds_toArray, List.set_cons_zero, List.set_cons_succ, r7, r8, r9, r10, r11, r12, r13, r14, r15, r16, r17, r18, r19, r20, r21, r22, r23, r24, r25, r2]
  clear r7 r8 r9 r10 r11 r12 r13 r14 r15 r16 r17 r18 r19 r20 r21 r22 r23 r24 r25 r2
  go_wp2
  go_ret
  exact ⟨rfl, hg⟩

theorem issealed_any (l : List UInt8) (v : Value) (w : World) (hm : l.length ≤ 140737488355328) (h : Bytes w v l) :
  Calls Try.prog 114 #[v] w fun e w' => e = .returned (.bool (sealedB l)) ∧ Grow w w' := by
 by_cases hs : l.length < 2
 ·have e : sealedB l = false := by simp [sealedB]; omega
  rw [e]
  rcases h with ⟨ao, cap, rfl, rfl, h0⟩ | ⟨b, off, cap, rfl, hcap, hc⟩
  ·exact issealed_short [] ao cap w hs
  ·exact issealed_short l _ cap w hs
 ·rcases h with ⟨ao, cap, rfl, rfl, h0⟩ | ⟨b, off, cap, rfl, hcap, hc⟩
  ·simp at hs
  ·have hl : l.length = (l.length - 2) + 2 := by omega
   have e : sealedB l = ((((l.getD (l.length - 2) 0).toNat : Int) * 256 + ((l.getD (l.length - 1) 0).toNat : Int)) == sumOf (l.take (l.length - 2))) := by
    unfold sealedB; rw [decide_eq_true (by omega : 2 ≤ l.length), Bool.true_and]
   rw [e, show (Value.slice (some ⟨b, off, none⟩) l.length cap) = .slice (some ⟨b, off, none⟩) ((l.length - 2) + 2) cap from by rw [← hl]]
   refine issealed_long (l.take (l.length - 2)) _ _ b off cap (l.length - 2) w (by omega) (by omega) (by simp) (fun i hi => ?_) ?_ ?_
   ·rw [List.getElem_take]; exact hc i (by simp at hi; omega)
   ·have := hc (l.length - 2) (by omega)
    rw [this, List.getD_eq_getElem?_getD, List.getElem?_eq_getElem (by omega)]; rfl
   ·have := hc (l.length - 1) (by omega)
    rw [show l.length - 2 + 1 = l.length - 1 from by omega, this, List.getD_eq_getElem?_getD, List.getElem?_eq_getElem (by omega)]; rfl

/-- Bytes as a string. -/
def str (l : List UInt8) : Value := .string ⟨l.toArray⟩

theorem push_fold (l : List UInt8) : ∀ (s : ByteArray), (l.map (fun c => (c.toNat : Int))).foldl (fun r n => r.push (UInt8.ofNat n.toNat)) s = ⟨s.data ++ l.toArray⟩ := by
 induction l with
 | nil => intro s; simp
 | cons c l ih =>
  intro s
  simp only [List.map_cons, List.foldl_cons]
  rw [ih]
  simp [ByteArray.push]

theorem run_str (w : World) (v : Value) (l : List UInt8) (h : Bytes w v l) : (convert 31 9 v).run Try.prog w = .ok (str l) w := by
 obtain ⟨ao, cap, rfl, hnone, hcells⟩ := bytes_src h
 rw [run_convert_bytes_string w 31 9 5 ao l.length cap Try.underlying31 Try.underlying5 Try.underlying9]
 cases ao with
 | none =>
  obtain ⟨h1, _⟩ := hnone rfl
  obtain rfl := List.eq_nil_of_length_eq_zero h1
  rfl
 | some ad =>
  have h1 : (loadCells ad l.length).run Try.prog w = .ok ((l.map (fun c => (c.toNat : Int))).map (Value.int .u8)).toArray w := by
   have h2 := run_loadCells_list (P := Try.prog) (w := w) ad (l.map bv) (hcells ad rfl)
   simp only [List.length_map] at h2
   rw [h2]
   simp [bv, Function.comp_def]
  rw [run_bytesToString w ad l.length cap _ h1, push_fold]
  simp [str]

theorem st_bytes (l : List UInt8) : Stable (fun v w => Bytes w v l) := fun _ _ _ hg h => bytes_grow h hg

set_option maxHeartbeats 400000 in
theorem rsealed_short (l : List UInt8) (ao : Option Addr) (cap : Nat) (w : World) (hs : l.length < 2) :
  Calls Try.prog 79 #[.slice ao l.length cap] w fun e w' => e = .returned (.bool false) ∧ Grow w w' := by
 go_enter Try.func79, Try.ntmps79
 go_wp2
 refine wp_region_told [ex (.slice ao l.length cap), ex (.int .i64 (l.length : Int)), ex (.bool false), ex (.bool false), ex (undef), ex (undef), ex (undef), ex (undef), ex (undef), ex (undef), ex (undef), ex (undef), ex (undef), ex (undef), ex (.bool false), ex (.bool false)] (by kernel_rfl) (by kernel_rfl) ⟨st_ex _, st_ex _, st_ex _, st_ex _, st_ex _, st_ex _, st_ex _, st_ex _, st_ex _, st_ex _, st_ex _, st_ex _, st_ex _, st_ex _, st_ex _, st_ex _, trivial⟩ ?_ ?_
 ·refine ⟨?_, ?_, ?_, ?_, ?_, ?_, ?_, ?_, ?_, ?_, ?_, ?_, ?_, ?_, ?_, ?_, trivial⟩
  ·refine need_plain rfl (fun a w' hg hin => ?_)
   have e : a.eval (.tmp 0) = .slice ao l.length cap := ins_ext hin 0 (by kernel_rfl)
   exact upon_move rfl e
  ·refine need_plain rfl (fun a w' hg hin => ?_)
   have e3 : a.eval (.tmp 3) = _ := ins_on hin 0 (by kernel_rfl)
   refine upon_val ?_ rfl
   clear hin hg
   obtain ⟨ek, ef⟩ := evs a
   generalize a.eval = ev at *
   go_simp
   all_goals first | omega | (intro _; omega) | go_arith
  ·refine need_plain rfl (fun a w' hg hin => ?_)
   have e4 : a.eval (.tmp 4) = _ := ins_on hin 1 (by kernel_rfl)
   refine upon_val ?_ rfl
   clear hin hg
   obtain ⟨ek, ef⟩ := evs a
   generalize a.eval = ev at *
   go_simp
   all_goals first | omega | (intro _; omega) | go_arith
  ·refine need_plain rfl (fun a w' hg hin => ?_)
   have e : a.eval (.tmp 5) = _ := ins_on hin 2 (by kernel_rfl)
   exact upon_move rfl e
  ·refine need_no 3 true false rfl (by decide) (fun a w' hin => ins_on hin 3 (by kernel_rfl)) (fun _ => rfl)
  ·refine need_no 3 true false rfl (by decide) (fun a w' hin => ins_on hin 3 (by kernel_rfl)) (fun _ => rfl)
  ·refine need_no 3 true false rfl (by decide) (fun a w' hin => ins_on hin 3 (by kernel_rfl)) (fun _ => rfl)
  ·refine need_no 3 true false rfl (by decide) (fun a w' hin => ins_on hin 3 (by kernel_rfl)) (fun _ => rfl)
  ·refine need_no 3 true false rfl (by decide) (fun a w' hin => ins_on hin 3 (by kernel_rfl)) (fun _ => rfl)
  ·refine need_no 3 true false rfl (by decide) (fun a w' hin => ins_on hin 3 (by kernel_rfl)) (fun _ => rfl)
  ·refine need_no 3 true false rfl (by decide) (fun a w' hin => ins_on hin 3 (by kernel_rfl)) (fun _ => rfl)
  ·refine need_no 3 true false rfl (by decide) (fun a w' hin => ins_on hin 3 (by kernel_rfl)) (fun _ => rfl)
  ·refine need_no 3 true false rfl (by decide) (fun a w' hin => ins_on hin 3 (by kernel_rfl)) (fun _ => rfl)
  ·refine need_no 3 true false rfl (by decide) (fun a w' hin => ins_on hin 3 (by kernel_rfl)) (fun _ => rfl)
  ·refine need_plain rfl (fun a w' hg hin => ?_)
   have ec : a.eval (.tmp 6) = _ := ins_on hin 3 (by kernel_rfl)
   exact upon_pick rfl ec rfl
  ·refine need_plain rfl (fun a w' hg hin => ?_)
   have e : a.eval (.tmp 17) = _ := ins_on hin 14 (by kernel_rfl)
   exact upon_assign rfl e
 ·intro vs w' hg ht
  obtain ⟨q3, q4, q5, q6, q7, q8, q9, q10, q11, q12, q13, q14, q15, q16, q17, q2, -⟩ := ht
  have r3 : vs 0 = .slice ao l.length cap := q3
  have r4 : vs 1 = .int .i64 (l.length : Int) := q4
  have r5 : vs 2 = .bool false := q5
  have r6 : vs 3 = .bool false := q6
  have r7 : vs 4 = undef := q7
  have r8 : vs 5 = undef := q8
  have r9 : vs 6 = undef := q9
  have r10 : vs 7 = undef := q10
  have r11 : vs 8 = undef := q11
  have r12 : vs 9 = undef := q12
  have r13 : vs 10 = undef := q13
  have r14 : vs 11 = undef := q14
  have r15 : vs 12 = undef := q15
  have r16 : vs 13 = undef := q16
  have r17 : vs 14 = .bool false := q17
  have r2 : vs 15 = .bool false := q2
  clear q3 q4 q5 q6 q7 q8 q9 q10 q11 q12 q13 q14 q15 q16 q17 q2
  simp only [putAll, Act.put, List.setIfInBounds_toArray, List.set_cons_zero, List.set_cons_succ, r3, r4, r5, r6, r7, r8, r9, r10, r11, r12, r13, r14, r15, r16, r17, r2]
  clear r3 r4 r5 r6 r7 r8 r9 r10 r11 r12 r13 r14 r15 r16 r17 r2
  go_wp2
  go_ret
  exact ⟨rfl, hg⟩

set_option maxHeartbeats 400000 in
theorem rsealed_long (l m : List UInt8) (b off cap n : Nat) (w : World) (hm : n ≤ 140737488355326) (hcap : n + 2 ≤ cap) (hl : l.length = n)
  (hb : Bytes w (.slice (some ⟨b, off, none⟩) n cap) l) (hbm : Bytes w (.slice (some ⟨b, off, none⟩) (n + 2) cap) m) :
  Calls Try.prog 79 #[.slice (some ⟨b, off, none⟩) (n + 2) cap] w fun e w' => e = .returned (.bool (sealed l == m)) ∧ Grow w w' := by
 have HL : Hid (l.length = n) := hl
 clear hl
 go_enter Try.func79, Try.ntmps79
 go_wp2
 refine wp_region_told [ex (.slice (some ⟨b, off, none⟩) (n + 2) cap), ex (.int .i64 ((n : Int) + 2)), ex (.bool true), ex (.bool true), ex (.slice (some ⟨b, off, none⟩) (n + 2) cap), ex (.slice (some ⟨b, off, none⟩) (n + 2) cap), ex (.int .i64 ((n : Int) + 2)), ex (.int .i64 (n : Int)), ex (.slice (some ⟨b, off, none⟩) n cap), (fun v w => Bytes w v (sealed l)), ex (str (sealed l)), ex (.slice (some ⟨b, off, none⟩) (n + 2) cap), ex (str m), ex (.bool (sealed l == m)), ex (.bool (sealed l == m)), ex (.bool (sealed l == m))] (by kernel_rfl) (by kernel_rfl) ⟨st_ex _, st_ex _, st_ex _, st_ex _, st_ex _, st_ex _, st_ex _, st_ex _, st_ex _, st_bytes _, st_ex _, st_ex _, st_ex _, st_ex _, st_ex _, st_ex _, trivial⟩ ?_ ?_
 ·refine ⟨?_, ?_, ?_, ?_, ?_, ?_, ?_, ?_, ?_, ?_, ?_, ?_, ?_, ?_, ?_, ?_, trivial⟩
  ·refine need_plain rfl (fun a w' hg hin => ?_)
   have e : a.eval (.tmp 0) = .slice (some ⟨b, off, none⟩) (n + 2) cap := ins_ext hin 0 (by kernel_rfl)
   exact upon_move rfl e
  ·refine need_plain rfl (fun a w' hg hin => ?_)
   have e3 : a.eval (.tmp 3) = _ := ins_on hin 0 (by kernel_rfl)
   refine upon_val ?_ rfl
   clear hin hg
   obtain ⟨ek, ef⟩ := evs a
   generalize a.eval = ev at *
   go_simp
   all_goals first | omega | (intro _; omega) | go_arith
  ·refine need_plain rfl (fun a w' hg hin => ?_)
   have e4 : a.eval (.tmp 4) = _ := ins_on hin 1 (by kernel_rfl)
   refine upon_val ?_ rfl
   clear hin hg
   obtain ⟨ek, ef⟩ := evs a
   generalize a.eval = ev at *
   go_simp
   all_goals first | omega | (intro _; omega) | go_arith
  ·refine need_plain rfl (fun a w' hg hin => ?_)
   have e : a.eval (.tmp 5) = _ := ins_on hin 2 (by kernel_rfl)
   exact upon_move rfl e
  ·refine need_yes 3 true rfl (fun a w' hin => ins_on hin 3 (by kernel_rfl)) (fun a w' hg hin => ?_)
   have e : a.eval (.tmp 0) = .slice (some ⟨b, off, none⟩) (n + 2) cap := ins_ext hin 0 (by kernel_rfl)
   exact upon_move rfl e
  ·refine need_yes 3 true rfl (fun a w' hin => ins_on hin 3 (by kernel_rfl)) (fun a w' hg hin => ?_)
   have e : a.eval (.tmp 0) = .slice (some ⟨b, off, none⟩) (n + 2) cap := ins_ext hin 0 (by kernel_rfl)
   exact upon_move rfl e
  ·refine need_yes 3 true rfl (fun a w' hin => ins_on hin 3 (by kernel_rfl)) (fun a w' hg hin => ?_)
   have e8 : a.eval (.tmp 8) = _ := ins_on hin 5 (by kernel_rfl)
   refine upon_val ?_ rfl
   clear hin hg
   obtain ⟨ek, ef⟩ := evs a
   generalize a.eval = ev at *
   go_simp
   all_goals first | omega | (intro _; omega) | go_arith
  ·refine need_yes 3 true rfl (fun a w' hin => ins_on hin 3 (by kernel_rfl)) (fun a w' hg hin => ?_)
   have e9 : a.eval (.tmp 9) = _ := ins_on hin 6 (by kernel_rfl)
   refine upon_val ?_ rfl
   clear hin hg
   obtain ⟨ek, ef⟩ := evs a
   generalize a.eval = ev at *
   go_simp
   all_goals first | omega | (intro _; omega) | go_arith
  ·refine need_yes 3 true rfl (fun a w' hin => ins_on hin 3 (by kernel_rfl)) (fun a w' hg hin => ?_)
   have e7 : a.eval (.tmp 7) = _ := ins_on hin 4 (by kernel_rfl)
   have e10 : a.eval (.tmp 10) = _ := ins_on hin 7 (by kernel_rfl)
   refine upon_val ?_ rfl
   clear hin hg
   obtain ⟨ek, ef⟩ := evs a
   generalize a.eval = ev at *
   go_simp
   all_goals first | omega | (intro _; omega) | go_arith
  ·refine need_yes 3 true rfl (fun a w' hin => ins_on hin 3 (by kernel_rfl)) (fun a w' hg hin => ?_)
   have e11 : a.eval (.tmp 11) = _ := ins_on hin 8 (by kernel_rfl)
   refine upon_call (f := 88) (args := #[.slice (some ⟨b, off, none⟩) n cap]) ?_ ((rseal_any l _ w' (by have := HL.out; omega) (bytes_grow hb hg)).mono ?_)
   ·clear hin hg
    obtain ⟨ek, ef⟩ := evs a
    generalize a.eval = ev at *
    go_simp
    all_goals first | omega | (intro _; omega) | go_arith
   ·rintro e w2 ⟨v', rfl, ho, hgr⟩
    exact ⟨_, rfl, hgr, bytes_own ho⟩
  ·refine need_yes 3 true rfl (fun a w' hin => ins_on hin 3 (by kernel_rfl)) (fun a w' hg hin => ?_)
   have e12 : (fun v w => Bytes w v (sealed l)) (a.eval (.tmp 12)) w' := ins_on hin 9 (by kernel_rfl)
   refine upon_val ?_ rfl
   have hrun := run_str w' _ _ e12
   clear hin hg e12
   obtain ⟨ek, ef⟩ := evs a
   generalize a.eval = ev at *
   go_simp
   all_goals first | omega | (intro _; omega) | go_arith
  ·refine need_yes 3 true rfl (fun a w' hin => ins_on hin 3 (by kernel_rfl)) (fun a w' hg hin => ?_)
   have e : a.eval (.tmp 0) = .slice (some ⟨b, off, none⟩) (n + 2) cap := ins_ext hin 0 (by kernel_rfl)
   exact upon_move rfl e
  ·refine need_yes 3 true rfl (fun a w' hin => ins_on hin 3 (by kernel_rfl)) (fun a w' hg hin => ?_)
   have e14 : a.eval (.tmp 14) = _ := ins_on hin 11 (by kernel_rfl)
   refine upon_val ?_ rfl
   have hrun := run_str w' _ _ (bytes_grow hbm hg)
   clear hin hg
   obtain ⟨ek, ef⟩ := evs a
   generalize a.eval = ev at *
   go_simp
   all_goals first | omega | (intro _; omega) | go_arith
  ·refine need_yes 3 true rfl (fun a w' hin => ins_on hin 3 (by kernel_rfl)) (fun a w' hg hin => ?_)
   have e13 : a.eval (.tmp 13) = _ := ins_on hin 10 (by kernel_rfl)
   have e15 : a.eval (.tmp 15) = _ := ins_on hin 12 (by kernel_rfl)
   refine upon_val ?_ rfl
   unfold str at e13 e15
   clear hin hg
   obtain ⟨ek, ef⟩ := evs a
   generalize a.eval = ev at *
   go_simp
   all_goals first | omega | (intro _; omega) | go_arith
  ·refine need_plain rfl (fun a w' hg hin => ?_)
   have ec : a.eval (.tmp 6) = _ := ins_on hin 3 (by kernel_rfl)
   have e : a.eval (.tmp 16) = _ := ins_on hin 13 (by kernel_rfl)
   exact upon_pick rfl ec e
  ·refine need_plain rfl (fun a w' hg hin => ?_)
   have e : a.eval (.tmp 17) = _ := ins_on hin 14 (by kernel_rfl)
   exact upon_assign rfl e
 ·intro vs w' hg ht
  obtain ⟨q3, q4, q5, q6, q7, q8, q9, q10, q11, q12, q13, q14, q15, q16, q17, q2, -⟩ := ht
  have r3 : vs 0 = .slice (some ⟨b, off, none⟩) (n + 2) cap := q3
  have r4 : vs 1 = .int .i64 ((n : Int) + 2) := q4
  have r5 : vs 2 = .bool true := q5
  have r6 : vs 3 = .bool true := q6
  have r7 : vs 4 = .slice (some ⟨b, off, none⟩) (n + 2) cap := q7
  have r8 : vs 5 = .slice (some ⟨b, off, none⟩) (n + 2) cap := q8
  have r9 : vs 6 = .int .i64 ((n : Int) + 2) := q9
  have r10 : vs 7 = .int .i64 (n : Int) := q10
  have r11 : vs 8 = .slice (some ⟨b, off, none⟩) n cap := q11
  have r13 : vs 10 = str (sealed l) := q13
  have r14 : vs 11 = .slice (some ⟨b, off, none⟩) (n + 2) cap := q14
  have r15 : vs 12 = str m := q15
  have r16 : vs 13 = .bool (sealed l == m) := q16
  have r17 : vs 14 = .bool (sealed l == m) := q17
  have r2 : vs 15 = .bool (sealed l == m) := q2
  clear q3 q4 q5 q6 q7 q8 q9 q10 q11 q13 q14 q15 q16 q17 q2
  simp only [putAll, Act.put, List.setIfInBounds_toArray, List.set_cons_zero, List.set_cons_succ, r3, r4, r5, r6, r7, r8, r9, r10, r11, r13, r14, r15, r16, r17, r2]
  clear r3 r4 r5 r6 r7 r8 r9 r10 r11 r13 r14 r15 r16 r17 r2
  go_wp2
  go_ret
  exact ⟨rfl, hg⟩

theorem sealedB_eq (l : List UInt8) (h : 2 ≤ l.length) : (sealed (l.take (l.length - 2)) == l) = sealedB l := by
 have hs := sumOf_bd (l.take (l.length - 2))
 have hl : l = l.take (l.length - 2) ++ [l[l.length - 2], l[l.length - 1]] := by
  conv => lhs; rw [← List.take_append_drop (l.length - 2) l]
  congr 1
  rw [List.drop_eq_getElem_cons (by omega), List.drop_eq_getElem_cons (by omega), List.drop_eq_nil_of_le (by omega)]
  simp [show l.length - 2 + 1 = l.length - 1 from by omega]
 have e1 : l.getD (l.length - 2) 0 = l[l.length - 2] := by rw [List.getD_eq_getElem?_getD, List.getElem?_eq_getElem (by omega)]; rfl
 have e2 : l.getD (l.length - 1) 0 = l[l.length - 1] := by rw [List.getD_eq_getElem?_getD, List.getElem?_eq_getElem (by omega)]; rfl
 unfold sealedB
 rw [decide_eq_true h, Bool.true_and, e1, e2, Bool.eq_iff_iff, beq_iff_eq, beq_iff_eq, two_eq _ _ _ hs.1 (by omega)]
 unfold sealed
 constructor
 ·intro h3
  have h4 : l.take (l.length - 2) ++ [hi (sumOf (l.take (l.length - 2))), lo (sumOf (l.take (l.length - 2)))] = l.take (l.length - 2) ++ [l[l.length - 2], l[l.length - 1]] := h3.trans hl
  have h5 := List.append_cancel_left h4
  simp only [List.cons.injEq, and_true] at h5
  exact h5
 ·rintro ⟨h3, h4⟩
  rw [h3, h4]
  exact hl.symm

theorem rsealed_any (l : List UInt8) (v : Value) (w : World) (hm : l.length ≤ 140737488355328) (h : Bytes w v l) :
  Calls Try.prog 79 #[v] w fun e w' => e = .returned (.bool (sealedB l)) ∧ Grow w w' := by
 by_cases hs : l.length < 2
 ·have e : sealedB l = false := by simp [sealedB]; omega
  rw [e]
  rcases h with ⟨ao, cap, rfl, rfl, h0⟩ | ⟨b, off, cap, rfl, hcap, hc⟩
  ·exact rsealed_short [] ao cap w hs
  ·exact rsealed_short l _ cap w hs
 ·have h2 := h
  rcases h with ⟨ao, cap, rfl, rfl, h0⟩ | ⟨b, off, cap, rfl, hcap, hc⟩
  ·simp at hs
  ·have hl : l.length = (l.length - 2) + 2 := by omega
   rw [← sealedB_eq l (by omega)]
   have e3 : (Value.slice (some ⟨b, off, none⟩) l.length cap) = .slice (some ⟨b, off, none⟩) ((l.length - 2) + 2) cap := by rw [← hl]
   rw [e3] at h2 ⊢
   exact rsealed_long (l.take (l.length - 2)) l b off cap (l.length - 2) w (by omega) (by omega) (by simp) (slice_bytes rfl (by omega) hcap hc) h2
end Go.Proofs.Ytgaecpdokgklpab

/-
  What block.Same and the document's Same tell of any two records: whether they are alike.
  Condition: the records' data lie in memory.
-/
namespace Go.Proofs.Ytgaecpdokgklpab
set_option maxRecDepth 100000
open Go.RowKit
open Go.Proofs.Ytgaecpdokgklpab.Plain Go.Proofs.Ytgaecpdokgklpab.Reg

set_option maxHeartbeats 400000 in
theorem equal_any (l m : List UInt8) (v u : Value) (w : World) (hv : Bytes w v l) (hu : Bytes w u m) :
  Calls Try.prog 102 #[v, u] w fun e w' => e = .returned (.bool (l == m)) ∧ w = w' := by
 have h1 := run_str w _ _ hv
 have h2 := run_str w _ _ hu
 unfold str at h1 h2
 clear hv hu
 go_enter Try.func102, Try.ntmps102
 go_wp2
 go_ret
 exact ⟨rfl, rfl⟩

theorem grow_alloc2 (w : World) (o p : Obj) : Grow w ((w.alloc o).alloc p) := (grow_alloc w o).trans (grow_alloc _ p)

set_option maxHeartbeats 400000 in
theorem same_any (k y n k' y' n' : Int) (l m : List UInt8) (v u : Value) (w : World) (hv : Bytes w v l) (hu : Bytes w u m) :
  Calls Try.prog 85 #[.agg #[.int .i64 k, .int .i64 y, .int .i64 n, v], .agg #[.int .i64 k', .int .i64 y', .int .i64 n', u]] w fun e w' => e = .returned (.bool (sameB ⟨k, y, n, l⟩ ⟨k', y', n', m⟩)) ∧ Grow w w' := by
 go_enter Try.func85, Try.ntmps85
 go_wp2_with (go_at_call 102; refine (equal_any l m v u _ (by exact bytes_grow hv (grow_alloc2 _ _ _)) (by exact bytes_grow hu (grow_alloc2 _ _ _))).mono ?_; rintro e w' ⟨rfl, rfl⟩)
 all_goals go_ret
 all_goals refine ⟨?_, grow_alloc2 _ _ _⟩
 all_goals simp_all [sameB]

set_option maxHeartbeats 400000 in
theorem rsame_any (k y n k' y' n' : Int) (l m : List UInt8) (v u : Value) (w : World) (hv : Bytes w v l) (hu : Bytes w u m) :
  Calls Try.prog 13 #[.agg #[.int .i64 k, .int .i64 y, .int .i64 n, v], .agg #[.int .i64 k', .int .i64 y', .int .i64 n', u]] w fun e w' => e = .returned (.bool (sameB ⟨k, y, n, l⟩ ⟨k', y', n', m⟩)) ∧ Grow w w' := by
 by_cases h : k = k' ∧ y = y' ∧ n = n'
 ·obtain ⟨rfl, rfl, rfl⟩ := h
  have h1 := run_str _ _ _ (bytes_grow hv (grow_alloc2 w (.cells #[.int .i64 k, .int .i64 y, .int .i64 n, v] 33) (.cells #[.int .i64 k, .int .i64 y, .int .i64 n, u] 33)))
  have h2 := run_str _ _ _ (bytes_grow hu (grow_alloc2 w (.cells #[.int .i64 k, .int .i64 y, .int .i64 n, v] 33) (.cells #[.int .i64 k, .int .i64 y, .int .i64 n, u] 33)))
  unfold str at h1 h2
  clear hv hu
  go_enter Try.func13, Try.ntmps13
  go_wp2
  go_ret
  refine ⟨?_, grow_alloc2 _ _ _⟩
  simp [sameB]
 ·clear hv hu
  by_cases h1 : k = k'
  ·subst h1
   by_cases h2 : y = y'
   ·subst h2
    have d3 : (n == n') = false := by simp at h; simpa using h
    have HN : Hid (sameB ⟨k, y, n, l⟩ ⟨k, y, n', m⟩ = false) := by show _ = _; simp [sameB, d3]
    rw [HN.out]
    clear h
    go_enter Try.func13, Try.ntmps13
    go_wp2_with fail
    go_ret
    exact ⟨rfl, grow_alloc2 _ _ _⟩
   ·have d2 : (y == y') = false := by simpa using h2
    have HN : Hid (sameB ⟨k, y, n, l⟩ ⟨k, y', n', m⟩ = false) := by show _ = _; simp [sameB, d2]
    rw [HN.out]
    clear h h2
    go_enter Try.func13, Try.ntmps13
    go_wp2_with fail
    go_ret
    exact ⟨rfl, grow_alloc2 _ _ _⟩
  ·have d1 : (k == k') = false := by simpa using h1
   have HN : Hid (sameB ⟨k, y, n, l⟩ ⟨k', y', n', m⟩ = false) := by show _ = _; simp [sameB, d1]
   rw [HN.out]
   clear h h1
   go_enter Try.func13, Try.ntmps13
   go_wp2_with fail
   go_ret
   exact ⟨rfl, grow_alloc2 _ _ _⟩
end Go.Proofs.Ytgaecpdokgklpab
