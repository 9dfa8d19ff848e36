/-
  What the program's Own, Drop and Add make of entries.
  Condition: the entries lie in memory, each with at most eight bytes, at most a million of them.
-/
import Derived.Test.YtgaecpdokgklpabIdxA
import Derived.Lib.AppendZeros
namespace Go.Proofs.Ytgaecpdokgklpab
set_option maxRecDepth 100000
open Go.RowKit
open Go.Proofs.Ytgaecpdokgklpab.Plain Go.Proofs.Ytgaecpdokgklpab.Reg

theorem enters_own1 (args : Array Value) (w : World) : (callFunc 68 args).run Try.prog w = .ok (.enter 68 args) w := by
 simp [callFunc, Try.func68, Try.f68, mark]
theorem enters_drop1 (args : Array Value) (w : World) : (callFunc 52 args).run Try.prog w = .ok (.enter 52 args) w := by
 simp [callFunc, Try.func52, Try.f52, mark]
theorem enters_add1 (args : Array Value) (w : World) : (callFunc 46 args).run Try.prog w = .ok (.enter 46 args) w := by
 simp [callFunc, Try.func46, Try.f46, mark]
theorem enters_add2 (args : Array Value) (w : World) : (callFunc 48 args).run Try.prog w = .ok (.enter 48 args) w := by
 simp [callFunc, Try.func48, Try.f48, mark]
theorem enters_add3 (args : Array Value) (w : World) : (callFunc 49 args).run Try.prog w = .ok (.enter 49 args) w := by
 simp [callFunc, Try.func49, Try.f49, mark]

theorem own1_any (x : Ent) (a : Option Addr) (c : Nat) (w : World) : Calls Try.prog 68 #[.agg #[.int .i64 x.rc.kind, .int .i64 x.rc.key, .int .i64 x.rc.ver, .slice a x.rc.data.length c, .int .i64 x.pair]] w fun e w' => e = .returned (.bool true) ∧ Grow w w' := by
 have g0 := grow_alloc w (.cells #[.int .i64 x.rc.kind, .int .i64 x.rc.key, .int .i64 x.rc.ver, .slice a x.rc.data.length c, .int .i64 x.pair] 37)
 go_enter Try.func68, Try.ntmps68
 go_wp2_with fail
 go_ret
 exact ⟨rfl, g0⟩
theorem drop1_any (x : Ent) (a : Option Addr) (c : Nat) (p : Int) (g : Nat) (w : World) (hp : w.heap[g]? = some (.cells #[.int .i64 p] 3 (0, 0))) : Calls Try.prog 52 #[.agg #[.int .i64 x.rc.kind, .int .i64 x.rc.key, .int .i64 x.rc.ver, .slice a x.rc.data.length c, .int .i64 x.pair], .pointer (some ⟨g, 0, none⟩)] w fun e w' => e = .returned (.bool (x.pair != p)) ∧ Grow w w' := by
 have g0 := grow_alloc w (.cells #[.int .i64 x.rc.kind, .int .i64 x.rc.key, .int .i64 x.rc.ver, .slice a x.rc.data.length c, .int .i64 x.pair] 37)
 have y0 := box_cell ((g0.block _ (heap_lt hp)).trans hp) 0 _ rfl
 go_enter Try.func52, Try.ntmps52
 go_wp2_with fail
 go_ret
 exact ⟨rfl, g0⟩
theorem add1_any (x e : Ent) (a b : Option Addr) (c d : Nat) (g : Nat) (w : World) (hne : x.pair ≠ e.pair) (hp : w.heap[g]? = some (.cells #[.int .i64 e.rc.kind, .int .i64 e.rc.key, .int .i64 e.rc.ver, .slice b e.rc.data.length d, .int .i64 e.pair] 37 (0, 0))) : Calls Try.prog 46 #[.agg #[.int .i64 x.rc.kind, .int .i64 x.rc.key, .int .i64 x.rc.ver, .slice a x.rc.data.length c, .int .i64 x.pair], .pointer (some ⟨g, 0, none⟩)] w fun e w' => e = .returned (.bool false) ∧ Grow w w' := by
 have g0 := grow_alloc w (.cells #[.int .i64 x.rc.kind, .int .i64 x.rc.key, .int .i64 x.rc.ver, .slice a x.rc.data.length c, .int .i64 x.pair] 37)
 have y4 := box_cell ((g0.block _ (heap_lt hp)).trans hp) 4 _ rfl
 have d0 : (x.pair == e.pair) = false := by simp [hne]
 clear hne
 go_enter Try.func46, Try.ntmps46
 go_wp2_with fail
 go_ret
 exact ⟨rfl, g0⟩
set_option maxHeartbeats 1000000 in
theorem add2_any (x e : Ent) (a b : Option Addr) (c d : Nat) (g : Nat) (w : World) (hp : w.heap[g]? = some (.cells #[.int .i64 e.rc.kind, .int .i64 e.rc.key, .int .i64 e.rc.ver, .slice b e.rc.data.length d, .int .i64 e.pair] 37 (0, 0))) : Calls Try.prog 48 #[.agg #[.int .i64 x.rc.kind, .int .i64 x.rc.key, .int .i64 x.rc.ver, .slice a x.rc.data.length c, .int .i64 x.pair], .pointer (some ⟨g, 0, none⟩)] w fun r w' => r = .returned (.bool (lessB x e)) ∧ Grow w w' := by
 have g0 := grow_alloc w (.cells #[.int .i64 x.rc.kind, .int .i64 x.rc.key, .int .i64 x.rc.ver, .slice a x.rc.data.length c, .int .i64 x.pair] 37)
 have hp1 := (g0.block _ (heap_lt hp)).trans hp
 obtain ⟨y0, y1, y2, y3, y4⟩ := box5 hp1 rfl rfl rfl rfl rfl
 have hx1 := heap_new w #[.int .i64 x.rc.kind, .int .i64 x.rc.key, .int .i64 x.rc.ver, .slice a x.rc.data.length c, .int .i64 x.pair] 37
 obtain ⟨x0, x1, x2, x3, x4⟩ := box5 hx1 rfl rfl rfl rfl rfl
 clear hp hp1 hx1
 obtain ⟨R, hR⟩ : ∃ R, R = lessB x e := ⟨_, rfl⟩
 rw [← hR]
 have HR : Hid _ := hR
 clear hR
 go_enter Try.func48, Try.ntmps48
 go_wp2_with fail
 refine (order_any x e _ _ _ _ _).mono ?_
 rintro r w1 ⟨rfl, g1⟩
 have gE := g0.trans g1
 have HO : Hid (decide (ordI x e < 0) = R) := by show _ = _; rw [ordI_lt, HR.out]
 clear g0 g1 x0 x1 x2 x3 x4 y0 y1 y2 y3 y4
 generalize ordI x e = o at *
 go_wp2_with fail
 go_ret
 exact ⟨by rw [← HO.out]; rfl, gE⟩
set_option maxHeartbeats 1000000 in
theorem add3_any (x e : Ent) (a b : Option Addr) (c d : Nat) (g : Nat) (w : World) (hp : w.heap[g]? = some (.cells #[.int .i64 e.rc.kind, .int .i64 e.rc.key, .int .i64 e.rc.ver, .slice b e.rc.data.length d, .int .i64 e.pair] 37 (0, 0))) : Calls Try.prog 49 #[.agg #[.int .i64 x.rc.kind, .int .i64 x.rc.key, .int .i64 x.rc.ver, .slice a x.rc.data.length c, .int .i64 x.pair], .pointer (some ⟨g, 0, none⟩)] w fun r w' => r = .returned (.bool (lessB e x)) ∧ Grow w w' := by
 have g0 := grow_alloc w (.cells #[.int .i64 x.rc.kind, .int .i64 x.rc.key, .int .i64 x.rc.ver, .slice a x.rc.data.length c, .int .i64 x.pair] 37)
 have hp1 := (g0.block _ (heap_lt hp)).trans hp
 obtain ⟨y0, y1, y2, y3, y4⟩ := box5 hp1 rfl rfl rfl rfl rfl
 have hx1 := heap_new w #[.int .i64 x.rc.kind, .int .i64 x.rc.key, .int .i64 x.rc.ver, .slice a x.rc.data.length c, .int .i64 x.pair] 37
 obtain ⟨x0, x1, x2, x3, x4⟩ := box5 hx1 rfl rfl rfl rfl rfl
 clear hp hp1 hx1
 obtain ⟨R, hR⟩ : ∃ R, R = lessB e x := ⟨_, rfl⟩
 rw [← hR]
 have HR : Hid _ := hR
 clear hR
 go_enter Try.func49, Try.ntmps49
 go_wp2_with fail
 refine (order_any x e _ _ _ _ _).mono ?_
 rintro r w1 ⟨rfl, g1⟩
 have gE := g0.trans g1
 have HO : Hid (decide (0 < ordI x e) = R) := by show _ = _; rw [ordI_gt, HR.out]
 clear g0 g1 x0 x1 x2 x3 x4 y0 y1 y2 y3 y4
 generalize ordI x e = o at *
 go_wp2_with fail
 go_ret
 exact ⟨by rw [← HO.out]; rfl, gE⟩

theorem pown_any (S : Nat → Prop) (l : List Ent) (v : Value) (w : World) (hl : EntsS S w v l) (hn : l.length ≤ 1000000) (h8 : ∀ x ∈ l, x.rc.data.length ≤ 8) :
  Calls Try.prog 36 #[v] w fun e w' => ∃ v' css, e = .returned v' ∧ OutR entShape NoS w.heap.size v' l css w' ∧ Grow w w' := by
 obtain ⟨ao, cp, rfl⟩ := hl.form
 go_enter Try.func36, Try.ntmps36
 go_wp2_with fail
 refine (chosen_any 68 #[] (fun _ => true) S l _ w enters_own1 hl hn h8 (fun x a c w' _ _ => by rw [Array.append_empty]; exact own1_any x a c w')).mono ?_
 rw [List.filter_eq_self.2 (fun _ _ => rfl)]
 rintro e w1 ⟨v', css, rfl, hR, g1⟩
 obtain ⟨a1, c1, rfl⟩ := hR.form
 go_wp2_with fail
 go_ret
 exact ⟨_, _, rfl, hR, g1⟩
theorem OutR.less {α : Type} {sh : Shape α} {S0 : Nat → Prop} {B B' : Nat} {v : Value} {xs : List α} {css : List (List Value)} {w : World} (h : OutR sh S0 B v xs css w) (hb : B' ≤ B) : OutR sh S0 B' v xs css w :=
 ⟨h.len, fun i hi => (h.each i hi).imp fun _ x => ⟨x.1, sh.mono x.2 fun _ k => or_map k (fun y => y) fun y => ⟨Nat.le_trans hb y.1, y.2⟩⟩, own_mono h.row hb⟩
theorem pdrop_any (S : Nat → Prop) (l : List Ent) (p : Int) (v : Value) (w : World) (hl : EntsS S w v l) (hn : l.length ≤ 1000000) (h8 : ∀ x ∈ l, x.rc.data.length ≤ 8) :
  Calls Try.prog 17 #[v, .int .i64 p] w fun e w' => ∃ v' css, e = .returned v' ∧ OutR entShape NoS w.heap.size v' (l.filter fun x => x.pair != p) css w' ∧ Grow w w' := by
 obtain ⟨ao, cp, rfl⟩ := hl.form
 have g0 := grow_alloc w (.cells #[.int .i64 p] 3)
 have hp := heap_new w #[.int .i64 p] 3
 have s0 := World.size_alloc w (.cells #[.int .i64 p] 3)
 go_enter Try.func17, Try.ntmps17
 go_wp2_with fail
 refine (chosen_any 52 #[.pointer (some ⟨w.heap.size, 0, none⟩)] (fun x => x.pair != p) S l _ _ enters_drop1 (hl.grow g0) hn h8 (fun x a c w' _ hg => drop1_any x a c p _ w' ((hg.block _ (heap_lt hp)).trans hp))).mono ?_
 rintro e w1 ⟨v', css, rfl, hR, g1⟩
 have hR2 := hR.less (B' := w.heap.size) (by rw [s0]; omega)
 have gE := g0.trans g1
 obtain ⟨a1, c1, rfl⟩ := hR.form
 clear hR g0 g1 hp s0
 go_wp2_with fail
 go_ret
 exact ⟨_, _, rfl, hR2, gE⟩

set_option maxHeartbeats 1000000 in
theorem index_none (K : Nat) (caps : Array Value) (S : Nat → Prop) (l : List Ent) (v : Value) (w : World) (hK : ∀ (args : Array Value) (w : World), (callFunc K args).run Try.prog w = .ok (.enter K args) w) (hl : EntsS S w v l) (hn : l.length ≤ 1000000)
  (hc : ∀ (x : Ent) (a : Option Addr) (c : Nat) (w' : World), x ∈ l → Grow w w' → Calls Try.prog K (#[.agg #[.int .i64 x.rc.kind, .int .i64 x.rc.key, .int .i64 x.rc.ver, .slice a x.rc.data.length c, .int .i64 x.pair]] ++ caps) w' fun e w2 => e = .returned (.bool false) ∧ Grow w' w2) :
  Calls Try.prog 80 #[v, .func (.func K) #[] caps] w fun e w' => e = .returned (.int .i64 (-1)) ∧ Grow w w' := by
 obtain ⟨ao, cp, rfl⟩ := hl.form
 go_enter Try.func80, Try.ntmps80
 go_wp2_with fail
 go_loopw [8] (fun i wr => ∃ k : Nat, k ≤ l.length ∧ i = .int .i64 k ∧ Grow w wr) (fun i _ => l.length - (intOf i).toNat)
 case atStart => exact ⟨0, Nat.zero_le _, rfl, Grow.refl _⟩
 case round =>
  obtain ⟨k, hk, rfl, hg⟩ := hrel
  by_cases hlt : k < l.length
  ·obtain ⟨b, off, a1, c1, hv1, q0, q1, q2, q3, q4, hu⟩ := ents_at (hl.grow hg) k hlt
   cases hv1
   have HM : Hid (l[k] ∈ l) := List.getElem_mem hlt
   generalize l[k] = x at *
   clear hu
   go_wp2_with fail
   refine (hc x a1 c1 _ HM.out hg).mono ?_
   rintro e w2 ⟨rfl, g2⟩
   have gw := hg.trans g2
   clear g2 hg q0 q1 q2 q3 q4
   go_wp2_with fail
   go_roundw
   case rel => exact ⟨k + 1, by omega, by go_num, gw⟩
   case measure => simp [intOf]; omega
  ·go_wp2_with fail
   go_ret
   exact ⟨rfl, hg⟩
theorem contains_none (K : Nat) (caps : Array Value) (S : Nat → Prop) (l : List Ent) (v : Value) (w : World) (hK : ∀ (args : Array Value) (w : World), (callFunc K args).run Try.prog w = .ok (.enter K args) w) (hl : EntsS S w v l) (hn : l.length ≤ 1000000)
  (hc : ∀ (x : Ent) (a : Option Addr) (c : Nat) (w' : World), x ∈ l → Grow w w' → Calls Try.prog K (#[.agg #[.int .i64 x.rc.kind, .int .i64 x.rc.key, .int .i64 x.rc.ver, .slice a x.rc.data.length c, .int .i64 x.pair]] ++ caps) w' fun e w2 => e = .returned (.bool false) ∧ Grow w' w2) :
  Calls Try.prog 45 #[v, .func (.func K) #[] caps] w fun e w' => e = .returned (.bool false) ∧ Grow w w' := by
 go_enter Try.func45, Try.ntmps45
 go_wp2_with fail
 refine (index_none K caps S l v w hK hl hn hc).mono ?_
 rintro e w1 ⟨rfl, g1⟩
 clear hl hc
 go_wp2_with fail
 go_ret
 exact ⟨rfl, g1⟩
end Go.Proofs.Ytgaecpdokgklpab
