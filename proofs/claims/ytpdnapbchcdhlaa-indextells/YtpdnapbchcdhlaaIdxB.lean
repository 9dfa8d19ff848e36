import Derived.Test.YtpdnapbchcdhlaaIdxA
import Derived.Lib.AppendZeros
set_option maxHeartbeats 8000000
namespace Go.Proofs.Ytpdnapbchcdhlaa
set_option maxRecDepth 100000
open Go.RowKit
open Plain Reg
theorem Zdd (args : Array Value) (w : World) : (callFunc 93 args).run Try.prog w = .ok (.enter 93 args) w := by
 simp [callFunc, Try.func93, Try.f93, mark]
theorem Zb1 (args : Array Value) (w : World) : (callFunc 94 args).run Try.prog w = .ok (.enter 94 args) w := by
 simp [callFunc, Try.func94, Try.f94, mark]
theorem Zdg (args : Array Value) (w : World) : (callFunc 96 args).run Try.prog w = .ok (.enter 96 args) w := by
 simp [callFunc, Try.func96, Try.f96, mark]
theorem Zdf (args : Array Value) (w : World) : (callFunc 97 args).run Try.prog w = .ok (.enter 97 args) w := by
 simp [callFunc, Try.func97, Try.f97, mark]
theorem Zde (args : Array Value) (w : World) : (callFunc 98 args).run Try.prog w = .ok (.enter 98 args) w := by
 simp [callFunc, Try.func98, Try.f98, mark]
theorem Zh4 (x : Ent) (a : Option Addr) (c : Nat) (w : World) : Calls Try.prog 93 #[.agg #[.int .i64 x.rc.kind, .int .i64 x.rc.key, .int .i64 x.rc.ver, .slice a x.rc.data.length c, .int .i64 x.pair]] w fun e w' => e = .returned (.bool true) ∧ Zm w w' := by
 have g0 := Zh w (.cells #[.int .i64 x.rc.kind, .int .i64 x.rc.key, .int .i64 x.rc.ver, .slice a x.rc.data.length c, .int .i64 x.pair] 71);go_enter Try.func93, Try.ntmps93;go_wp2_with fail;go_ret;exact ⟨rfl, g0⟩
theorem Zgy (x : Ent) (a : Option Addr) (c : Nat) (p : Int) (g : Nat) (w : World) (hp : w.heap[g]? = some (.cells #[.int .i64 p] 3 (0, 0))) : Calls Try.prog 94 #[.agg #[.int .i64 x.rc.kind, .int .i64 x.rc.key, .int .i64 x.rc.ver, .slice a x.rc.data.length c, .int .i64 x.pair], .pointer (some ⟨g, 0, none⟩)] w fun e w' => e = .returned (.bool (x.pair != p)) ∧ Zm w w' := by
 have g0 := Zh w (.cells #[.int .i64 x.rc.kind, .int .i64 x.rc.key, .int .i64 x.rc.ver, .slice a x.rc.data.length c, .int .i64 x.pair] 71);have y0 := Zk ((g0.block _ (Zg hp)).trans hp) 0 _ rfl;go_enter Try.func94, Try.ntmps94;go_wp2_with fail;go_ret;exact ⟨rfl, g0⟩
theorem Ziv (x e : Ent) (a b : Option Addr) (c d : Nat) (g : Nat) (w : World) (hne : x.pair ≠ e.pair) (hp : w.heap[g]? = some (.cells #[.int .i64 e.rc.kind, .int .i64 e.rc.key, .int .i64 e.rc.ver, .slice b e.rc.data.length d, .int .i64 e.pair] 71 (0, 0))) : Calls Try.prog 96 #[.agg #[.int .i64 x.rc.kind, .int .i64 x.rc.key, .int .i64 x.rc.ver, .slice a x.rc.data.length c, .int .i64 x.pair], .pointer (some ⟨g, 0, none⟩)] w fun e w' => e = .returned (.bool false) ∧ Zm w w' := by
 have g0 := Zh w (.cells #[.int .i64 x.rc.kind, .int .i64 x.rc.key, .int .i64 x.rc.ver, .slice a x.rc.data.length c, .int .i64 x.pair] 71);have y4 := Zk ((g0.block _ (Zg hp)).trans hp) 4 _ rfl;have d0 : (x.pair == e.pair) = false := by simp [hne]
 clear hne;go_enter Try.func96, Try.ntmps96;go_wp2_with fail;go_ret;exact ⟨rfl, g0⟩
theorem Ziu (x e : Ent) (a b : Option Addr) (c d : Nat) (g : Nat) (w : World) (hp : w.heap[g]? = some (.cells #[.int .i64 e.rc.kind, .int .i64 e.rc.key, .int .i64 e.rc.ver, .slice b e.rc.data.length d, .int .i64 e.pair] 71 (0, 0))) : Calls Try.prog 97 #[.agg #[.int .i64 x.rc.kind, .int .i64 x.rc.key, .int .i64 x.rc.ver, .slice a x.rc.data.length c, .int .i64 x.pair], .pointer (some ⟨g, 0, none⟩)] w fun r w' => r = .returned (.bool (Ya x e)) ∧ Zm w w' := by
 have g0 := Zh w (.cells #[.int .i64 x.rc.kind, .int .i64 x.rc.key, .int .i64 x.rc.ver, .slice a x.rc.data.length c, .int .i64 x.pair] 71);have hp1 := (g0.block _ (Zg hp)).trans hp;obtain ⟨y0, y1, y2, y3, y4⟩ := Qa hp1 rfl rfl rfl rfl rfl;have hx1 := Zu w #[.int .i64 x.rc.kind, .int .i64 x.rc.key, .int .i64 x.rc.ver, .slice a x.rc.data.length c, .int .i64 x.pair] 71;obtain ⟨x0, x1, x2, x3, x4⟩ := Qa hx1 rfl rfl rfl rfl rfl;clear hp hp1 hx1;obtain ⟨R, hR⟩ : ∃ R, R = Ya x e := ⟨_, rfl⟩;rw [← hR];have HR : Hid _ := hR;clear hR;go_enter Try.func97, Try.ntmps97;go_wp2_with fail;refine (Kc x e _ _ _ _ _).mono ?_;rintro r w1 ⟨rfl, g1⟩;have gE := g0.trans g1;have HO : Hid (decide (Jn x e < 0) = R) := by show _ = _; rw [Zfc, HR.out]
 clear g0 g1 x0 x1 x2 x3 x4 y0 y1 y2 y3 y4;generalize Jn x e = o at *;go_wp2_with fail;go_ret;exact ⟨by rw [← HO.out]; rfl, gE⟩
theorem Zit (x e : Ent) (a b : Option Addr) (c d : Nat) (g : Nat) (w : World) (hp : w.heap[g]? = some (.cells #[.int .i64 e.rc.kind, .int .i64 e.rc.key, .int .i64 e.rc.ver, .slice b e.rc.data.length d, .int .i64 e.pair] 71 (0, 0))) : Calls Try.prog 98 #[.agg #[.int .i64 x.rc.kind, .int .i64 x.rc.key, .int .i64 x.rc.ver, .slice a x.rc.data.length c, .int .i64 x.pair], .pointer (some ⟨g, 0, none⟩)] w fun r w' => r = .returned (.bool (Ya e x)) ∧ Zm w w' := by
 have g0 := Zh w (.cells #[.int .i64 x.rc.kind, .int .i64 x.rc.key, .int .i64 x.rc.ver, .slice a x.rc.data.length c, .int .i64 x.pair] 71);have hp1 := (g0.block _ (Zg hp)).trans hp;obtain ⟨y0, y1, y2, y3, y4⟩ := Qa hp1 rfl rfl rfl rfl rfl;have hx1 := Zu w #[.int .i64 x.rc.kind, .int .i64 x.rc.key, .int .i64 x.rc.ver, .slice a x.rc.data.length c, .int .i64 x.pair] 71;obtain ⟨x0, x1, x2, x3, x4⟩ := Qa hx1 rfl rfl rfl rfl rfl;clear hp hp1 hx1;obtain ⟨R, hR⟩ : ∃ R, R = Ya e x := ⟨_, rfl⟩;rw [← hR];have HR : Hid _ := hR;clear hR;go_enter Try.func98, Try.ntmps98;go_wp2_with fail;refine (Kc x e _ _ _ _ _).mono ?_;rintro r w1 ⟨rfl, g1⟩;have gE := g0.trans g1;have HO : Hid (decide (0 < Jn x e) = R) := by show _ = _; rw [Zjq, HR.out]
 clear g0 g1 x0 x1 x2 x3 x4 y0 y1 y2 y3 y4;generalize Jn x e = o at *;go_wp2_with fail;go_ret;exact ⟨by rw [← HO.out]; rfl, gE⟩
theorem Zhv (S : Nat → Prop) (l : List Ent) (v : Value) (w : World) (hl : Yl S w v l) (hn : l.length ≤ 1000000) (h8 : ∀ x ∈ l, x.rc.data.length ≤ 8) :
  Calls Try.prog 65 #[v] w fun e w' => ∃ v' css, e = .returned v' ∧ Yo Yc NoS w.heap.size v' l css w' ∧ Zm w w' := by
 obtain ⟨ao, cp, rfl⟩ := hl.form;go_enter Try.func65, Try.ntmps65;go_wp2_with fail;refine (Vq 93 #[] (fun _ => true) S l _ w Zdd hl hn h8 (fun x a c w' _ _ => by rw [Array.append_empty]; exact Zh4 x a c w')).mono ?_;rw [List.filter_eq_self.2 (fun _ _ => rfl)];rintro e w1 ⟨v', css, rfl, hR, g1⟩;obtain ⟨a1, c1, rfl⟩ := hR.form;go_wp2_with fail;go_ret;exact ⟨_, _, rfl, hR, g1⟩
theorem Yo.less {α : Type} {sh : Xh α} {S0 : Nat → Prop} {B B' : Nat} {v : Value} {xs : List α} {css : List (List Value)} {w : World} (h : Yo sh S0 B v xs css w) (hb : B' ≤ B) : Yo sh S0 B' v xs css w :=
 ⟨h.len, fun i hi => (h.each i hi).imp fun _ x => ⟨x.1, sh.mono x.2 fun _ k => Xj k (fun y => y) fun y => ⟨Nat.le_trans hb y.1, y.2⟩⟩, Z8 h.row hb⟩
theorem Zf8 (S : Nat → Prop) (l : List Ent) (p : Int) (v : Value) (w : World) (hl : Yl S w v l) (hn : l.length ≤ 1000000) (h8 : ∀ x ∈ l, x.rc.data.length ≤ 8) :
  Calls Try.prog 66 #[v, .int .i64 p] w fun e w' => ∃ v' css, e = .returned v' ∧ Yo Yc NoS w.heap.size v' (l.filter fun x => x.pair != p) css w' ∧ Zm w w' := by
 obtain ⟨ao, cp, rfl⟩ := hl.form;have g0 := Zh w (.cells #[.int .i64 p] 3);have hp := Zu w #[.int .i64 p] 3;have s0 := World.size_alloc w (.cells #[.int .i64 p] 3);go_enter Try.func66, Try.ntmps66;go_wp2_with fail;refine (Vq 94 #[.pointer (some ⟨w.heap.size, 0, none⟩)] (fun x => x.pair != p) S l _ _ Zb1 (hl.grow g0) hn h8 (fun x a c w' _ hg => Zgy x a c p _ w' ((hg.block _ (Zg hp)).trans hp))).mono ?_;rintro e w1 ⟨v', css, rfl, hR, g1⟩;have hR2 := hR.less (B' := w.heap.size) (by rw [s0]; omega);have gE := g0.trans g1;obtain ⟨a1, c1, rfl⟩ := hR.form;clear hR g0 g1 hp s0;go_wp2_with fail;go_ret;exact ⟨_, _, rfl, hR2, gE⟩
theorem Zem (K : Nat) (caps : Array Value) (S : Nat → Prop) (l : List Ent) (v : Value) (w : World) (hK : ∀ (args : Array Value) (w : World), (callFunc K args).run Try.prog w = .ok (.enter K args) w) (hl : Yl S w v l) (hn : l.length ≤ 1000000)
  (hc : ∀ (x : Ent) (a : Option Addr) (c : Nat) (w' : World), x ∈ l → Zm w w' → Calls Try.prog K (#[.agg #[.int .i64 x.rc.kind, .int .i64 x.rc.key, .int .i64 x.rc.ver, .slice a x.rc.data.length c, .int .i64 x.pair]] ++ caps) w' fun e w2 => e = .returned (.bool false) ∧ Zm w' w2) :
  Calls Try.prog 105 #[v, .func (.func K) #[] caps] w fun e w' => e = .returned (.int .i64 (-1)) ∧ Zm w w' := by
 obtain ⟨ao, cp, rfl⟩ := hl.form;go_enter Try.func105, Try.ntmps105;go_wp2_with fail;go_loopw [8] (fun i wr => ∃ k : Nat, k ≤ l.length ∧ i = .int .i64 k ∧ Zm w wr) (fun i _ => l.length - (intOf i).toNat)
 case atStart => exact ⟨0, Nat.zero_le _, rfl, Zm.refl _⟩
 case round =>
  obtain ⟨k, hk, rfl, hg⟩ := hrel;by_cases hlt : k < l.length
  ·obtain ⟨b, off, a1, c1, hv1, q0, q1, q2, q3, q4, hu⟩ := X4 (hl.grow hg) k hlt;cases hv1;have HM : Hid (l[k] ∈ l) := List.getElem_mem hlt;generalize l[k] = x at *;clear hu;go_wp2_with fail;refine (hc x a1 c1 _ HM.out hg).mono ?_;rintro e w2 ⟨rfl, g2⟩;have gw := hg.trans g2;clear g2 hg q0 q1 q2 q3 q4;go_wp2_with fail;go_roundw
   case rel => exact ⟨k + 1, by omega, by go_num, gw⟩
   case measure => simp [intOf]; omega
  ·go_wp2_with fail;go_ret;exact ⟨rfl, hg⟩
theorem Za4 (K : Nat) (caps : Array Value) (S : Nat → Prop) (l : List Ent) (v : Value) (w : World) (hK : ∀ (args : Array Value) (w : World), (callFunc K args).run Try.prog w = .ok (.enter K args) w) (hl : Yl S w v l) (hn : l.length ≤ 1000000)
  (hc : ∀ (x : Ent) (a : Option Addr) (c : Nat) (w' : World), x ∈ l → Zm w w' → Calls Try.prog K (#[.agg #[.int .i64 x.rc.kind, .int .i64 x.rc.key, .int .i64 x.rc.ver, .slice a x.rc.data.length c, .int .i64 x.pair]] ++ caps) w' fun e w2 => e = .returned (.bool false) ∧ Zm w' w2) :
  Calls Try.prog 95 #[v, .func (.func K) #[] caps] w fun e w' => e = .returned (.bool false) ∧ Zm w w' := by
 go_enter Try.func95, Try.ntmps95;go_wp2_with fail;refine (Zem K caps S l v w hK hl hn hc).mono ?_;rintro e w1 ⟨rfl, g1⟩;clear hl hc;go_wp2_with fail;go_ret;exact ⟨rfl, g1⟩
end Go.Proofs.Ytpdnapbchcdhlaa
