import Derived.Test.YtpdnapbchcdhlaaPairC
import Derived.Maps.OwnOps
import Derived.Maps.Views
set_option maxHeartbeats 8000000
namespace Go.Proofs.Ytpdnapbchcdhlaa
set_option maxRecDepth 100000
open Go.RowKit Go.Maps
open Plain Reg
variable {H : Type} {P : Program} {b : Nat} {f : Int → Bool} {key ver : Int} {l : List Ent} {v : Value} {w w' : World}
theorem Zaj {e : TypeId} (he : P.underlying e = some .bool) {z : DataW H × List MemPlace} (h : plainElem P e v = some z) : ∃ x, v = .bool x ∧ z = (.lit (.bool x), []) := by
 unfold plainElem at h;rw [he] at h;cases v <;> simp at h
 case bool x => exact ⟨x, rfl, h.symm⟩
theorem Zfl (w : World) : (zeroValue 4).run Try.prog w = .ok (.bool false) w := by kernel_rfl
def Vk (w : World) (b n : Nat) (f : Int → Bool) : Prop := ∃ D : DataW Unit, w.ownsMap Try.prog 3 (plainElem Try.prog 4) b n D ∧ ∀ x : Int, (Lit.int .i64 x).wf = true → D.atKey (.int .i64 x) (.lit (.bool false)) = .lit (.bool (f x))
theorem Zec {k : TypeId} {R : Value → Option (DataW H × List MemPlace)} {n : Nat} {D : DataW H} (h : w.ownsMap P k R b n D) : IsMap D := by
 obtain ⟨es, clock, _, _, _, rfl⟩ := h; exact ⟨_, rfl⟩
theorem Vk.made (w : World) : Vk (w.alloc (.map #[] 0)) w.heap.size 0 (fun _ => false) := ⟨.map [], World.ownsMap_made _ _ _ _, fun _ _ => rfl⟩
theorem Vk.lt {n : Nat} (h : Vk w b n f) : b < w.heap.size := by
 obtain ⟨D, h1, _⟩ := h; exact h1.lt
theorem Vk.same {n : Nat} (h : Vk w b n f) (hb : w'.heap[b]? = w.heap[b]?) : Vk w' b n f := by
 obtain ⟨D, ⟨es, clock, h1, h2⟩, h3⟩ := h;exact ⟨D, ⟨es, clock, hb.trans h1, h2⟩, h3⟩
theorem Vk.grow {n : Nat} (h : Vk w b n f) (hg : Zm w w') : Vk w' b n f := h.same (hg.block _ h.lt)
theorem Vk.ask {n : Nat} (h : Vk w b n f) (x : Int) (hx : (Lit.int .i64 x).wf = true) : (Instr.lookup 75 (.map (some b)) (.int .i64 x) false).run Try.prog w = .ok (.bool (f x)) w := by
 obtain ⟨D, h1, h2⟩ := h;obtain ⟨v, ps, hrun, hv⟩ := h1.lookup (int_keyed Try.underlying3) Try.underlying75 (Zfl w) (plainElem_bool Try.underlying4 false) (keyOf_int_mk Try.underlying3 hx);obtain ⟨c, rfl, hc⟩ := Zaj Try.underlying4 hv;simp only [Prod.mk.injEq] at hc;have := h2 x hx;rw [this] at hc;have hcc : f x = c := by injection hc.1 with h; injection h
 rw [hcc]; exact hrun
theorem Zs.grown {g : Nat} (h : w.grownBy w' (some g)) : Zs g w w' := ⟨h.os, h.tape, h.output, h.size, fun k hk hg => h.block k hk (by intro e; exact hg (Option.some.inj e))⟩
theorem Vk.put {n : Nat} (h : Vk w b n f) (x : Int) (hx : (Lit.int .i64 x).wf = true) (hn : n < 1000000) :
  ∃ w', (Instr.mapUpdate 75 (.map (some b)) (.int .i64 x) (.bool true)).run Try.prog w = .ok () w' ∧ Vk w' b (n + 1) (fun y => decide (y = x) || f y) ∧ Zs b w w' := by
 obtain ⟨D, h1, h2⟩ := h;obtain ⟨w', hrun, h3, h4⟩ := h1.update (int_keyed Try.underlying3) Try.underlying75 (by unfold maxLen; omega) (keyOf_int_mk Try.underlying3 hx) (plainElem_bool Try.underlying4 true);refine ⟨w', hrun, ⟨_, h3, fun y hy => ?_⟩, Zs.grown h4⟩;by_cases e : y = x
 ·subst e;rw [atKey_put_same (Zec h1) (show WideAt.IsKeyLit (.int .i64 y) from trivial)];simp
 ·rw [atKey_put_other (by intro e2; injection e2 with _ e2; exact e e2), h2 y hy];simp [e]
theorem Vk.on {n m : Nat} {g : Int → Bool} (h : Vk w b n f) (hf : ∀ x, f x = g x) (hn : n ≤ m) : Vk w b m g := by
 obtain ⟨D, h1, h2⟩ := h;exact ⟨D, h1.mono hn, fun x hx => by rw [h2 x hx, hf x]⟩
theorem Yo.other {α : Type} {sh : Xh α} {S0 : Nat → Prop} {B q : Nat} {xs : List α} {css : List (List Value)} (h : Yo sh S0 B v xs css w) (hg : Zs q w w') (hq : q < B) (hn : ¬ S0 q) : Yo sh S0 B v xs css w' := by
 have hne : ∀ b, InS S0 B w b → b ≠ q := by
  rintro b (h1 | ⟨h1, _⟩) rfl
  ·exact hn h1
  ·omega
 refine ⟨h.len, fun i hi => (h.each i hi).imp fun _ x => ⟨x.1, sh.mono (sh.keep x.2 fun b hb hlt => hg.block b hlt (hne b hb)) fun b hb => ?_⟩, ?_⟩
 ·exact Xj hb (fun x => x) fun ⟨k1, c, f, k2⟩ => ⟨k1, c, f, (hg.block b (Zg k2) (by omega)).trans k2⟩
 ·have hr := h.row;refine ⟨hr.1, Xj hr.2 (fun x => x) fun ⟨g, cap, cur, h1, h2, h3, r⟩ => ⟨g, cap, cur, h1, h2, ?_, r⟩⟩;rw [hg.block _ (Zg h3) (by omega)]; exact h3
def Xr (l : List Ent) (key : Int) (k : Nat) (n : Int) : Prop := (X5 (l.take k) key = none ∧ n = -1) ∨ ∃ (i : Nat) (h : i < l.length), n = (i : Int) ∧ X5 (l.take k) key = some l[i]
def Yw (l : List Ent) (key ver : Int) (k : Nat) (n : Int) : Prop := (X0 (l.take k) key ver = none ∧ n = -1) ∨ ∃ (i : Nat) (h : i < l.length), n = (i : Int) ∧ X0 (l.take k) key ver = some l[i]
theorem Zie {k : Nat} (h : k < l.length) (hk : l[k].rc.key = key) : Xr l key (k + 1) (k : Int) := by
 refine .inr ⟨k, h, rfl, ?_⟩;unfold X5;rw [List.take_succ_eq_append_getElem h, List.filter_append, List.getLast?_append];simp [hk]
theorem Zgo {k : Nat} {n : Int} (h : k < l.length) (hk : l[k].rc.key ≠ key) (hl : Xr l key k n) : Xr l key (k + 1) n := by
 have e : X5 (l.take (k + 1)) key = X5 (l.take k) key := by
  unfold X5;rw [List.take_succ_eq_append_getElem h, List.filter_append];simp [hk]
 unfold Xr;rw [e]; exact hl
theorem Zgs {k : Nat} {n : Int} (h : k < l.length) (hk : l[k].rc.key = key ∧ l[k].rc.ver = ver) (hl : Yw l key ver k n) (hn : n < 0) : Yw l key ver (k + 1) (k : Int) := by
 rcases hl with ⟨h1, -⟩ | ⟨i, h1, h2, -⟩
 ·refine .inr ⟨k, h, rfl, ?_⟩;unfold X0 at h1 ⊢;rw [List.take_succ_eq_append_getElem h, List.find?_append, h1];simp [hk]
 ·omega
theorem Zep {k : Nat} {n : Int} (h : k < l.length) (hl : Yw l key ver k n) (hn : 0 ≤ n) : Yw l key ver (k + 1) n := by
 rcases hl with ⟨-, h1⟩ | ⟨i, h1, h2, h3⟩
 ·omega
 ·refine .inr ⟨i, h1, h2, ?_⟩;unfold X0 at h3 ⊢;rw [List.take_succ_eq_append_getElem h, List.find?_append, h3]; rfl
theorem Zeo {k : Nat} {n : Int} (h : k < l.length) (hk : ¬ (l[k].rc.key = key ∧ l[k].rc.ver = ver)) (hl : Yw l key ver k n) : Yw l key ver (k + 1) n := by
 have e : X0 (l.take (k + 1)) key ver = X0 (l.take k) key ver := by
  unfold X0;rw [List.take_succ_eq_append_getElem h, List.find?_append];cases (l.take k).find? _ with
  | some x => rfl
  | none => simp [hk]
 unfold Yw;rw [e]; exact hl
theorem Xr.bd {k : Nat} {n : Int} (h : Xr l key k n) : -1 ≤ n ∧ n < (l.length : Int) := by
 rcases h with ⟨_, rfl⟩ | ⟨i, h1, rfl, _⟩ <;> omega
theorem Yw.bd {k : Nat} {n : Int} (h : Yw l key ver k n) : -1 ≤ n ∧ n < (l.length : Int) := by
 rcases h with ⟨_, rfl⟩ | ⟨i, h1, rfl, _⟩ <;> omega
theorem Zgx (l : List Ent) (p : Int) (k : Nat) (h : k < l.length) : X1 (l.take (k + 1)) p = X1 (l.take k) p ++ (if l[k].pair = p then [] else [l[k]]) := by
 unfold X1;rw [List.take_succ_eq_append_getElem h, List.filter_append];by_cases e : l[k].pair = p
 ·simp [e]
 ·simp [e]
def Q6 (l : List Ent) (y : Int) : Bool := l.any fun x => decide (y = x.pair)
theorem Zfo (l : List Ent) (k : Nat) (h : k < l.length) (y : Int) : (decide (y = l[k].pair) || Q6 (l.take k) y) = Q6 (l.take (k + 1)) y := by
 unfold Q6;rw [List.take_succ_eq_append_getElem h, List.any_append];simp [Bool.or_comm]
theorem Ku (l : List Ent) (y : Int) : Q6 l y = true ↔ ∃ x ∈ l, x.pair = y := by
 unfold Q6;rw [List.any_eq_true];exact ⟨fun ⟨x, h1, h2⟩ => ⟨x, h1, (of_decide_eq_true h2).symm⟩, fun ⟨x, h1, h2⟩ => ⟨x, h1, by simp [h2]⟩⟩
theorem Zcd {x : Int} (h0 : 0 ≤ x) (h1 : x ≤ 1000000) : (Lit.int .i64 x).wf = true := WalkArith.wf_i64 (by omega)
end Go.Proofs.Ytpdnapbchcdhlaa
