/-
  What the library's sort makes of entries in a row of their own, by the program's order: the same ones, rising.
  Condition: at most twelve, of unlike pairs.
-/
import Derived.Test.YtgaecpdokgklpabIdxA
import Derived.Test.YtgaecpdokgklpabIdxS
namespace Go.Proofs.Ytgaecpdokgklpab
set_option maxRecDepth 100000
open Go.RowKit
open Go.Proofs.Ytgaecpdokgklpab.Plain Go.Proofs.Ytgaecpdokgklpab.Reg

/-! ### One thing of a row is written anew -/

theorem set5 (c0 c1 c2 c3 c4 : Value) : ∀ (i : Nat) (us : List Value), i + 5 ≤ us.length → ((((us.set i c0).set (i + 1) c1).set (i + 2) c2).set (i + 3) c3).set (i + 4) c4 = us.take i ++ [c0, c1, c2, c3, c4] ++ us.drop (i + 5)
 | 0, [], h => by simp at h
 | 0, [_], h => by simp at h
 | 0, [_, _], h => by simp at h
 | 0, [_, _, _], h => by simp at h
 | 0, [_, _, _, _], h => by simp at h
 | 0, a :: b :: c :: d :: e :: us, _ => rfl
 | i + 1, [], h => by simp at h
 | i + 1, a :: us, h => by
  have ih := set5 c0 c1 c2 c3 c4 i us (by simp at h; omega)
  show a :: (((((us.set i c0).set (i + 1) c1).set (i + 2) c2).set (i + 3) c3).set (i + 4) c4) = a :: (us.take i ++ [c0, c1, c2, c3, c4] ++ us.drop (i + 5))
  rw [ih]
theorem flatten_set (cs : List Value) : ∀ (css : List (List Value)) (i : Nat), (∀ c ∈ css, c.length = 5) → i < css.length → (css.set i cs).flatten = css.flatten.take (i * 5) ++ cs ++ css.flatten.drop (i * 5 + 5)
 | [], i, _, h => by simp at h
 | c :: css, 0, hl, _ => by
  have h1 := hl c (by simp)
  rw [List.set_cons_zero, List.flatten_cons, List.flatten_cons, Nat.zero_mul, Nat.zero_add, List.take_zero, List.nil_append, List.drop_append_of_le_length (by omega), List.drop_of_length_le (by omega), List.nil_append]
 | c :: css, i + 1, hl, h => by
  have h1 := hl c (by simp)
  have ih := flatten_set cs css i (fun c hc => hl c (by simp [hc])) (by simpa using h)
  rw [List.set_cons_succ, List.flatten_cons, List.flatten_cons, ih, show (i + 1) * 5 = c.length + i * 5 from by rw [h1]; omega, List.take_length_add_append, show c.length + i * 5 + 5 = c.length + (i * 5 + 5) from by omega, List.drop_length_add_append]
  simp
theorem OutR.lens {α : Type} {sh : Shape α} {S0 : Nat → Prop} {B : Nat} {v : Value} {xs : List α} {css : List (List Value)} {w : World} (h : OutR sh S0 B v xs css w) : ∀ c ∈ css, c.length = sh.size := by
 intro c hc
 obtain ⟨i, hi, rfl⟩ := List.mem_iff_getElem.1 hc
 obtain ⟨cs, k1, k2⟩ := h.each i (by rw [← h.len]; exact hi)
 rw [List.getElem?_eq_getElem hi] at k1
 cases k1
 exact sh.len k2
theorem OutR.num {α : Type} {sh : Shape α} {S0 : Nat → Prop} {B : Nat} {ao : Option Addr} {n cap : Nat} {xs : List α} {css : List (List Value)} {w : World} (h : OutR sh S0 B (.slice ao n cap) xs css w) : n = xs.length := by
 rcases h.row.2 with ⟨e, h0⟩ | ⟨q, cap', cur, e, _⟩
 ·cases e; exact h0.symm
 ·cases e; rfl
/-- What is told of one entry of a row of its own. -/
theorem OutR.cells {S0 : Nat → Prop} {B : Nat} {ao : Option Addr} {n cap : Nat} {ys : List Ent} {css : List (List Value)} {w : World} (h : OutR entShape S0 B (.slice ao n cap) ys css w) {i : Nat} {x : Ent} (hx : ys[i]? = some x) :
  ∃ g a c, ao = some ⟨g, 0, none⟩ ∧ B ≤ g ∧ BytesS (InS S0 B w) w (.slice a x.rc.data.length c) x.rc.data ∧ w.cell? ⟨g, i * 5, none⟩ = some (.int .i64 x.rc.kind) ∧ w.cell? ⟨g, i * 5 + 1, none⟩ = some (.int .i64 x.rc.key) ∧ w.cell? ⟨g, i * 5 + 2, none⟩ = some (.int .i64 x.rc.ver) ∧
   w.cell? ⟨g, i * 5 + 3, none⟩ = some (.slice a x.rc.data.length c) ∧ w.cell? ⟨g, i * 5 + 4, none⟩ = some (.int .i64 x.pair) := by
 obtain ⟨hi, rfl⟩ := List.getElem?_eq_some_iff.1 hx
 obtain rfl := h.num
 obtain ⟨cs, e1, u, e3, hu⟩ := h.each i hi
 obtain ⟨a, c, rfl⟩ := hu.form
 have hlen := h.lens
 rcases h.row.2 with ⟨e, h0⟩ | ⟨q, cap', cur, e, hb, _⟩
 ·rw [h0] at hi; omega
 ·cases e
  have key : ∀ j u, cs[j]? = some u → w.cell? ⟨q, i * 5 + j, none⟩ = some u := fun j u hj => by
   have hl5 : cs.length = 5 := entShape.len (show entShape.enc (InS S0 B w) w ys[i] cs from ⟨_, e3, hu⟩)
   have hj5 : j < 5 := by rw [← hl5]; exact (List.getElem?_eq_some_iff.1 hj).1
   have c0 := h.row.cellAt (i * 5 + j) (show i * 5 + j < ys.length * 5 from by omega)
   rw [c0, flatten_at (k := 5) css i j cs hlen e1 hj5, hj]
  subst e3
  exact ⟨q, a, c, rfl, hb, hu, key 0 _ rfl, key 1 _ rfl, key 2 _ rfl, key 3 _ rfl, key 4 _ rfl⟩
theorem OutR.put {S0 : Nat → Prop} {B g n cap : Nat} {xs : List Ent} {css : List (List Value)} {w : World} (h : OutR entShape S0 B (.slice (some ⟨g, 0, none⟩) n cap) xs css w) (hS0 : ∀ b, S0 b → b < B) {i : Nat} (hi : i < xs.length) (x : Ent) {a : Option Addr} {c : Nat} (hu : BytesS (InS S0 B w) w (.slice a x.rc.data.length c) x.rc.data) :
  (∃ css', OutR entShape S0 B (.slice (some ⟨g, 0, none⟩) n cap) (xs.set i x) css' (((((w.setCell ⟨g, i * 5, none⟩ (.int .i64 x.rc.kind)).setCell ⟨g, i * 5 + 1, none⟩ (.int .i64 x.rc.key)).setCell ⟨g, i * 5 + 2, none⟩ (.int .i64 x.rc.ver)).setCell ⟨g, i * 5 + 3, none⟩ (.slice a x.rc.data.length c)).setCell ⟨g, i * 5 + 4, none⟩ (.int .i64 x.pair))) ∧
  GrowBut g w (((((w.setCell ⟨g, i * 5, none⟩ (.int .i64 x.rc.kind)).setCell ⟨g, i * 5 + 1, none⟩ (.int .i64 x.rc.key)).setCell ⟨g, i * 5 + 2, none⟩ (.int .i64 x.rc.ver)).setCell ⟨g, i * 5 + 3, none⟩ (.slice a x.rc.data.length c)).setCell ⟨g, i * 5 + 4, none⟩ (.int .i64 x.pair)) ∧
  ∀ u l, BytesS (InS S0 B w) w u l → BytesS (InS S0 B (((((w.setCell ⟨g, i * 5, none⟩ (.int .i64 x.rc.kind)).setCell ⟨g, i * 5 + 1, none⟩ (.int .i64 x.rc.key)).setCell ⟨g, i * 5 + 2, none⟩ (.int .i64 x.rc.ver)).setCell ⟨g, i * 5 + 3, none⟩ (.slice a x.rc.data.length c)).setCell ⟨g, i * 5 + 4, none⟩ (.int .i64 x.pair))) (((((w.setCell ⟨g, i * 5, none⟩ (.int .i64 x.rc.kind)).setCell ⟨g, i * 5 + 1, none⟩ (.int .i64 x.rc.key)).setCell ⟨g, i * 5 + 2, none⟩ (.int .i64 x.rc.ver)).setCell ⟨g, i * 5 + 3, none⟩ (.slice a x.rc.data.length c)).setCell ⟨g, i * 5 + 4, none⟩ (.int .i64 x.pair)) u l := by
 obtain rfl := h.num
 have hbut : GrowBut g w (((((w.setCell ⟨g, i * 5, none⟩ (.int .i64 x.rc.kind)).setCell ⟨g, i * 5 + 1, none⟩ (.int .i64 x.rc.key)).setCell ⟨g, i * 5 + 2, none⟩ (.int .i64 x.rc.ver)).setCell ⟨g, i * 5 + 3, none⟩ (.slice a x.rc.data.length c)).setCell ⟨g, i * 5 + 4, none⟩ (.int .i64 x.pair)) := (((((GrowBut.refl g w).set _ _ _).set _ _ _).set _ _ _).set _ _ _).set _ _ _
 have hrow := ((((((h.row.stored (i * 5) (.int .i64 x.rc.kind)).1.stored (i * 5 + 1) (.int .i64 x.rc.key)).1.stored (i * 5 + 2) (.int .i64 x.rc.ver)).1.stored (i * 5 + 3) (.slice a x.rc.data.length c)).1.stored (i * 5 + 4) (.int .i64 x.pair)).1)
 have hfl : css.flatten.length = css.length * 5 := flatten_len css h.lens
 have hil : i < css.length := by rw [h.len]; exact hi
 rw [set5 _ _ _ _ _ _ _ (by omega), ← flatten_set _ css i h.lens hil] at hrow
 obtain ⟨cur, hq⟩ : ∃ cur, w.heap[g]? = some (.cells cur 37 (0, 0)) := by
  rcases h.row.2 with ⟨e, _⟩ | ⟨q, cap2, cur, e, _, hh, _⟩
  ·cases e
  ·cases e; exact ⟨cur, hh⟩
 have hqB : B ≤ g := (h.row.lt g rfl).1
 have keep : ∀ b, InS S0 B w b → b < w.heap.size → (((((w.setCell ⟨g, i * 5, none⟩ (.int .i64 x.rc.kind)).setCell ⟨g, i * 5 + 1, none⟩ (.int .i64 x.rc.key)).setCell ⟨g, i * 5 + 2, none⟩ (.int .i64 x.rc.ver)).setCell ⟨g, i * 5 + 3, none⟩ (.slice a x.rc.data.length c)).setCell ⟨g, i * 5 + 4, none⟩ (.int .i64 x.pair)).heap[b]? = w.heap[b]? := by
  intro b hSb hlt
  refine hbut.block b hlt ?_
  rintro rfl
  rcases hSb with h | ⟨_, c, f, h⟩
  ·have := hS0 _ h; omega
  ·rw [hq] at h; cases h
 suffices H : OutR entShape S0 B (.slice (some ⟨g, 0, none⟩) xs.length cap) (xs.set i x) (css.set i [.int .i64 x.rc.kind, .int .i64 x.rc.key, .int .i64 x.rc.ver, .slice a x.rc.data.length c, .int .i64 x.pair]) _ ∧ _ from ⟨⟨_, H.1⟩, hbut, H.2⟩
 generalize World.setCell (World.setCell (World.setCell (World.setCell (World.setCell w _ _) _ _) _ _) _ _) _ _ = w' at *
 have keep' : ∀ b, InS S0 B w b → InS S0 B w' b := fun b h => or_map h (fun x => x) fun ⟨k1, c, f, k2⟩ => ⟨k1, c, f, (keep b h (heap_lt k2)).trans k2⟩
 refine ⟨⟨by simp [h.len], fun j hj => ?_, by rw [List.length_set]; exact hrow⟩, fun u l hb => (hb.keeps keep).mono keep'⟩
 rw [List.length_set] at hj
 by_cases e : i = j
 ·subst e
  refine ⟨_, List.getElem?_set_self hil, ?_⟩
  rw [List.getElem_set_self]
  exact entShape.mono (entShape.keep ⟨_, rfl, hu⟩ keep) keep'
 ·obtain ⟨y, e1, e2⟩ := h.each j hj
  refine ⟨y, by rw [List.getElem?_set_ne e]; exact e1, ?_⟩
  rw [List.getElem_set_ne e]
  exact entShape.mono (entShape.keep e2 keep) keep'

/-! ### The sort -/

theorem enters_order (args : Array Value) (w : World) : (callFunc 39 args).run Try.prog w = .ok (.enter 39 args) w := by
 simp [callFunc, Try.func39, Try.f39, mark]
/-- A row of its own, of these, and nothing else is written. -/
structure Srt (S0 : Nat → Prop) (B : Nat) (w0 : World) (v : Value) (xs ys : List Ent) (w : World) : Prop where
 row : ∃ css, OutR entShape S0 B v ys css w
 perm : ys.Perm xs
 grow : Grow w0 w
theorem Srt.on {S0 : Nat → Prop} {B : Nat} {w0 : World} {v : Value} {xs ys : List Ent} {w w' : World} (h : Srt S0 B w0 v xs ys w) (hg : Grow w w') : Srt S0 B w0 v xs ys w' := ⟨h.row.imp fun _ x => x.grow hg, h.perm, h.grow.trans hg⟩
theorem Srt.len {S0 : Nat → Prop} {B : Nat} {w0 : World} {v : Value} {xs ys : List Ent} {w : World} (h : Srt S0 B w0 v xs ys w) : ys.length = xs.length := h.perm.length_eq
/-- Two that stand side by side change places: first the one, then the other is written. -/
def SwapJ (S0 : Nat → Prop) (B : Nat) (w0 W : World) (v : Value) (ys : List Ent) (m : Nat) (x y : Ent) (ay : Option Addr) (cy : Nat) (dn : Nat → Bool) (w : World) : Prop :=
 Grow w0 w ∧ (dn 15 = false → Grow W w) ∧ (dn 15 = true → dn 17 = false → (∃ css, OutR entShape S0 B v (ys.set (m + 1) x) css w) ∧ BytesS (InS S0 B w) w (.slice ay y.rc.data.length cy) y.rc.data) ∧ (dn 17 = true → ∃ css, OutR entShape S0 B v (swapE ys m x y) css w)
theorem OutR.frozen {S0 : Nat → Prop} {B g n cap : Nat} {ys : List Ent} {css : List (List Value)} {w : World} (h : OutR entShape S0 B (.slice (some ⟨g, 0, none⟩) n cap) ys css w) (j : Nat) : w.frozen? ⟨g, j, none⟩ = false := by
 obtain rfl := h.num
 exact h.row.frozenAt j
theorem in_grow {S0 : Nat → Prop} {B : Nat} {w w' : World} {u : Value} {l : List UInt8} (h : BytesS (InS S0 B w) w u l) (hg : Grow w w') : BytesS (InS S0 B w') w' u l := (h.grow hg).mono (InS.grow hg)

set_option maxHeartbeats 8000000 in
theorem isort_any (S0 : Nat → Prop) (B : Nat) (w0 : World) (v : Value) (xs : List Ent) (w : World) (hS0 : ∀ b, S0 b → b < B) (hB : w0.heap.size ≤ B) (hn : xs.length ≤ 12) (hU : Unlike xs) (hR : Srt S0 B w0 v xs xs w) :
  Calls Try.prog 91 #[v, .int .i64 0, .int .i64 (xs.length : Int), .func (.func 39) #[] #[]] w fun e w' => e = .returned (.tuple #[]) ∧ ∃ ys, Srt S0 B w0 v xs ys w' ∧ ys.Pairwise Ups := by
 obtain ⟨css0, hR0⟩ := hR.row
 obtain ⟨ao, cap, rfl⟩ := hR0.form
 clear hR0 css0
 have hK := enters_order
 go_enter Try.func91, Try.ntmps91
 go_wp2_with fail
 go_loopw [8] (fun i wr => ∃ (k : Nat) (ys : List Ent), 1 ≤ k ∧ (k ≤ xs.length ∨ k ≤ 1) ∧ i = .int .i64 (k : Int) ∧ Ord k ys ∧ Srt S0 B w0 (.slice ao xs.length cap) xs ys wr) (fun i _ => xs.length - (intOf i).toNat)
 case atStart => exact ⟨1, xs, Nat.le_refl _, .inr (Nat.le_refl _), rfl, fun a b x y h1 h2 => by omega, hR⟩
 case round =>
  clear hR
  obtain ⟨k, ys, hk1, hk2, rfl, hO, hS⟩ := hrel
  have HO : Hid _ := hO
  have HS : Hid _ := hS
  clear hO hS
  by_cases hlt : k < xs.length
  ·have d0 : (k : Int) < (xs.length : Int) := by omega
   go_wp2_with fail
   clear d0
   obtain ⟨wo, rfl⟩ : ∃ wo : World, wo = wr := ⟨_, rfl⟩
   go_loopw [9] (fun i wq => ∃ (j : Nat) (ys : List Ent), j ≤ k ∧ i = .int .i64 (j : Int) ∧ Ord1 k j ys ∧ Srt S0 B w0 (.slice ao xs.length cap) xs ys wq) (fun i _ => (intOf i).toNat)
   case atStart => exact ⟨k, ys, Nat.le_refl _, rfl, ord_start HO.out, HS.out⟩
   case round =>
    clear HO HS
    obtain ⟨j, ys, hj, rfl, hO, hS⟩ := hrel
    have HO : Hid _ := hO
    have HUN : Hid (Unlike ys) := unlike_perm hU hS.perm
    clear hO
    rcases j with _ | m
    ·have HE : Hid (Ord (k + 1) ys) := ord_end0 HO.out
     have hS1 := hS
     clear HO hS
     go_wp2_with fail
     refine wp_region_told [ex (.int .i64 0), ex (.int .i64 0), ex (.bool false), ex (.bool false), ex (undef), ex (undef), ex (undef), ex (undef), ex (undef), ex (undef), ex (undef), ex (undef), ex (undef), ex (undef), ex (undef), ex (undef), ex (.bool false)] (by kernel_rfl) (by kernel_rfl) ⟨st_ex _, st_ex _, st_ex _, st_ex _, st_ex _, st_ex _, st_ex _, st_ex _, st_ex _, st_ex _, st_ex _, st_ex _, st_ex _, st_ex _, st_ex _, st_ex _, st_ex _, trivial⟩ ?_ ?_
     ·refine ⟨?_, ?_, ?_, ?_, ?_, ?_, ?_, ?_, ?_, ?_, ?_, ?_, ?_, ?_, ?_, ?_, ?_, trivial⟩
      ·refine need_plain rfl (fun a w' hg hin => ?_)
       have e : a.eval (.tmp 9) = .int .i64 0 := ins_ext hin 9 (by kernel_rfl)
       exact upon_move rfl e
      ·refine need_plain rfl (fun a w' hg hin => ?_)
       have e : a.eval (.tmp 1) = .int .i64 0 := ins_ext hin 1 (by kernel_rfl)
       exact upon_move rfl e
      ·refine need_plain rfl (fun a w' hg hin => ?_)
       have e18 : a.eval (.tmp 18) = _ := ins_on hin 0 (by kernel_rfl)
       have e19 : a.eval (.tmp 19) = _ := ins_on hin 1 (by kernel_rfl)
       refine upon_val ?_ rfl
       clear hin hg
       obtain ⟨ek, ef⟩ := evs a
       generalize a.eval = ev at *
       go_simp
       all_goals first | omega | (intro _; omega) | go_arith
      ·refine need_plain rfl (fun a w' hg hin => ?_)
       have e : a.eval (.tmp 20) = _ := ins_on hin 2 (by kernel_rfl)
       exact upon_move rfl e
      ·refine need_no 3 true false rfl (by decide) (fun a w' hin => ins_on hin 3 (by kernel_rfl)) (fun _ => rfl)
      ·refine need_no 3 true false rfl (by decide) (fun a w' hin => ins_on hin 3 (by kernel_rfl)) (fun _ => rfl)
      ·refine need_no 3 true false rfl (by decide) (fun a w' hin => ins_on hin 3 (by kernel_rfl)) (fun _ => rfl)
      ·refine need_no 3 true false rfl (by decide) (fun a w' hin => ins_on hin 3 (by kernel_rfl)) (fun _ => rfl)
      ·refine need_no 3 true false rfl (by decide) (fun a w' hin => ins_on hin 3 (by kernel_rfl)) (fun _ => rfl)
      ·refine need_no 3 true false rfl (by decide) (fun a w' hin => ins_on hin 3 (by kernel_rfl)) (fun _ => rfl)
      ·refine need_no 3 true false rfl (by decide) (fun a w' hin => ins_on hin 3 (by kernel_rfl)) (fun _ => rfl)
      ·refine need_no 3 true false rfl (by decide) (fun a w' hin => ins_on hin 3 (by kernel_rfl)) (fun _ => rfl)
      ·refine need_no 3 true false rfl (by decide) (fun a w' hin => ins_on hin 3 (by kernel_rfl)) (fun _ => rfl)
      ·refine need_no 3 true false rfl (by decide) (fun a w' hin => ins_on hin 3 (by kernel_rfl)) (fun _ => rfl)
      ·refine need_no 3 true false rfl (by decide) (fun a w' hin => ins_on hin 3 (by kernel_rfl)) (fun _ => rfl)
      ·refine need_no 3 true false rfl (by decide) (fun a w' hin => ins_on hin 3 (by kernel_rfl)) (fun _ => rfl)
      ·refine need_plain rfl (fun a w' hg hin => ?_)
       have ec : a.eval (.tmp 21) = _ := ins_on hin 3 (by kernel_rfl)
       exact upon_pick rfl ec rfl
     ·intro vs w' hg ht
      obtain ⟨q18, q19, q20, q21, q22, q23, q24, q25, q26, q27, q28, q29, q30, q31, q32, q33, q34, -⟩ := ht
      have r18 : vs 0 = .int .i64 0 := q18
      have r19 : vs 1 = .int .i64 0 := q19
      have r20 : vs 2 = .bool false := q20
      have r21 : vs 3 = .bool false := q21
      have r22 : vs 4 = undef := q22
      have r23 : vs 5 = undef := q23
      have r24 : vs 6 = undef := q24
      have r25 : vs 7 = undef := q25
      have r26 : vs 8 = undef := q26
      have r27 : vs 9 = undef := q27
      have r28 : vs 10 = undef := q28
      have r29 : vs 11 = undef := q29
      have r30 : vs 12 = undef := q30
      have r31 : vs 13 = undef := q31
      have r32 : vs 14 = undef := q32
      have r33 : vs 15 = undef := q33
      have r34 : vs 16 = .bool false := q34
      clear q18 q19 q20 q21 q22 q23 q24 q25 q26 q27 q28 q29 q30 q31 q32 q33 q34
      simp only [putAll, Act.put, List.setIfInBounds_toArray, List.set_cons_zero, List.set_cons_succ, r18, r19, r20, r21, r22, r23, r24, r25, r26, r27, r28, r29, r30, r31, r32, r33, r34]
      clear r18 r19 r20 r21 r22 r23 r24 r25 r26 r27 r28 r29 r30 r31 r32 r33 r34
      have hS2 := hS1.on hg
      clear hS1 hg
      go_wp2_with fail
      go_roundw
      case rel => exact ⟨k + 1, ys, by omega, by omega, by go_num, HE.out, hS2⟩
      case measure => simp [intOf]; omega
    ·obtain ⟨css, hRow⟩ := hS.row
     have hml : m + 1 < ys.length := by rw [hS.len]; omega
     obtain ⟨x, hx⟩ : ∃ x, ys[m]? = some x := ⟨ys[m], List.getElem?_eq_getElem (by omega)⟩
     obtain ⟨y, hy⟩ : ∃ y, ys[m + 1]? = some y := ⟨ys[m + 1], List.getElem?_eq_getElem hml⟩
     obtain ⟨g, ax, cx, hgx, hgB, hbx, p0, p1, p2, p3, p4⟩ := OutR.cells hRow hx
     cases hgx
     obtain ⟨g', ay, cy, hgy, -, hby, q0, q1, q2, q3, q4⟩ := OutR.cells hRow hy
     cases hgy
     have hm12 : m < 12 := by omega
     have HSN : Hid _ := hS
     obtain ⟨o, ho⟩ : ∃ o, o = ordI y x := ⟨_, rfl⟩
     have HOO : Hid _ := ho
     have hlo := ordI_lt y x
     rw [← ho] at hlo
     clear hS ho
     cases hL : lessB y x with
     | false =>
      have HE : Hid (Ord (k + 1) ys) := ord_end HO.out HUN.out hx hy (by rw [hL]; simp) hj
      have ho0 : ¬ (o < 0) := by rw [hL] at hlo; exact of_decide_eq_false hlo
      clear hlo hL HO hbx hby hRow
      go_wp2_with fail
      refine wp_region_told [ex (.int .i64 ((m : Int) + 1)), ex (.int .i64 0), ex (.bool true), ex (.bool true), ex (.func (.func 39) #[] #[]), ex (.slice (some ⟨g, 0, none⟩) xs.length cap), ex (.int .i64 ((m : Int) + 1)), ex (.pointer (some ⟨g, (m + 1) * 5, none⟩)), ex (.agg #[.int .i64 y.rc.kind, .int .i64 y.rc.key, .int .i64 y.rc.ver, .slice ay y.rc.data.length cy, .int .i64 y.pair]), ex (.slice (some ⟨g, 0, none⟩) xs.length cap), ex (.int .i64 ((m : Int) + 1)), ex (.int .i64 (m : Int)), ex (.pointer (some ⟨g, m * 5, none⟩)), ex (.agg #[.int .i64 x.rc.kind, .int .i64 x.rc.key, .int .i64 x.rc.ver, .slice ax x.rc.data.length cx, .int .i64 x.pair]), ex (.int .i64 o), ex (.bool false), ex (.bool false)] (by kernel_rfl) (by kernel_rfl) ⟨st_ex _, st_ex _, st_ex _, st_ex _, st_ex _, st_ex _, st_ex _, st_ex _, st_ex _, st_ex _, st_ex _, st_ex _, st_ex _, st_ex _, st_ex _, st_ex _, st_ex _, trivial⟩ ?_ ?_
      ·refine ⟨?_, ?_, ?_, ?_, ?_, ?_, ?_, ?_, ?_, ?_, ?_, ?_, ?_, ?_, ?_, ?_, ?_, trivial⟩
       ·refine need_plain rfl (fun a w' hg hin => ?_)
        have e : a.eval (.tmp 9) = .int .i64 ((m : Int) + 1) := ins_ext hin 9 (by kernel_rfl)
        exact upon_move rfl e
       ·refine need_plain rfl (fun a w' hg hin => ?_)
        have e : a.eval (.tmp 1) = .int .i64 0 := ins_ext hin 1 (by kernel_rfl)
        exact upon_move rfl e
       ·refine need_plain rfl (fun a w' hg hin => ?_)
        have e18 : a.eval (.tmp 18) = _ := ins_on hin 0 (by kernel_rfl)
        have e19 : a.eval (.tmp 19) = _ := ins_on hin 1 (by kernel_rfl)
        refine upon_val ?_ rfl
        clear hin hg
        obtain ⟨ek, ef⟩ := evs a
        generalize a.eval = ev at *
        go_simp
        all_goals first | omega | (intro _; omega) | go_arith
       ·refine need_plain rfl (fun a w' hg hin => ?_)
        have e : a.eval (.tmp 20) = _ := ins_on hin 2 (by kernel_rfl)
        exact upon_move rfl e
       ·refine need_yes 3 true rfl (fun a w' hin => ins_on hin 3 (by kernel_rfl)) (fun a w' hg hin => ?_)
        have e : a.eval (.tmp 3) = .func (.func 39) #[] #[] := ins_ext hin 3 (by kernel_rfl)
        exact upon_move rfl e
       ·refine need_yes 3 true rfl (fun a w' hin => ins_on hin 3 (by kernel_rfl)) (fun a w' hg hin => ?_)
        have e : a.eval (.tmp 0) = .slice (some ⟨g, 0, none⟩) xs.length cap := ins_ext hin 0 (by kernel_rfl)
        exact upon_move rfl e
       ·refine need_yes 3 true rfl (fun a w' hin => ins_on hin 3 (by kernel_rfl)) (fun a w' hg hin => ?_)
        have e : a.eval (.tmp 9) = .int .i64 ((m : Int) + 1) := ins_ext hin 9 (by kernel_rfl)
        exact upon_move rfl e
       ·refine need_yes 3 true rfl (fun a w' hin => ins_on hin 3 (by kernel_rfl)) (fun a w' hg hin => ?_)
        have e23 : a.eval (.tmp 23) = _ := ins_on hin 5 (by kernel_rfl)
        have e24 : a.eval (.tmp 24) = _ := ins_on hin 6 (by kernel_rfl)
        refine upon_val ?_ rfl
        clear hin hg
        obtain ⟨ek, ef⟩ := evs a
        generalize a.eval = ev at *
        go_simp
        all_goals first | omega | (intro _; omega) | go_arith
       ·refine need_yes 3 true rfl (fun a w' hin => ins_on hin 3 (by kernel_rfl)) (fun a w' hg hin => ?_)
        have e25 : a.eval (.tmp 25) = _ := ins_on hin 7 (by kernel_rfl)
        have h0 := (Below.cell hg (cell_lt q0)).trans q0
        have h1 := (Below.cell hg (cell_lt q1)).trans q1
        have h2 := (Below.cell hg (cell_lt q2)).trans q2
        have h3 := (Below.cell hg (cell_lt q3)).trans q3
        have h4 := (Below.cell hg (cell_lt q4)).trans q4
        refine upon_val ?_ rfl
        clear hin hg
        obtain ⟨ek, ef⟩ := evs a
        generalize a.eval = ev at *
        go_simp
        all_goals first | omega | (intro _; omega) | go_arith
       ·refine need_yes 3 true rfl (fun a w' hin => ins_on hin 3 (by kernel_rfl)) (fun a w' hg hin => ?_)
        have e : a.eval (.tmp 0) = .slice (some ⟨g, 0, none⟩) xs.length cap := ins_ext hin 0 (by kernel_rfl)
        exact upon_move rfl e
       ·refine need_yes 3 true rfl (fun a w' hin => ins_on hin 3 (by kernel_rfl)) (fun a w' hg hin => ?_)
        have e : a.eval (.tmp 9) = .int .i64 ((m : Int) + 1) := ins_ext hin 9 (by kernel_rfl)
        exact upon_move rfl e
       ·refine need_yes 3 true rfl (fun a w' hin => ins_on hin 3 (by kernel_rfl)) (fun a w' hg hin => ?_)
        have e28 : a.eval (.tmp 28) = _ := ins_on hin 10 (by kernel_rfl)
        refine upon_val ?_ rfl
        clear hin hg
        obtain ⟨ek, ef⟩ := evs a
        generalize a.eval = ev at *
        go_simp
        all_goals first | omega | (intro _; omega) | go_arith
       ·refine need_yes 3 true rfl (fun a w' hin => ins_on hin 3 (by kernel_rfl)) (fun a w' hg hin => ?_)
        have e27 : a.eval (.tmp 27) = _ := ins_on hin 9 (by kernel_rfl)
        have e29 : a.eval (.tmp 29) = _ := ins_on hin 11 (by kernel_rfl)
        refine upon_val ?_ rfl
        clear hin hg
        obtain ⟨ek, ef⟩ := evs a
        generalize a.eval = ev at *
        go_simp
        all_goals first | omega | (intro _; omega) | go_arith
       ·refine need_yes 3 true rfl (fun a w' hin => ins_on hin 3 (by kernel_rfl)) (fun a w' hg hin => ?_)
        have e30 : a.eval (.tmp 30) = _ := ins_on hin 12 (by kernel_rfl)
        have h0 := (Below.cell hg (cell_lt p0)).trans p0
        have h1 := (Below.cell hg (cell_lt p1)).trans p1
        have h2 := (Below.cell hg (cell_lt p2)).trans p2
        have h3 := (Below.cell hg (cell_lt p3)).trans p3
        have h4 := (Below.cell hg (cell_lt p4)).trans p4
        refine upon_val ?_ rfl
        clear hin hg
        obtain ⟨ek, ef⟩ := evs a
        generalize a.eval = ev at *
        go_simp
        all_goals first | omega | (intro _; omega) | go_arith
       ·refine need_yes 3 true rfl (fun a w' hin => ins_on hin 3 (by kernel_rfl)) (fun a w' hg hin => ?_)
        have e22 : a.eval (.tmp 22) = _ := ins_on hin 4 (by kernel_rfl)
        have e26 : a.eval (.tmp 26) = _ := ins_on hin 8 (by kernel_rfl)
        have e31 : a.eval (.tmp 31) = _ := ins_on hin 13 (by kernel_rfl)
        refine upon_call (f := 39) (args := #[.agg #[.int .i64 y.rc.kind, .int .i64 y.rc.key, .int .i64 y.rc.ver, .slice ay y.rc.data.length cy, .int .i64 y.pair], .agg #[.int .i64 x.rc.kind, .int .i64 x.rc.key, .int .i64 x.rc.ver, .slice ax x.rc.data.length cx, .int .i64 x.pair]]) ?_ ((order_any y x _ _ _ _ w').mono ?_)
        ·clear hin hg
         obtain ⟨ek, ef⟩ := evs a
         generalize a.eval = ev at *
         go_simp
         all_goals first | omega | (intro _; omega) | go_arith
        ·rw [← HOO.out]
         rintro e w2 ⟨rfl, g2⟩
         exact ⟨_, rfl, g2, rfl⟩
       ·refine need_yes 3 true rfl (fun a w' hin => ins_on hin 3 (by kernel_rfl)) (fun a w' hg hin => ?_)
        have e32 : a.eval (.tmp 32) = _ := ins_on hin 14 (by kernel_rfl)
        refine upon_val ?_ rfl
        clear hin hg
        obtain ⟨ek, ef⟩ := evs a
        generalize a.eval = ev at *
        go_simp
        all_goals first | omega | (intro _; omega) | go_arith
       ·refine need_plain rfl (fun a w' hg hin => ?_)
        have ec : a.eval (.tmp 21) = _ := ins_on hin 3 (by kernel_rfl)
        have e : a.eval (.tmp 33) = _ := ins_on hin 15 (by kernel_rfl)
        exact upon_pick rfl ec e
      ·intro vs w' hg ht
       obtain ⟨q18, q19, q20, q21, q22, q23, q24, q25, q26, q27, q28, q29, q30, q31, q32, q33, q34, -⟩ := ht
       have r18 : vs 0 = .int .i64 ((m : Int) + 1) := q18
       have r19 : vs 1 = .int .i64 0 := q19
       have r20 : vs 2 = .bool true := q20
       have r21 : vs 3 = .bool true := q21
       have r22 : vs 4 = .func (.func 39) #[] #[] := q22
       have r23 : vs 5 = .slice (some ⟨g, 0, none⟩) xs.length cap := q23
       have r24 : vs 6 = .int .i64 ((m : Int) + 1) := q24
       have r25 : vs 7 = .pointer (some ⟨g, (m + 1) * 5, none⟩) := q25
       have r26 : vs 8 = .agg #[.int .i64 y.rc.kind, .int .i64 y.rc.key, .int .i64 y.rc.ver, .slice ay y.rc.data.length cy, .int .i64 y.pair] := q26
       have r27 : vs 9 = .slice (some ⟨g, 0, none⟩) xs.length cap := q27
       have r28 : vs 10 = .int .i64 ((m : Int) + 1) := q28
       have r29 : vs 11 = .int .i64 (m : Int) := q29
       have r30 : vs 12 = .pointer (some ⟨g, m * 5, none⟩) := q30
       have r31 : vs 13 = .agg #[.int .i64 x.rc.kind, .int .i64 x.rc.key, .int .i64 x.rc.ver, .slice ax x.rc.data.length cx, .int .i64 x.pair] := q31
       have r32 : vs 14 = .int .i64 o := q32
       have r33 : vs 15 = .bool false := q33
       have r34 : vs 16 = .bool false := q34
       clear q18 q19 q20 q21 q22 q23 q24 q25 q26 q27 q28 q29 q30 q31 q32 q33 q34
       simp only [putAll, Act.put, List.setIfInBounds_toArray, List.set_cons_zero, List.set_cons_succ, r18, r19, r20, r21, r22, r23, r24, r25, r26, r27, r28, r29, r30, r31, r32, r33, r34]
       clear r18 r19 r20 r21 r22 r23 r24 r25 r26 r27 r28 r29 r30 r31 r32 r33 r34
       have hS2 := HSN.out.on hg
       clear hg HSN p0 p1 p2 p3 p4 q0 q1 q2 q3 q4
       go_wp2_with fail
       go_roundw
       case rel => exact ⟨k + 1, ys, by omega, by omega, by go_num, HE.out, hS2⟩
       case measure => simp [intOf]; omega
     | true =>
      have HE : Hid (Ord1 k m (swapE ys m x y)) := ord_swap HO.out hx hy hL (unlike_at HUN.out (Nat.lt_succ_self m) hx hy) hj
      have HPM : Hid ((swapE ys m x y).Perm xs) := (swap_perm hx hy).trans HSN.out.perm
      have ho0 : o < 0 := by rw [hL] at hlo; exact of_decide_eq_true hlo
      clear hlo hL HO hbx hby hRow HUN
      go_wp2_with fail
      refine wp_region_told [ex (.int .i64 ((m : Int) + 1)), ex (.int .i64 0), ex (.bool true), ex (.bool true), ex (.func (.func 39) #[] #[]), ex (.slice (some ⟨g, 0, none⟩) xs.length cap), ex (.int .i64 ((m : Int) + 1)), ex (.pointer (some ⟨g, (m + 1) * 5, none⟩)), ex (.agg #[.int .i64 y.rc.kind, .int .i64 y.rc.key, .int .i64 y.rc.ver, .slice ay y.rc.data.length cy, .int .i64 y.pair]), ex (.slice (some ⟨g, 0, none⟩) xs.length cap), ex (.int .i64 ((m : Int) + 1)), ex (.int .i64 (m : Int)), ex (.pointer (some ⟨g, m * 5, none⟩)), ex (.agg #[.int .i64 x.rc.kind, .int .i64 x.rc.key, .int .i64 x.rc.ver, .slice ax x.rc.data.length cx, .int .i64 x.pair]), ex (.int .i64 o), ex (.bool true), ex (.bool true)] (by kernel_rfl) (by kernel_rfl) ⟨st_ex _, st_ex _, st_ex _, st_ex _, st_ex _, st_ex _, st_ex _, st_ex _, st_ex _, st_ex _, st_ex _, st_ex _, st_ex _, st_ex _, st_ex _, st_ex _, st_ex _, trivial⟩ ?_ ?_
      ·refine ⟨?_, ?_, ?_, ?_, ?_, ?_, ?_, ?_, ?_, ?_, ?_, ?_, ?_, ?_, ?_, ?_, ?_, trivial⟩
       ·refine need_plain rfl (fun a w' hg hin => ?_)
        have e : a.eval (.tmp 9) = .int .i64 ((m : Int) + 1) := ins_ext hin 9 (by kernel_rfl)
        exact upon_move rfl e
       ·refine need_plain rfl (fun a w' hg hin => ?_)
        have e : a.eval (.tmp 1) = .int .i64 0 := ins_ext hin 1 (by kernel_rfl)
        exact upon_move rfl e
       ·refine need_plain rfl (fun a w' hg hin => ?_)
        have e18 : a.eval (.tmp 18) = _ := ins_on hin 0 (by kernel_rfl)
        have e19 : a.eval (.tmp 19) = _ := ins_on hin 1 (by kernel_rfl)
        refine upon_val ?_ rfl
        clear hin hg
        obtain ⟨ek, ef⟩ := evs a
        generalize a.eval = ev at *
        go_simp
        all_goals first | omega | (intro _; omega) | go_arith
       ·refine need_plain rfl (fun a w' hg hin => ?_)
        have e : a.eval (.tmp 20) = _ := ins_on hin 2 (by kernel_rfl)
        exact upon_move rfl e
       ·refine need_yes 3 true rfl (fun a w' hin => ins_on hin 3 (by kernel_rfl)) (fun a w' hg hin => ?_)
        have e : a.eval (.tmp 3) = .func (.func 39) #[] #[] := ins_ext hin 3 (by kernel_rfl)
        exact upon_move rfl e
       ·refine need_yes 3 true rfl (fun a w' hin => ins_on hin 3 (by kernel_rfl)) (fun a w' hg hin => ?_)
        have e : a.eval (.tmp 0) = .slice (some ⟨g, 0, none⟩) xs.length cap := ins_ext hin 0 (by kernel_rfl)
        exact upon_move rfl e
       ·refine need_yes 3 true rfl (fun a w' hin => ins_on hin 3 (by kernel_rfl)) (fun a w' hg hin => ?_)
        have e : a.eval (.tmp 9) = .int .i64 ((m : Int) + 1) := ins_ext hin 9 (by kernel_rfl)
        exact upon_move rfl e
       ·refine need_yes 3 true rfl (fun a w' hin => ins_on hin 3 (by kernel_rfl)) (fun a w' hg hin => ?_)
        have e23 : a.eval (.tmp 23) = _ := ins_on hin 5 (by kernel_rfl)
        have e24 : a.eval (.tmp 24) = _ := ins_on hin 6 (by kernel_rfl)
        refine upon_val ?_ rfl
        clear hin hg
        obtain ⟨ek, ef⟩ := evs a
        generalize a.eval = ev at *
        go_simp
        all_goals first | omega | (intro _; omega) | go_arith
       ·refine need_yes 3 true rfl (fun a w' hin => ins_on hin 3 (by kernel_rfl)) (fun a w' hg hin => ?_)
        have e25 : a.eval (.tmp 25) = _ := ins_on hin 7 (by kernel_rfl)
        have h0 := (Below.cell hg (cell_lt q0)).trans q0
        have h1 := (Below.cell hg (cell_lt q1)).trans q1
        have h2 := (Below.cell hg (cell_lt q2)).trans q2
        have h3 := (Below.cell hg (cell_lt q3)).trans q3
        have h4 := (Below.cell hg (cell_lt q4)).trans q4
        refine upon_val ?_ rfl
        clear hin hg
        obtain ⟨ek, ef⟩ := evs a
        generalize a.eval = ev at *
        go_simp
        all_goals first | omega | (intro _; omega) | go_arith
       ·refine need_yes 3 true rfl (fun a w' hin => ins_on hin 3 (by kernel_rfl)) (fun a w' hg hin => ?_)
        have e : a.eval (.tmp 0) = .slice (some ⟨g, 0, none⟩) xs.length cap := ins_ext hin 0 (by kernel_rfl)
        exact upon_move rfl e
       ·refine need_yes 3 true rfl (fun a w' hin => ins_on hin 3 (by kernel_rfl)) (fun a w' hg hin => ?_)
        have e : a.eval (.tmp 9) = .int .i64 ((m : Int) + 1) := ins_ext hin 9 (by kernel_rfl)
        exact upon_move rfl e
       ·refine need_yes 3 true rfl (fun a w' hin => ins_on hin 3 (by kernel_rfl)) (fun a w' hg hin => ?_)
        have e28 : a.eval (.tmp 28) = _ := ins_on hin 10 (by kernel_rfl)
        refine upon_val ?_ rfl
        clear hin hg
        obtain ⟨ek, ef⟩ := evs a
        generalize a.eval = ev at *
        go_simp
        all_goals first | omega | (intro _; omega) | go_arith
       ·refine need_yes 3 true rfl (fun a w' hin => ins_on hin 3 (by kernel_rfl)) (fun a w' hg hin => ?_)
        have e27 : a.eval (.tmp 27) = _ := ins_on hin 9 (by kernel_rfl)
        have e29 : a.eval (.tmp 29) = _ := ins_on hin 11 (by kernel_rfl)
        refine upon_val ?_ rfl
        clear hin hg
        obtain ⟨ek, ef⟩ := evs a
        generalize a.eval = ev at *
        go_simp
        all_goals first | omega | (intro _; omega) | go_arith
       ·refine need_yes 3 true rfl (fun a w' hin => ins_on hin 3 (by kernel_rfl)) (fun a w' hg hin => ?_)
        have e30 : a.eval (.tmp 30) = _ := ins_on hin 12 (by kernel_rfl)
        have h0 := (Below.cell hg (cell_lt p0)).trans p0
        have h1 := (Below.cell hg (cell_lt p1)).trans p1
        have h2 := (Below.cell hg (cell_lt p2)).trans p2
        have h3 := (Below.cell hg (cell_lt p3)).trans p3
        have h4 := (Below.cell hg (cell_lt p4)).trans p4
        refine upon_val ?_ rfl
        clear hin hg
        obtain ⟨ek, ef⟩ := evs a
        generalize a.eval = ev at *
        go_simp
        all_goals first | omega | (intro _; omega) | go_arith
       ·refine need_yes 3 true rfl (fun a w' hin => ins_on hin 3 (by kernel_rfl)) (fun a w' hg hin => ?_)
        have e22 : a.eval (.tmp 22) = _ := ins_on hin 4 (by kernel_rfl)
        have e26 : a.eval (.tmp 26) = _ := ins_on hin 8 (by kernel_rfl)
        have e31 : a.eval (.tmp 31) = _ := ins_on hin 13 (by kernel_rfl)
        refine upon_call (f := 39) (args := #[.agg #[.int .i64 y.rc.kind, .int .i64 y.rc.key, .int .i64 y.rc.ver, .slice ay y.rc.data.length cy, .int .i64 y.pair], .agg #[.int .i64 x.rc.kind, .int .i64 x.rc.key, .int .i64 x.rc.ver, .slice ax x.rc.data.length cx, .int .i64 x.pair]]) ?_ ((order_any y x _ _ _ _ w').mono ?_)
        ·clear hin hg
         obtain ⟨ek, ef⟩ := evs a
         generalize a.eval = ev at *
         go_simp
         all_goals first | omega | (intro _; omega) | go_arith
        ·rw [← HOO.out]
         rintro e w2 ⟨rfl, g2⟩
         exact ⟨_, rfl, g2, rfl⟩
       ·refine need_yes 3 true rfl (fun a w' hin => ins_on hin 3 (by kernel_rfl)) (fun a w' hg hin => ?_)
        have e32 : a.eval (.tmp 32) = _ := ins_on hin 14 (by kernel_rfl)
        refine upon_val ?_ rfl
        clear hin hg
        obtain ⟨ek, ef⟩ := evs a
        generalize a.eval = ev at *
        go_simp
        all_goals first | omega | (intro _; omega) | go_arith
       ·refine need_plain rfl (fun a w' hg hin => ?_)
        have ec : a.eval (.tmp 21) = _ := ins_on hin 3 (by kernel_rfl)
        have e : a.eval (.tmp 33) = _ := ins_on hin 15 (by kernel_rfl)
        exact upon_pick rfl ec e
      ·intro vs w' hg ht
       obtain ⟨q18, q19, q20, q21, q22, q23, q24, q25, q26, q27, q28, q29, q30, q31, q32, q33, q34, -⟩ := ht
       have r18 : vs 0 = .int .i64 ((m : Int) + 1) := q18
       have r19 : vs 1 = .int .i64 0 := q19
       have r20 : vs 2 = .bool true := q20
       have r21 : vs 3 = .bool true := q21
       have r22 : vs 4 = .func (.func 39) #[] #[] := q22
       have r23 : vs 5 = .slice (some ⟨g, 0, none⟩) xs.length cap := q23
       have r24 : vs 6 = .int .i64 ((m : Int) + 1) := q24
       have r25 : vs 7 = .pointer (some ⟨g, (m + 1) * 5, none⟩) := q25
       have r26 : vs 8 = .agg #[.int .i64 y.rc.kind, .int .i64 y.rc.key, .int .i64 y.rc.ver, .slice ay y.rc.data.length cy, .int .i64 y.pair] := q26
       have r27 : vs 9 = .slice (some ⟨g, 0, none⟩) xs.length cap := q27
       have r28 : vs 10 = .int .i64 ((m : Int) + 1) := q28
       have r29 : vs 11 = .int .i64 (m : Int) := q29
       have r30 : vs 12 = .pointer (some ⟨g, m * 5, none⟩) := q30
       have r31 : vs 13 = .agg #[.int .i64 x.rc.kind, .int .i64 x.rc.key, .int .i64 x.rc.ver, .slice ax x.rc.data.length cx, .int .i64 x.pair] := q31
       have r32 : vs 14 = .int .i64 o := q32
       have r33 : vs 15 = .bool true := q33
       have r34 : vs 16 = .bool true := q34
       clear q18 q19 q20 q21 q22 q23 q24 q25 q26 q27 q28 q29 q30 q31 q32 q33 q34
       simp only [putAll, Act.put, List.setIfInBounds_toArray, List.set_cons_zero, List.set_cons_succ, r18, r19, r20, r21, r22, r23, r24, r25, r26, r27, r28, r29, r30, r31, r32, r33, r34]
       clear r18 r19 r20 r21 r22 r23 r24 r25 r26 r27 r28 r29 r30 r31 r32 r33 r34
       have hS2 := HSN.out.on hg
       clear hg HSN p0 p1 p2 p3 p4 q0 q1 q2 q3 q4 ho0 HOO
       obtain ⟨css2, hRow2⟩ := hS2.row
       obtain ⟨g', ax2, cx2, e2, -, hbx2, p0, p1, p2, p3, p4⟩ := OutR.cells hRow2 hx
       cases e2
       obtain ⟨g', ay2, cy2, e2, -, hby2, q0, q1, q2, q3, q4⟩ := OutR.cells hRow2 hy
       cases e2
       have hgw : w0.heap.size ≤ g := by omega
       have HG0 : Hid _ := hS2.grow
       have HX : Hid _ := hx
       clear hS2 hx hy
       go_wp2_with fail
       obtain ⟨W, rfl⟩ : ∃ W : World, W = w' := ⟨_, rfl⟩
       refine wp_region_v [pl (ex (.slice (some ⟨g, 0, none⟩) xs.length cap)), pl (ex (.int .i64 ((m : Int) + 1))), pl (ex (.slice (some ⟨g, 0, none⟩) xs.length cap)), pl (ex (.int .i64 ((m : Int) + 1))), pl (ex (.int .i64 (m : Int))), pl (ex (.slice (some ⟨g, 0, none⟩) xs.length cap)), pl (ex (.int .i64 ((m : Int) + 1))), pl (ex (.int .i64 (m : Int))), pl (ex (.pointer (some ⟨g, m * 5, none⟩))), pl (ex (.agg #[.int .i64 x.rc.kind, .int .i64 x.rc.key, .int .i64 x.rc.ver, .slice ax2 x.rc.data.length cx2, .int .i64 x.pair])), pl (ex (.slice (some ⟨g, 0, none⟩) xs.length cap)), pl (ex (.int .i64 ((m : Int) + 1))), pl (ex (.pointer (some ⟨g, (m + 1) * 5, none⟩))), pl (ex (.agg #[.int .i64 y.rc.kind, .int .i64 y.rc.key, .int .i64 y.rc.ver, .slice ay2 y.rc.data.length cy2, .int .i64 y.pair])), pl (ex (.pointer (some ⟨g, (m + 1) * 5, none⟩))), pl ((fun _ _ => True)), pl (ex (.pointer (some ⟨g, m * 5, none⟩))), pl ((fun _ _ => True))] [none, none, none, none, none, none, none, none, none, none, none, none, none, none, none, some ((fun _ _ => True)), none, some ((fun _ _ => True))] (SwapJ S0 B w0 W (.slice (some ⟨g, 0, none⟩) xs.length cap) ys m x y ay2 cy2) (by kernel_rfl) (by kernel_rfl) ⟨st_pl (st_ex _), st_pl (st_ex _), st_pl (st_ex _), st_pl (st_ex _), st_pl (st_ex _), st_pl (st_ex _), st_pl (st_ex _), st_pl (st_ex _), st_pl (st_ex _), st_pl (st_ex _), st_pl (st_ex _), st_pl (st_ex _), st_pl (st_ex _), st_pl (st_ex _), st_pl (st_ex _), st_pl ((fun _ _ _ _ _ => trivial)), st_pl (st_ex _), st_pl ((fun _ _ _ _ _ => trivial)), trivial⟩ ⟨⟨(fun _ => trivial), ⟨.inr (fun _ _ _ _ _ h => h), .inr (fun _ _ _ _ _ h => h), .inr (fun _ _ _ _ _ h => h), .inr (fun _ _ _ _ _ h => h), .inr (fun _ _ _ _ _ h => h), .inr (fun _ _ _ _ _ h => h), .inr (fun _ _ _ _ _ h => h), .inr (fun _ _ _ _ _ h => h), .inr (fun _ _ _ _ _ h => h), .inr (fun _ _ _ _ _ h => h), .inr (fun _ _ _ _ _ h => h), .inr (fun _ _ _ _ _ h => h), .inr (fun _ _ _ _ _ h => h), .inr (fun _ _ _ _ _ h => h), .inr (fun _ _ _ _ _ h => h), .inl (by kernel_rfl), .inl (by kernel_rfl), .inl (by kernel_rfl), trivial⟩⟩, ⟨(fun _ => trivial), ⟨.inr (fun _ _ _ _ _ h => h), .inr (fun _ _ _ _ _ h => h), .inr (fun _ _ _ _ _ h => h), .inr (fun _ _ _ _ _ h => h), .inr (fun _ _ _ _ _ h => h), .inr (fun _ _ _ _ _ h => h), .inr (fun _ _ _ _ _ h => h), .inr (fun _ _ _ _ _ h => h), .inr (fun _ _ _ _ _ h => h), .inr (fun _ _ _ _ _ h => h), .inr (fun _ _ _ _ _ h => h), .inr (fun _ _ _ _ _ h => h), .inr (fun _ _ _ _ _ h => h), .inr (fun _ _ _ _ _ h => h), .inr (fun _ _ _ _ _ h => h), .inr ((fun _ _ _ _ _ _ => trivial)), .inr (fun _ _ _ _ _ h => h), .inl (by kernel_rfl), trivial⟩⟩, trivial⟩ ⟨(fun h => by cases h), (fun h => by cases h), (fun h => by cases h), (fun h => by cases h), (fun h => by cases h), (fun h => by cases h), (fun h => by cases h), (fun h => by cases h), (fun h => by cases h), (fun h => by cases h), (fun h => by cases h), (fun h => by cases h), (fun h => by cases h), (fun h => by cases h), (fun h => by cases h), fun _ _ _ _ h => h, (fun h => by cases h), fun _ _ _ _ h => h, trivial⟩ ⟨HG0.out.drew, fun _ => (Grow.refl _).drew, (fun h => by cases h), (fun h => by cases h)⟩ ?_ ?_
       ·refine ⟨?_, ?_, ?_, ?_, ?_, ?_, ?_, ?_, ?_, ?_, ?_, ?_, ?_, ?_, ?_, ?_, ?_, ?_, trivial⟩
        ·refine needv_plain rfl (fun a w' dn hr hg hin => ?_)
         have e : a.eval (.tmp 0) = .slice (some ⟨g, 0, none⟩) xs.length cap := insw_ext hin 0 (by kernel_rfl)
         exact uponw_move rfl hg e
        ·refine needv_plain rfl (fun a w' dn hr hg hin => ?_)
         have e : a.eval (.tmp 9) = .int .i64 ((m : Int) + 1) := insw_ext hin 9 (by kernel_rfl)
         exact uponw_move rfl hg e
        ·refine needv_plain rfl (fun a w' dn hr hg hin => ?_)
         have e : a.eval (.tmp 0) = .slice (some ⟨g, 0, none⟩) xs.length cap := insw_ext hin 0 (by kernel_rfl)
         exact uponw_move rfl hg e
        ·refine needv_plain rfl (fun a w' dn hr hg hin => ?_)
         have e : a.eval (.tmp 9) = .int .i64 ((m : Int) + 1) := insw_ext hin 9 (by kernel_rfl)
         exact uponw_move rfl hg e
        ·refine needv_plain rfl (fun a w' dn hr hg hin => ?_)
         have e40 : a.eval (.tmp 40) = _ := insw_on hin 3 (by kernel_rfl)
         refine uponw_val ?_ hg rfl
         clear hin hg
         obtain ⟨ek, ef⟩ := evs a
         generalize a.eval = ev at *
         go_simp
         all_goals first | omega | (intro _; omega) | go_arith
        ·refine needv_plain rfl (fun a w' dn hr hg hin => ?_)
         have e : a.eval (.tmp 0) = .slice (some ⟨g, 0, none⟩) xs.length cap := insw_ext hin 0 (by kernel_rfl)
         exact uponw_move rfl hg e
        ·refine needv_plain rfl (fun a w' dn hr hg hin => ?_)
         have e : a.eval (.tmp 9) = .int .i64 ((m : Int) + 1) := insw_ext hin 9 (by kernel_rfl)
         exact uponw_move rfl hg e
        ·refine needv_plain rfl (fun a w' dn hr hg hin => ?_)
         have e43 : a.eval (.tmp 43) = _ := insw_on hin 6 (by kernel_rfl)
         refine uponw_val ?_ hg rfl
         clear hin hg
         obtain ⟨ek, ef⟩ := evs a
         generalize a.eval = ev at *
         go_simp
         all_goals first | omega | (intro _; omega) | go_arith
        ·refine needv_plain rfl (fun a w' dn hr hg hin => ?_)
         have e42 : a.eval (.tmp 42) = _ := insw_on hin 5 (by kernel_rfl)
         have e44 : a.eval (.tmp 44) = _ := insw_on hin 7 (by kernel_rfl)
         refine uponw_val ?_ hg rfl
         clear hin hg
         obtain ⟨ek, ef⟩ := evs a
         generalize a.eval = ev at *
         go_simp
         all_goals first | omega | (intro _; omega) | go_arith
        ·refine needv_plain rfl (fun a w' dn hr hg hin => ?_)
         have e45 : a.eval (.tmp 45) = _ := insw_on hin 8 (by kernel_rfl)
         have hn := hg.2.1 (hr.not1 15 (by kernel_rfl))
         have h0 := (Below.cell hn (cell_lt p0)).trans p0
         have h1 := (Below.cell hn (cell_lt p1)).trans p1
         have h2 := (Below.cell hn (cell_lt p2)).trans p2
         have h3 := (Below.cell hn (cell_lt p3)).trans p3
         have h4 := (Below.cell hn (cell_lt p4)).trans p4
         refine uponw_val ?_ hg rfl
         clear hin hg hr hn
         obtain ⟨ek, ef⟩ := evs a
         generalize a.eval = ev at *
         go_simp
         all_goals first | omega | (intro _; omega) | go_arith
        ·refine needv_plain rfl (fun a w' dn hr hg hin => ?_)
         have e : a.eval (.tmp 0) = .slice (some ⟨g, 0, none⟩) xs.length cap := insw_ext hin 0 (by kernel_rfl)
         exact uponw_move rfl hg e
        ·refine needv_plain rfl (fun a w' dn hr hg hin => ?_)
         have e : a.eval (.tmp 9) = .int .i64 ((m : Int) + 1) := insw_ext hin 9 (by kernel_rfl)
         exact uponw_move rfl hg e
        ·refine needv_plain rfl (fun a w' dn hr hg hin => ?_)
         have e47 : a.eval (.tmp 47) = _ := insw_on hin 10 (by kernel_rfl)
         have e48 : a.eval (.tmp 48) = _ := insw_on hin 11 (by kernel_rfl)
         refine uponw_val ?_ hg rfl
         clear hin hg
         obtain ⟨ek, ef⟩ := evs a
         generalize a.eval = ev at *
         go_simp
         all_goals first | omega | (intro _; omega) | go_arith
        ·refine needv_plain rfl (fun a w' dn hr hg hin => ?_)
         have e49 : a.eval (.tmp 49) = _ := insw_on hin 12 (by kernel_rfl)
         have hn := hg.2.1 (hr.not1 15 (by kernel_rfl))
         have h0 := (Below.cell hn (cell_lt q0)).trans q0
         have h1 := (Below.cell hn (cell_lt q1)).trans q1
         have h2 := (Below.cell hn (cell_lt q2)).trans q2
         have h3 := (Below.cell hn (cell_lt q3)).trans q3
         have h4 := (Below.cell hn (cell_lt q4)).trans q4
         refine uponw_val ?_ hg rfl
         clear hin hg hr hn
         obtain ⟨ek, ef⟩ := evs a
         generalize a.eval = ev at *
         go_simp
         all_goals first | omega | (intro _; omega) | go_arith
        ·refine needv_plain rfl (fun a w' dn hr hg hin => ?_)
         have e37 : a.eval (.tmp 37) = _ := insw_on hin 0 (by kernel_rfl)
         have e38 : a.eval (.tmp 38) = _ := insw_on hin 1 (by kernel_rfl)
         refine uponw_val ?_ hg rfl
         clear hin hg
         obtain ⟨ek, ef⟩ := evs a
         generalize a.eval = ev at *
         go_simp
         all_goals first | omega | (intro _; omega) | go_arith
        ·refine needv_plain rfl (fun a w' dn hr hg hin => ?_)
         have e51 : a.eval (.tmp 51) = _ := insw_on hin 14 (by kernel_rfl)
         have e46 : a.eval (.tmp 46) = _ := insw_on hin 9 (by kernel_rfl)
         have hn := hg.2.1 hr.un
         have h0 := (Below.cell hn (cell_lt q0)).trans q0
         have h1 := (Below.cell hn (cell_lt q1)).trans q1
         have h2 := (Below.cell hn (cell_lt q2)).trans q2
         have h3 := (Below.cell hn (cell_lt q3)).trans q3
         have h4 := (Below.cell hn (cell_lt q4)).trans q4
         have hRn := hRow2.grow hn
         have f0 := hRn.frozen ((m + 1) * 5)
         have f1 := hRn.frozen ((m + 1) * 5 + 1)
         have f2 := hRn.frozen ((m + 1) * 5 + 2)
         have f3 := hRn.frozen ((m + 1) * 5 + 3)
         have f4 := hRn.frozen ((m + 1) * 5 + 4)
         have cs := cell_set
         obtain ⟨hR', hbut, hkeep⟩ := hRn.put hS0 hml x (in_grow hbx2 hn)
         refine uponw_skip (w' := _) ?_ trivial ⟨hbut.grow hg.1 hgw, fun h => by simp [upd] at h, fun _ _ => ⟨hR', hkeep _ _ (in_grow hby2 hn)⟩, fun h => by have h17 := hr.not1 17 (by kernel_rfl); simp [upd, h17] at h⟩ trivial
         clear hin hg hr hn hRn hR' hbut hkeep
         obtain ⟨ek, ef⟩ := evs a
         generalize a.eval = ev at *
         go_simp
         all_goals first | omega | (intro _; omega) | go_arith
        ·refine needv_plain rfl (fun a w' dn hr hg hin => ?_)
         have e39 : a.eval (.tmp 39) = _ := insw_on hin 2 (by kernel_rfl)
         have e41 : a.eval (.tmp 41) = _ := insw_on hin 4 (by kernel_rfl)
         refine uponw_val ?_ hg rfl
         clear hin hg
         obtain ⟨ek, ef⟩ := evs a
         generalize a.eval = ev at *
         go_simp
         all_goals first | omega | (intro _; omega) | go_arith
        ·refine needv_plain rfl (fun a w' dn hr hg hin => ?_)
         have e52 : a.eval (.tmp 52) = _ := insw_on hin 16 (by kernel_rfl)
         have e50 : a.eval (.tmp 50) = _ := insw_on hin 13 (by kernel_rfl)
         have h15 := hr.rd 15 (by kernel_rfl)
         obtain ⟨⟨css3, hRn⟩, hb3⟩ := hg.2.2.1 h15 hr.un
         obtain ⟨g', a3, c3, e3, -, -, h0, h1, h2, h3, h4⟩ := OutR.cells hRn (i := m) (x := x) (by rw [List.getElem?_set_ne (by omega)]; exact HX.out)
         cases e3
         have f0 := hRn.frozen (m * 5)
         have f1 := hRn.frozen (m * 5 + 1)
         have f2 := hRn.frozen (m * 5 + 2)
         have f3 := hRn.frozen (m * 5 + 3)
         have f4 := hRn.frozen (m * 5 + 4)
         have cs := cell_set
         obtain ⟨hR', hbut, hkeep⟩ := hRn.put hS0 (i := m) (by rw [List.length_set]; omega) y hb3
         refine uponw_skip (w' := _) ?_ trivial ⟨hbut.grow hg.1 hgw, fun h => by simp [upd, h15] at h, fun _ h => by simp [upd] at h, fun _ => hR'⟩ trivial
         clear hin hg hr hRn hR' hbut hkeep hb3
         obtain ⟨ek, ef⟩ := evs a
         generalize a.eval = ev at *
         go_simp
         all_goals first | omega | (intro _; omega) | go_arith
       ·intro vs w' dn hdn hg ht
        obtain ⟨q37, q38, q39, q40, q41, q42, q43, q44, q45, q46, q47, q48, q49, q50, q51, qo15, q52, qo17, -⟩ := ht
        have r37 : vs 0 = .slice (some ⟨g, 0, none⟩) xs.length cap := q37
        have r38 : vs 1 = .int .i64 ((m : Int) + 1) := q38
        have r39 : vs 2 = .slice (some ⟨g, 0, none⟩) xs.length cap := q39
        have r40 : vs 3 = .int .i64 ((m : Int) + 1) := q40
        have r41 : vs 4 = .int .i64 (m : Int) := q41
        have r42 : vs 5 = .slice (some ⟨g, 0, none⟩) xs.length cap := q42
        have r43 : vs 6 = .int .i64 ((m : Int) + 1) := q43
        have r44 : vs 7 = .int .i64 (m : Int) := q44
        have r45 : vs 8 = .pointer (some ⟨g, m * 5, none⟩) := q45
        have r46 : vs 9 = .agg #[.int .i64 x.rc.kind, .int .i64 x.rc.key, .int .i64 x.rc.ver, .slice ax2 x.rc.data.length cx2, .int .i64 x.pair] := q46
        have r47 : vs 10 = .slice (some ⟨g, 0, none⟩) xs.length cap := q47
        have r48 : vs 11 = .int .i64 ((m : Int) + 1) := q48
        have r49 : vs 12 = .pointer (some ⟨g, (m + 1) * 5, none⟩) := q49
        have r50 : vs 13 = .agg #[.int .i64 y.rc.kind, .int .i64 y.rc.key, .int .i64 y.rc.ver, .slice ay2 y.rc.data.length cy2, .int .i64 y.pair] := q50
        have r51 : vs 14 = .pointer (some ⟨g, (m + 1) * 5, none⟩) := q51
        replace qo15 : ((fun _ _ => True)) (vs 15) w' := qo15
        have r52 : vs 16 = .pointer (some ⟨g, m * 5, none⟩) := q52
        replace qo17 : ((fun _ _ => True)) (vs 17) w' := qo17
        clear q37 q38 q39 q40 q41 q42 q43 q44 q45 q46 q47 q48 q49 q50 q51 q52
        simp only [putAll, Act.put, List.setIfInBounds_toArray, List.set_cons_zero, List.set_cons_succ, r37, r38, r39, r40, r41, r42, r43, r44, r45, r46, r47, r48, r49, r50, r51, r52]
        clear r37 r38 r39 r40 r41 r42 r43 r44 r45 r46 r47 r48 r49 r50 r51 r52
        have hS3 : Srt S0 B w0 (.slice (some ⟨g, 0, none⟩) xs.length cap) xs (swapE ys m x y) w' := ⟨hg.2.2.2 (hdn 17 (by decide)), HPM.out, hg.1⟩
        clear hg hdn hRow2 hbx2 hby2 p0 p1 p2 p3 p4 q0 q1 q2 q3 q4
        go_wp2_with fail
        go_roundw
        case rel => exact ⟨m, _, by omega, by go_num, HE.out, hS3⟩
        case measure => simp [intOf]
  ·have HE : Hid (∃ ys, Srt S0 B w0 (.slice ao xs.length cap) xs ys wr ∧ ys.Pairwise Ups) := ⟨ys, HS.out, ord_ups fun a b x y h1 h2 => HO.out a b x y h1 (by have := HS.out.len; omega)⟩
   have d0 : ¬ ((k : Int) < (xs.length : Int)) := by omega
   clear HO HS
   go_wp2_with fail
   go_end0
   exact ⟨rfl, HE.out⟩
end Go.Proofs.Ytgaecpdokgklpab
