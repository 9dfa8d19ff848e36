import Derived.Test.YtpdnapbchcdhlacGreatIdxD
set_option maxHeartbeats 8000000
namespace Go.Proofs.YtpdnapbchcdhlacGreat
set_option maxRecDepth 100000
open Go.RowKit
open Plain Reg
variable {B cap g i n : Nat} {S0 : Nat → Prop} {ao : Option Addr} {css : List (List Value)} {v : Value} {w w' w0 : World} {ys : List Ent} {α : Type}
theorem Zyd (c0 c1 c2 c3 c4 : Value) : ∀ (i : Nat) (us : List Value), i + 5 ≤ us.length → ((((us.set i c0).set (i + 1) c1).set (i + 2) c2).set (i + 3) c3).set (i + 4) c4 = us.take i ++ [c0, c1, c2, c3, c4] ++ us.drop (i + 5)
 | 0, [], h => by simp at h
 | 0, [_], h => by simp at h
 | 0, [_, _], h => by simp at h
 | 0, [_, _, _], h => by simp at h
 | 0, [_, _, _, _], h => by simp at h
 | 0, a :: b :: c :: d :: e :: us, _ => rfl
 | i + 1, [], h => by simp at h
 | i + 1, a :: us, h => by
  have ih := Zyd c0 c1 c2 c3 c4 i us (by simp at h; omega);show a :: (((((us.set i c0).set (i + 1) c1).set (i + 2) c2).set (i + 3) c3).set (i + 4) c4) = a :: (us.take i ++ [c0, c1, c2, c3, c4] ++ us.drop (i + 5));rw [ih]
theorem Zex (cs : List Value) : ∀ (css : List (List Value)) (i : Nat), (∀ c ∈ css, c.length = 5) → i < css.length → (css.set i cs).flatten = css.flatten.take (i * 5) ++ cs ++ css.flatten.drop (i * 5 + 5)
 | [], i, _, h => by simp at h
 | c :: css, 0, hl, _ => by
  have h1 := hl c (by simp);rw [List.set_cons_zero, List.flatten_cons, List.flatten_cons, Nat.zero_mul, Nat.zero_add, List.take_zero, List.nil_append, List.drop_append_of_le_length (by omega), List.drop_of_length_le (by omega), List.nil_append]
 | c :: css, i + 1, hl, h => by
  have h1 := hl c (by simp);have ih := Zex cs css i (fun c hc => hl c (by simp [hc])) (by simpa using h);rw [List.set_cons_succ, List.flatten_cons, List.flatten_cons, ih, show (i + 1) * 5 = c.length + i * 5 from by rw [h1]; omega, List.take_length_add_append, show c.length + i * 5 + 5 = c.length + (i * 5 + 5) from by omega, List.drop_length_add_append];simp
theorem Yv.lens {sh : Qr α} {xs : List α} (h : Yv sh S0 B v xs css w) : ∀ c ∈ css, c.length = sh.size := by
 intro c hc;obtain ⟨i, hi, rfl⟩ := List.mem_iff_getElem.1 hc;obtain ⟨cs, k1, k2⟩ := h.each i (by rw [← h.len]; exact hi);rw [List.getElem?_eq_getElem hi] at k1;cases k1;exact sh.len k2
theorem Yv.num {sh : Qr α} {xs : List α} (h : Yv sh S0 B (.slice ao n cap) xs css w) : n = xs.length := by
 rcases h.row.2 with ⟨e, h0⟩ | ⟨q, cap', cur, e, _⟩
 ·cases e; exact h0.symm
 ·cases e; rfl
theorem Yv.cells (h : Yv Y8 S0 B (.slice ao n cap) ys css w) {x : Ent} (hx : ys[i]? = some x) :
  ∃ g a c, ao = some ⟨g, 0, none⟩ ∧ B ≤ g ∧ Z0 (InS S0 B w) w (.slice a x.rc.data.length c) x.rc.data ∧ w.cell? ⟨g, i * 5, none⟩ = some (.int .i64 x.rc.kind) ∧ w.cell? ⟨g, i * 5 + 1, none⟩ = some (.int .i64 x.rc.key) ∧ w.cell? ⟨g, i * 5 + 2, none⟩ = some (.int .i64 x.rc.ver) ∧
   w.cell? ⟨g, i * 5 + 3, none⟩ = some (.slice a x.rc.data.length c) ∧ w.cell? ⟨g, i * 5 + 4, none⟩ = some (.int .i64 x.pair) := by
 obtain ⟨hi, rfl⟩ := List.getElem?_eq_some_iff.1 hx;obtain rfl := h.num;obtain ⟨cs, e1, u, e3, hu⟩ := h.each i hi;obtain ⟨a, c, rfl⟩ := hu.form;have hlen := h.lens;rcases h.row.2 with ⟨e, h0⟩ | ⟨q, cap', cur, e, hb, _⟩
 ·rw [h0] at hi; omega
 ·cases e;have key : ∀ j u, cs[j]? = some u → w.cell? ⟨q, i * 5 + j, none⟩ = some u := fun j u hj => by
   have hl5 : cs.length = 5 := Y8.len (show Y8.enc (InS S0 B w) w ys[i] cs from ⟨_, e3, hu⟩);have hj5 : j < 5 := by rw [← hl5]; exact (List.getElem?_eq_some_iff.1 hj).1
   have c0 := h.row.cellAt (i * 5 + j) (show i * 5 + j < ys.length * 5 from by omega);rw [c0, Jj (k := 5) css i j cs hlen e1 hj5, hj]
  subst e3;exact ⟨q, a, c, rfl, hb, hu, key 0 _ rfl, key 1 _ rfl, key 2 _ rfl, key 3 _ rfl, key 4 _ rfl⟩
theorem Yv.put {xs : List Ent} (h : Yv Y8 S0 B (.slice (some ⟨g, 0, none⟩) n cap) xs css w) (hS0 : ∀ b, S0 b → b < B) (hi : i < xs.length) (x : Ent) {a : Option Addr} {c : Nat} (hu : Z0 (InS S0 B w) w (.slice a x.rc.data.length c) x.rc.data) :
  (∃ css', Yv Y8 S0 B (.slice (some ⟨g, 0, none⟩) n cap) (xs.set i x) css' (((((w.setCell ⟨g, i * 5, none⟩ (.int .i64 x.rc.kind)).setCell ⟨g, i * 5 + 1, none⟩ (.int .i64 x.rc.key)).setCell ⟨g, i * 5 + 2, none⟩ (.int .i64 x.rc.ver)).setCell ⟨g, i * 5 + 3, none⟩ (.slice a x.rc.data.length c)).setCell ⟨g, i * 5 + 4, none⟩ (.int .i64 x.pair))) ∧
  Zo g w (((((w.setCell ⟨g, i * 5, none⟩ (.int .i64 x.rc.kind)).setCell ⟨g, i * 5 + 1, none⟩ (.int .i64 x.rc.key)).setCell ⟨g, i * 5 + 2, none⟩ (.int .i64 x.rc.ver)).setCell ⟨g, i * 5 + 3, none⟩ (.slice a x.rc.data.length c)).setCell ⟨g, i * 5 + 4, none⟩ (.int .i64 x.pair)) ∧
  ∀ u l, Z0 (InS S0 B w) w u l → Z0 (InS S0 B (((((w.setCell ⟨g, i * 5, none⟩ (.int .i64 x.rc.kind)).setCell ⟨g, i * 5 + 1, none⟩ (.int .i64 x.rc.key)).setCell ⟨g, i * 5 + 2, none⟩ (.int .i64 x.rc.ver)).setCell ⟨g, i * 5 + 3, none⟩ (.slice a x.rc.data.length c)).setCell ⟨g, i * 5 + 4, none⟩ (.int .i64 x.pair))) (((((w.setCell ⟨g, i * 5, none⟩ (.int .i64 x.rc.kind)).setCell ⟨g, i * 5 + 1, none⟩ (.int .i64 x.rc.key)).setCell ⟨g, i * 5 + 2, none⟩ (.int .i64 x.rc.ver)).setCell ⟨g, i * 5 + 3, none⟩ (.slice a x.rc.data.length c)).setCell ⟨g, i * 5 + 4, none⟩ (.int .i64 x.pair)) u l := by
 obtain rfl := h.num;have hbut : Zo g w (((((w.setCell ⟨g, i * 5, none⟩ (.int .i64 x.rc.kind)).setCell ⟨g, i * 5 + 1, none⟩ (.int .i64 x.rc.key)).setCell ⟨g, i * 5 + 2, none⟩ (.int .i64 x.rc.ver)).setCell ⟨g, i * 5 + 3, none⟩ (.slice a x.rc.data.length c)).setCell ⟨g, i * 5 + 4, none⟩ (.int .i64 x.pair)) := (((((Zo.refl g w).set _ _ _).set _ _ _).set _ _ _).set _ _ _).set _ _ _;have hrow := ((((((h.row.stored (i * 5) (.int .i64 x.rc.kind)).1.stored (i * 5 + 1) (.int .i64 x.rc.key)).1.stored (i * 5 + 2) (.int .i64 x.rc.ver)).1.stored (i * 5 + 3) (.slice a x.rc.data.length c)).1.stored (i * 5 + 4) (.int .i64 x.pair)).1);have hfl : css.flatten.length = css.length * 5 := Vt css h.lens;have hil : i < css.length := by rw [h.len]; exact hi
 rw [Zyd _ _ _ _ _ _ _ (by omega), ← Zex _ css i h.lens hil] at hrow;obtain ⟨cur, hq⟩ : ∃ cur, w.heap[g]? = some (.cells cur 92 (0, 0)) := by
  rcases h.row.2 with ⟨e, _⟩ | ⟨q, cap2, cur, e, _, hh, _⟩
  ·cases e
  ·cases e; exact ⟨cur, hh⟩
 have hqB : B ≤ g := (h.row.lt g rfl).1;have keep : ∀ b, InS S0 B w b → b < w.heap.size → (((((w.setCell ⟨g, i * 5, none⟩ (.int .i64 x.rc.kind)).setCell ⟨g, i * 5 + 1, none⟩ (.int .i64 x.rc.key)).setCell ⟨g, i * 5 + 2, none⟩ (.int .i64 x.rc.ver)).setCell ⟨g, i * 5 + 3, none⟩ (.slice a x.rc.data.length c)).setCell ⟨g, i * 5 + 4, none⟩ (.int .i64 x.pair)).heap[b]? = w.heap[b]? := by
  intro b hSb hlt;refine hbut.block b hlt ?_;rintro rfl;rcases hSb with h | ⟨_, c, f, h⟩
  ·have := hS0 _ h; omega
  ·rw [hq] at h; cases h
 suffices H : Yv Y8 S0 B (.slice (some ⟨g, 0, none⟩) xs.length cap) (xs.set i x) (css.set i [.int .i64 x.rc.kind, .int .i64 x.rc.key, .int .i64 x.rc.ver, .slice a x.rc.data.length c, .int .i64 x.pair]) _ ∧ _ from ⟨⟨_, H.1⟩, hbut, H.2⟩
 generalize World.setCell (World.setCell (World.setCell (World.setCell (World.setCell w _ _) _ _) _ _) _ _) _ _ = w' at *;have keep' : ∀ b, InS S0 B w b → InS S0 B w' b := fun b h => Xq h (fun x => x) fun ⟨k1, c, f, k2⟩ => ⟨k1, c, f, (keep b h (Za k2)).trans k2⟩
 refine ⟨⟨by simp [h.len], fun j hj => ?_, by rw [List.length_set]; exact hrow⟩, fun u l hb => (hb.keeps keep).mono keep'⟩;rw [List.length_set] at hj;by_cases e : i = j
 ·subst e;refine ⟨_, List.getElem?_set_self hil, ?_⟩;rw [List.getElem_set_self];exact Y8.mono (Y8.keep ⟨_, rfl, hu⟩ keep) keep'
 ·obtain ⟨y, e1, e2⟩ := h.each j hj;refine ⟨y, by rw [List.getElem?_set_ne e]; exact e1, ?_⟩;rw [List.getElem_set_ne e];exact Y8.mono (Y8.keep e2 keep) keep'
theorem Zi5 (args : Array Value) (w : World) : (callFunc 74 args).run Tryz.prog w = .ok (.enter 74 args) w := by
 simp [callFunc, Tryz.func74, Tryz.f74, mark]
structure Srt (S0 : Nat → Prop) (B : Nat) (w0 : World) (v : Value) (xs ys : List Ent) (w : World) : Prop where
 row : ∃ css, Yv Y8 S0 B v ys css w
 perm : ys.Perm xs
 grow : Zn w0 w
theorem Srt.on {xs : List Ent} (h : Srt S0 B w0 v xs ys w) (hg : Zn w w') : Srt S0 B w0 v xs ys w' := ⟨h.row.imp fun _ x => x.grow hg, h.perm, h.grow.trans hg⟩
theorem Srt.len {xs : List Ent} (h : Srt S0 B w0 v xs ys w) : ys.length = xs.length := h.perm.length_eq
def Zyq (S0 : Nat → Prop) (B : Nat) (w0 W : World) (v : Value) (ys : List Ent) (m : Nat) (x y : Ent) (ay : Option Addr) (cy : Nat) (dn : Nat → Bool) (w : World) : Prop :=
 Zn w0 w ∧ (dn 15 = false → Zn W w) ∧ (dn 15 = true → dn 17 = false → (∃ css, Yv Y8 S0 B v (ys.set (m + 1) x) css w) ∧ Z0 (InS S0 B w) w (.slice ay y.rc.data.length cy) y.rc.data) ∧ (dn 17 = true → ∃ css, Yv Y8 S0 B v (Zen ys m x y) css w)
theorem Yv.frozen (h : Yv Y8 S0 B (.slice (some ⟨g, 0, none⟩) n cap) ys css w) (j : Nat) : w.frozen? ⟨g, j, none⟩ = false := by
 obtain rfl := h.num;exact h.row.frozenAt j
theorem Zo2 {u : Value} {l : List UInt8} (h : Z0 (InS S0 B w) w u l) (hg : Zn w w') : Z0 (InS S0 B w') w' u l := (h.grow hg).mono (InS.grow hg)
theorem Zqs (S0 : Nat → Prop) (B : Nat) (w0 : World) (v : Value) (xs : List Ent) (w : World) (hS0 : ∀ b, S0 b → b < B) (hB : w0.heap.size ≤ B) (hn : xs.length ≤ 12) (hU : J9 xs) (hR : Srt S0 B w0 v xs xs w) :
  Calls Tryz.prog 140 #[v, .int .i64 0, .int .i64 (xs.length : Int), .func (.func 74) #[] #[]] w fun e w' => e = .returned (.tuple #[]) ∧ ∃ ys, Srt S0 B w0 v xs ys w' ∧ ys.Pairwise Ups := by
 obtain ⟨css0, hR0⟩ := hR.row;obtain ⟨ao, cap, rfl⟩ := hR0.form;clear hR0 css0;have hK := Zi5;go_enter Tryz.func140, Tryz.ntmps140;go_wp2_with fail;go_loopw [8] (fun i wr => ∃ (k : Nat) (ys : List Ent), 1 ≤ k ∧ (k ≤ xs.length ∨ k ≤ 1) ∧ i = .int .i64 (k : Int) ∧ Ord k ys ∧ Srt S0 B w0 (.slice ao xs.length cap) xs ys wr) (fun i _ => xs.length - (intOf i).toNat)
 case atStart => exact ⟨1, xs, Nat.le_refl _, .inr (Nat.le_refl _), rfl, fun a b x y h1 h2 => by omega, hR⟩
 case round =>
  clear hR;obtain ⟨k, ys, hk1, hk2, rfl, hO, hS⟩ := hrel;have HO : Hid _ := hO;have HS : Hid _ := hS;clear hO hS;by_cases hlt : k < xs.length
  ·have d0 : (k : Int) < (xs.length : Int) := by omega
   go_wp2_with fail;clear d0;obtain ⟨wo, rfl⟩ : ∃ wo : World, wo = wr := ⟨_, rfl⟩;go_loopw [9] (fun i wq => ∃ (j : Nat) (ys : List Ent), j ≤ k ∧ i = .int .i64 (j : Int) ∧ Zoa k j ys ∧ Srt S0 B w0 (.slice ao xs.length cap) xs ys wq) (fun i _ => (intOf i).toNat)
   case atStart => exact ⟨k, ys, Nat.le_refl _, rfl, Zqa HO.out, HS.out⟩
   case round =>
    clear HO HS;obtain ⟨j, ys, hj, rfl, hO, hS⟩ := hrel;have HO : Hid _ := hO;have HUN : Hid (J9 ys) := Zjo hU hS.perm;clear hO;rcases j with _ | m
    ·have HE : Hid (Ord (k + 1) ys) := Zs8 HO.out;have hS1 := hS;clear HO hS;go_wp2_with fail;refine Yh [ex (.int .i64 0), ex (.int .i64 0), ex (.bool false), ex (.bool false), ex (undef), ex (undef), ex (undef), ex (undef), ex (undef), ex (undef), ex (undef), ex (undef), ex (undef), ex (undef), ex (undef), ex (undef), ex (.bool false)] (by kernel_rfl) (by kernel_rfl) ⟨Zm _, Zm _, Zm _, Zm _, Zm _, Zm _, Zm _, Zm _, Zm _, Zm _, Zm _, Zm _, Zm _, Zm _, Zm _, Zm _, Zm _, trivial⟩ ?_ ?_
     ·refine ⟨?_, ?_, ?_, ?_, ?_, ?_, ?_, ?_, ?_, ?_, ?_, ?_, ?_, ?_, ?_, ?_, ?_, trivial⟩
      ·exact Zf rfl fun a _ _ _ _ A => Zy rfl (Z2 A 9 rfl)
      ·exact Zf rfl fun a _ _ _ _ A => Zy rfl (Z2 A 1 rfl)
      ·refine Zf rfl fun a _ _ _ B A => ?_;have e18 : a (.tmp 18) = _ := Zj A 0 rfl;have e19 : a (.tmp 19) = _ := Zj A 1 rfl;refine Zq ?_ rfl;clear A B;go_simp;all_goals go_arith
      ·exact Zf rfl fun a _ _ _ _ A => Zy rfl (Zj A 2 rfl)
      ·refine Zz 3 true rfl rfl rfl (fun _ => rfl)
      ·refine Zz 3 true rfl rfl rfl (fun _ => rfl)
      ·refine Zz 3 true rfl rfl rfl (fun _ => rfl)
      ·refine Zz 3 true rfl rfl rfl (fun _ => rfl)
      ·refine Zz 3 true rfl rfl rfl (fun _ => rfl)
      ·refine Zz 3 true rfl rfl rfl (fun _ => rfl)
      ·refine Zz 3 true rfl rfl rfl (fun _ => rfl)
      ·refine Zz 3 true rfl rfl rfl (fun _ => rfl)
      ·refine Zz 3 true rfl rfl rfl (fun _ => rfl)
      ·refine Zz 3 true rfl rfl rfl (fun _ => rfl)
      ·refine Zz 3 true rfl rfl rfl (fun _ => rfl)
      ·refine Zz 3 true rfl rfl rfl (fun _ => rfl)
      ·refine Zf rfl fun a _ B _ _ A => ?_;have ec : a (.tmp 21) = _ := Zj A 3 rfl;exact Xx rfl ec (B _)
     ·intro vs w' hg ht;obtain ⟨(r18 : vs 0 = _), (r19 : vs 1 = _), (r20 : vs 2 = _), (r21 : vs 3 = _), (r22 : vs 4 = _), (r23 : vs 5 = _), (r24 : vs 6 = _), (r25 : vs 7 = _), (r26 : vs 8 = _), (r27 : vs 9 = _), (r28 : vs 10 = _), (r29 : vs 11 = _), (r30 : vs 12 = _), (r31 : vs 13 = _), (r32 : vs 14 = _), (r33 : vs 15 = _), (r34 : vs 16 = _), -⟩ := ht;simp only [Yi, Act.put, List.setIfInBounds_toArray, List.set_cons_zero, List.set_cons_succ, r18, r19, r20, r21, r22, r23, r24, r25, r26, r27, r28, r29, r30, r31, r32, r33, r34];clear r18 r19 r20 r21 r22 r23 r24 r25 r26 r27 r28 r29 r30 r31 r32 r33 r34;have hS2 := hS1.on hg;clear hS1 hg;go_wp2_with fail;go_roundw
      case rel => exact ⟨k + 1, ys, by omega, by omega, by go_num, HE.out, hS2⟩
      case measure => simp [intOf]; omega
    ·obtain ⟨css, hRow⟩ := hS.row;have hml : m + 1 < ys.length := by rw [hS.len]; omega
     obtain ⟨x, hx⟩ : ∃ x, ys[m]? = some x := ⟨ys[m], List.getElem?_eq_getElem (by omega)⟩;obtain ⟨y, hy⟩ : ∃ y, ys[m + 1]? = some y := ⟨ys[m + 1], List.getElem?_eq_getElem hml⟩;obtain ⟨g, ax, cx, hgx, hgB, hbx, p0, p1, p2, p3, p4⟩ := Yv.cells hRow hx;cases hgx;obtain ⟨g', ay, cy, hgy, -, hby, q0, q1, q2, q3, q4⟩ := Yv.cells hRow hy;cases hgy;have hm12 : m < 12 := by omega
     have HSN : Hid _ := hS;obtain ⟨o, ho⟩ : ∃ o, o = Zd8 y x := ⟨_, rfl⟩;have HOO : Hid _ := ho;have hlo := Zo0 y x;rw [← ho] at hlo;clear hS ho;cases hL : Y2 y x with
     | false =>
      have HE : Hid (Ord (k + 1) ys) := Zvu HO.out HUN.out hx hy (by rw [hL]; simp) hj;have ho0 : ¬ (o < 0) := by rw [hL] at hlo; exact of_decide_eq_false hlo
      clear hlo hL HO hbx hby hRow;go_wp2_with fail;refine Yh [ex (.int .i64 ((m : Int) + 1)), ex (.int .i64 0), ex (.bool true), ex (.bool true), ex (.func (.func 74) #[] #[]), ex (.slice (some ⟨g, 0, none⟩) xs.length cap), ex (.int .i64 ((m : Int) + 1)), ex (.pointer (some ⟨g, (m + 1) * 5, none⟩)), ex (.agg #[.int .i64 y.rc.kind, .int .i64 y.rc.key, .int .i64 y.rc.ver, .slice ay y.rc.data.length cy, .int .i64 y.pair]), ex (.slice (some ⟨g, 0, none⟩) xs.length cap), ex (.int .i64 ((m : Int) + 1)), ex (.int .i64 (m : Int)), ex (.pointer (some ⟨g, m * 5, none⟩)), ex (.agg #[.int .i64 x.rc.kind, .int .i64 x.rc.key, .int .i64 x.rc.ver, .slice ax x.rc.data.length cx, .int .i64 x.pair]), ex (.int .i64 o), ex (.bool false), ex (.bool false)] (by kernel_rfl) (by kernel_rfl) ⟨Zm _, Zm _, Zm _, Zm _, Zm _, Zm _, Zm _, Zm _, Zm _, Zm _, Zm _, Zm _, Zm _, Zm _, Zm _, Zm _, Zm _, trivial⟩ ?_ ?_
      ·refine ⟨?_, ?_, ?_, ?_, ?_, ?_, ?_, ?_, ?_, ?_, ?_, ?_, ?_, ?_, ?_, ?_, ?_, trivial⟩
       ·exact Zf rfl fun a _ _ _ _ A => Zy rfl (Z2 A 9 rfl)
       ·exact Zf rfl fun a _ _ _ _ A => Zy rfl (Z2 A 1 rfl)
       ·refine Zf rfl fun a _ _ _ B A => ?_;have e18 : a (.tmp 18) = _ := Zj A 0 rfl;have e19 : a (.tmp 19) = _ := Zj A 1 rfl;refine Zq ?_ rfl;clear A B;go_simp;all_goals go_arith
       ·exact Zf rfl fun a _ _ _ _ A => Zy rfl (Zj A 2 rfl)
       ·exact Zu 3 true rfl rfl rfl fun a _ _ _ _ A => Zy rfl (Z2 A 3 rfl)
       ·exact Zu 3 true rfl rfl rfl fun a _ _ _ _ A => Zy rfl (Z2 A 0 rfl)
       ·exact Zu 3 true rfl rfl rfl fun a _ _ _ _ A => Zy rfl (Z2 A 9 rfl)
       ·refine Zu 3 true rfl rfl rfl fun a _ _ _ B A => ?_;have e23 : a (.tmp 23) = _ := Zj A 5 rfl;have e24 : a (.tmp 24) = _ := Zj A 6 rfl;refine Zq ?_ rfl;clear A B;go_simp;all_goals go_arith
       ·refine Zu 3 true rfl rfl rfl fun a _ _ _ B A => ?_;have e25 : a (.tmp 25) = _ := Zj A 7 rfl;have h0 := (Below.cell B (Zv q0)).trans q0;have h1 := (Below.cell B (Zv q1)).trans q1;have h2 := (Below.cell B (Zv q2)).trans q2;have h3 := (Below.cell B (Zv q3)).trans q3;have h4 := (Below.cell B (Zv q4)).trans q4;refine Zq ?_ rfl;clear A B;go_simp;all_goals go_arith
       ·exact Zu 3 true rfl rfl rfl fun a _ _ _ _ A => Zy rfl (Z2 A 0 rfl)
       ·exact Zu 3 true rfl rfl rfl fun a _ _ _ _ A => Zy rfl (Z2 A 9 rfl)
       ·refine Zu 3 true rfl rfl rfl fun a _ _ _ B A => ?_;have e28 : a (.tmp 28) = _ := Zj A 10 rfl;refine Zq ?_ rfl;clear A B;go_simp;all_goals go_arith
       ·refine Zu 3 true rfl rfl rfl fun a _ _ _ B A => ?_;have e27 : a (.tmp 27) = _ := Zj A 9 rfl;have e29 : a (.tmp 29) = _ := Zj A 11 rfl;refine Zq ?_ rfl;clear A B;go_simp;all_goals go_arith
       ·refine Zu 3 true rfl rfl rfl fun a _ _ _ B A => ?_;have e30 : a (.tmp 30) = _ := Zj A 12 rfl;have h0 := (Below.cell B (Zv p0)).trans p0;have h1 := (Below.cell B (Zv p1)).trans p1;have h2 := (Below.cell B (Zv p2)).trans p2;have h3 := (Below.cell B (Zv p3)).trans p3;have h4 := (Below.cell B (Zv p4)).trans p4;refine Zq ?_ rfl;clear A B;go_simp;all_goals go_arith
       ·refine Zu 3 true rfl rfl rfl fun a B _ _ C A => ?_;have e22 : a (.tmp 22) = _ := Zj A 4 rfl;have e26 : a (.tmp 26) = _ := Zj A 8 rfl;have e31 : a (.tmp 31) = _ := Zj A 13 rfl;refine Xa (f := 74) (args := #[.agg #[.int .i64 y.rc.kind, .int .i64 y.rc.key, .int .i64 y.rc.ver, .slice ay y.rc.data.length cy, .int .i64 y.pair], .agg #[.int .i64 x.rc.kind, .int .i64 x.rc.key, .int .i64 x.rc.ver, .slice ax x.rc.data.length cx, .int .i64 x.pair]]) ?_ ((Zcb y x _ _ _ _ B).mono ?_)
        ·clear A C;go_simp;all_goals go_arith
        ·rw [← HOO.out];rintro e w2 ⟨rfl, g2⟩;exact ⟨_, rfl, g2, rfl⟩
       ·refine Zu 3 true rfl rfl rfl fun a _ _ _ B A => ?_;have e32 : a (.tmp 32) = _ := Zj A 14 rfl;refine Zq ?_ rfl;clear A B;go_simp;all_goals go_arith
       ·refine Zf rfl fun a _ _ _ _ A => ?_;have ec : a (.tmp 21) = _ := Zj A 3 rfl;have e : a (.tmp 33) = _ := Zj A 15 rfl;exact Xx rfl ec e
      ·intro vs w' hg ht;obtain ⟨(r18 : vs 0 = _), (r19 : vs 1 = _), (r20 : vs 2 = _), (r21 : vs 3 = _), (r22 : vs 4 = _), (r23 : vs 5 = _), (r24 : vs 6 = _), (r25 : vs 7 = _), (r26 : vs 8 = _), (r27 : vs 9 = _), (r28 : vs 10 = _), (r29 : vs 11 = _), (r30 : vs 12 = _), (r31 : vs 13 = _), (r32 : vs 14 = _), (r33 : vs 15 = _), (r34 : vs 16 = _), -⟩ := ht;simp only [Yi, Act.put, List.setIfInBounds_toArray, List.set_cons_zero, List.set_cons_succ, r18, r19, r20, r21, r22, r23, r24, r25, r26, r27, r28, r29, r30, r31, r32, r33, r34];clear r18 r19 r20 r21 r22 r23 r24 r25 r26 r27 r28 r29 r30 r31 r32 r33 r34;have hS2 := HSN.out.on hg;clear hg HSN p0 p1 p2 p3 p4 q0 q1 q2 q3 q4;go_wp2_with fail;go_roundw
       case rel => exact ⟨k + 1, ys, by omega, by omega, by go_num, HE.out, hS2⟩
       case measure => simp [intOf]; omega
     | true =>
      have HE : Hid (Zoa k m (Zen ys m x y)) := Zs7 HO.out hx hy hL (Zdu HUN.out (Nat.lt_succ_self m) hx hy) hj;have HPM : Hid ((Zen ys m x y).Perm xs) := (Zph hx hy).trans HSN.out.perm;have ho0 : o < 0 := by rw [hL] at hlo; exact of_decide_eq_true hlo
      clear hlo hL HO hbx hby hRow HUN;go_wp2_with fail;refine Yh [ex (.int .i64 ((m : Int) + 1)), ex (.int .i64 0), ex (.bool true), ex (.bool true), ex (.func (.func 74) #[] #[]), ex (.slice (some ⟨g, 0, none⟩) xs.length cap), ex (.int .i64 ((m : Int) + 1)), ex (.pointer (some ⟨g, (m + 1) * 5, none⟩)), ex (.agg #[.int .i64 y.rc.kind, .int .i64 y.rc.key, .int .i64 y.rc.ver, .slice ay y.rc.data.length cy, .int .i64 y.pair]), ex (.slice (some ⟨g, 0, none⟩) xs.length cap), ex (.int .i64 ((m : Int) + 1)), ex (.int .i64 (m : Int)), ex (.pointer (some ⟨g, m * 5, none⟩)), ex (.agg #[.int .i64 x.rc.kind, .int .i64 x.rc.key, .int .i64 x.rc.ver, .slice ax x.rc.data.length cx, .int .i64 x.pair]), ex (.int .i64 o), ex (.bool true), ex (.bool true)] (by kernel_rfl) (by kernel_rfl) ⟨Zm _, Zm _, Zm _, Zm _, Zm _, Zm _, Zm _, Zm _, Zm _, Zm _, Zm _, Zm _, Zm _, Zm _, Zm _, Zm _, Zm _, trivial⟩ ?_ ?_
      ·refine ⟨?_, ?_, ?_, ?_, ?_, ?_, ?_, ?_, ?_, ?_, ?_, ?_, ?_, ?_, ?_, ?_, ?_, trivial⟩
       ·exact Zf rfl fun a _ _ _ _ A => Zy rfl (Z2 A 9 rfl)
       ·exact Zf rfl fun a _ _ _ _ A => Zy rfl (Z2 A 1 rfl)
       ·refine Zf rfl fun a _ _ _ B A => ?_;have e18 : a (.tmp 18) = _ := Zj A 0 rfl;have e19 : a (.tmp 19) = _ := Zj A 1 rfl;refine Zq ?_ rfl;clear A B;go_simp;all_goals go_arith
       ·exact Zf rfl fun a _ _ _ _ A => Zy rfl (Zj A 2 rfl)
       ·exact Zu 3 true rfl rfl rfl fun a _ _ _ _ A => Zy rfl (Z2 A 3 rfl)
       ·exact Zu 3 true rfl rfl rfl fun a _ _ _ _ A => Zy rfl (Z2 A 0 rfl)
       ·exact Zu 3 true rfl rfl rfl fun a _ _ _ _ A => Zy rfl (Z2 A 9 rfl)
       ·refine Zu 3 true rfl rfl rfl fun a _ _ _ B A => ?_;have e23 : a (.tmp 23) = _ := Zj A 5 rfl;have e24 : a (.tmp 24) = _ := Zj A 6 rfl;refine Zq ?_ rfl;clear A B;go_simp;all_goals go_arith
       ·refine Zu 3 true rfl rfl rfl fun a _ _ _ B A => ?_;have e25 : a (.tmp 25) = _ := Zj A 7 rfl;have h0 := (Below.cell B (Zv q0)).trans q0;have h1 := (Below.cell B (Zv q1)).trans q1;have h2 := (Below.cell B (Zv q2)).trans q2;have h3 := (Below.cell B (Zv q3)).trans q3;have h4 := (Below.cell B (Zv q4)).trans q4;refine Zq ?_ rfl;clear A B;go_simp;all_goals go_arith
       ·exact Zu 3 true rfl rfl rfl fun a _ _ _ _ A => Zy rfl (Z2 A 0 rfl)
       ·exact Zu 3 true rfl rfl rfl fun a _ _ _ _ A => Zy rfl (Z2 A 9 rfl)
       ·refine Zu 3 true rfl rfl rfl fun a _ _ _ B A => ?_;have e28 : a (.tmp 28) = _ := Zj A 10 rfl;refine Zq ?_ rfl;clear A B;go_simp;all_goals go_arith
       ·refine Zu 3 true rfl rfl rfl fun a _ _ _ B A => ?_;have e27 : a (.tmp 27) = _ := Zj A 9 rfl;have e29 : a (.tmp 29) = _ := Zj A 11 rfl;refine Zq ?_ rfl;clear A B;go_simp;all_goals go_arith
       ·refine Zu 3 true rfl rfl rfl fun a _ _ _ B A => ?_;have e30 : a (.tmp 30) = _ := Zj A 12 rfl;have h0 := (Below.cell B (Zv p0)).trans p0;have h1 := (Below.cell B (Zv p1)).trans p1;have h2 := (Below.cell B (Zv p2)).trans p2;have h3 := (Below.cell B (Zv p3)).trans p3;have h4 := (Below.cell B (Zv p4)).trans p4;refine Zq ?_ rfl;clear A B;go_simp;all_goals go_arith
       ·refine Zu 3 true rfl rfl rfl fun a B _ _ C A => ?_;have e22 : a (.tmp 22) = _ := Zj A 4 rfl;have e26 : a (.tmp 26) = _ := Zj A 8 rfl;have e31 : a (.tmp 31) = _ := Zj A 13 rfl;refine Xa (f := 74) (args := #[.agg #[.int .i64 y.rc.kind, .int .i64 y.rc.key, .int .i64 y.rc.ver, .slice ay y.rc.data.length cy, .int .i64 y.pair], .agg #[.int .i64 x.rc.kind, .int .i64 x.rc.key, .int .i64 x.rc.ver, .slice ax x.rc.data.length cx, .int .i64 x.pair]]) ?_ ((Zcb y x _ _ _ _ B).mono ?_)
        ·clear A C;go_simp;all_goals go_arith
        ·rw [← HOO.out];rintro e w2 ⟨rfl, g2⟩;exact ⟨_, rfl, g2, rfl⟩
       ·refine Zu 3 true rfl rfl rfl fun a _ _ _ B A => ?_;have e32 : a (.tmp 32) = _ := Zj A 14 rfl;refine Zq ?_ rfl;clear A B;go_simp;all_goals go_arith
       ·refine Zf rfl fun a _ _ _ _ A => ?_;have ec : a (.tmp 21) = _ := Zj A 3 rfl;have e : a (.tmp 33) = _ := Zj A 15 rfl;exact Xx rfl ec e
      ·intro vs w' hg ht;obtain ⟨(r18 : vs 0 = _), (r19 : vs 1 = _), (r20 : vs 2 = _), (r21 : vs 3 = _), (r22 : vs 4 = _), (r23 : vs 5 = _), (r24 : vs 6 = _), (r25 : vs 7 = _), (r26 : vs 8 = _), (r27 : vs 9 = _), (r28 : vs 10 = _), (r29 : vs 11 = _), (r30 : vs 12 = _), (r31 : vs 13 = _), (r32 : vs 14 = _), (r33 : vs 15 = _), (r34 : vs 16 = _), -⟩ := ht;simp only [Yi, Act.put, List.setIfInBounds_toArray, List.set_cons_zero, List.set_cons_succ, r18, r19, r20, r21, r22, r23, r24, r25, r26, r27, r28, r29, r30, r31, r32, r33, r34];clear r18 r19 r20 r21 r22 r23 r24 r25 r26 r27 r28 r29 r30 r31 r32 r33 r34;have hS2 := HSN.out.on hg;clear hg HSN p0 p1 p2 p3 p4 q0 q1 q2 q3 q4 ho0 HOO;obtain ⟨css2, hRow2⟩ := hS2.row;obtain ⟨g', ax2, cx2, e2, -, hbx2, p0, p1, p2, p3, p4⟩ := Yv.cells hRow2 hx;cases e2;obtain ⟨g', ay2, cy2, e2, -, hby2, q0, q1, q2, q3, q4⟩ := Yv.cells hRow2 hy;cases e2;have hgw : w0.heap.size ≤ g := by omega
       have HG0 : Hid _ := hS2.grow;have HX : Hid _ := hx;clear hS2 hx hy;go_wp2_with fail;obtain ⟨W, rfl⟩ : ∃ W : World, W = w' := ⟨_, rfl⟩
       refine Yx [px (.slice (some ⟨g, 0, none⟩) xs.length cap), px (.int .i64 ((m : Int) + 1)), px (.slice (some ⟨g, 0, none⟩) xs.length cap), px (.int .i64 ((m : Int) + 1)), px (.int .i64 (m : Int)), px (.slice (some ⟨g, 0, none⟩) xs.length cap), px (.int .i64 ((m : Int) + 1)), px (.int .i64 (m : Int)), px (.pointer (some ⟨g, m * 5, none⟩)), px (.agg #[.int .i64 x.rc.kind, .int .i64 x.rc.key, .int .i64 x.rc.ver, .slice ax2 x.rc.data.length cx2, .int .i64 x.pair]), px (.slice (some ⟨g, 0, none⟩) xs.length cap), px (.int .i64 ((m : Int) + 1)), px (.pointer (some ⟨g, (m + 1) * 5, none⟩)), px (.agg #[.int .i64 y.rc.kind, .int .i64 y.rc.key, .int .i64 y.rc.ver, .slice ay2 y.rc.data.length cy2, .int .i64 y.pair]), px (.pointer (some ⟨g, (m + 1) * 5, none⟩)), pl ((fun _ _ => True)), px (.pointer (some ⟨g, m * 5, none⟩)), pl ((fun _ _ => True))] [none, none, none, none, none, none, none, none, none, none, none, none, none, none, none, some ((fun _ _ => True)), none, some ((fun _ _ => True))] (Zyq S0 B w0 W (.slice (some ⟨g, 0, none⟩) xs.length cap) ys m x y ay2 cy2) (by kernel_rfl) (by kernel_rfl) ⟨se, se, se, se, se, se, se, se, se, se, se, se, se, se, se, Yj ((fun _ _ _ _ _ => trivial)), se, Yj ((fun _ _ _ _ _ => trivial)), trivial⟩ ⟨⟨(fun _ => trivial), ⟨x5, x5, x5, x5, x5, x5, x5, x5, x5, x5, x5, x5, x5, x5, x5, .inl (by kernel_rfl), .inl (by kernel_rfl), .inl (by kernel_rfl), trivial⟩⟩, ⟨(fun _ => trivial), ⟨x5, x5, x5, x5, x5, x5, x5, x5, x5, x5, x5, x5, x5, x5, x5, .inr ((fun _ _ _ _ _ _ => trivial)), x5, .inl (by kernel_rfl), trivial⟩⟩, trivial⟩ ⟨n5, n5, n5, n5, n5, n5, n5, n5, n5, n5, n5, n5, n5, n5, n5, fun _ _ _ _ h => h, n5, fun _ _ _ _ h => h, trivial⟩ ⟨HG0.out.drew, fun _ => (Zn.refl _).drew, (fun h => by cases h), (fun h => by cases h)⟩ ?_ ?_
       ·refine ⟨?_, ?_, ?_, ?_, ?_, ?_, ?_, ?_, ?_, ?_, ?_, ?_, ?_, ?_, ?_, ?_, ?_, ?_, trivial⟩
        ·exact Zd rfl fun a _ _ _ _ _ B A => Z6 rfl B (Zl A 0 rfl)
        ·exact Zd rfl fun a _ _ _ _ _ B A => Z6 rfl B (Zl A 9 rfl)
        ·exact Zd rfl fun a _ _ _ _ _ B A => Z6 rfl B (Zl A 0 rfl)
        ·exact Zd rfl fun a _ _ _ _ _ B A => Z6 rfl B (Zl A 9 rfl)
        ·refine Zd rfl fun a _ _ _ _ _ B A => ?_;have e40 : a (.tmp 40) = _ := Ze A 3 rfl;refine Zh ?_ B rfl;clear A B;go_simp;all_goals go_arith
        ·exact Zd rfl fun a _ _ _ _ _ B A => Z6 rfl B (Zl A 0 rfl)
        ·exact Zd rfl fun a _ _ _ _ _ B A => Z6 rfl B (Zl A 9 rfl)
        ·refine Zd rfl fun a _ _ _ _ _ B A => ?_;have e43 : a (.tmp 43) = _ := Ze A 6 rfl;refine Zh ?_ B rfl;clear A B;go_simp;all_goals go_arith
        ·refine Zd rfl fun a _ _ _ _ _ B A => ?_;have e42 : a (.tmp 42) = _ := Ze A 5 rfl;have e44 : a (.tmp 44) = _ := Ze A 7 rfl;refine Zh ?_ B rfl;clear A B;go_simp;all_goals go_arith
        ·refine Zd rfl fun a _ _ _ _ C B A => ?_;have e45 : a (.tmp 45) = _ := Ze A 8 rfl;have hn := B.2.1 (C.not1 15 (by kernel_rfl));have h0 := (Below.cell hn (Zv p0)).trans p0;have h1 := (Below.cell hn (Zv p1)).trans p1;have h2 := (Below.cell hn (Zv p2)).trans p2;have h3 := (Below.cell hn (Zv p3)).trans p3;have h4 := (Below.cell hn (Zv p4)).trans p4;refine Zh ?_ B rfl;clear A B C hn;go_simp;all_goals go_arith
        ·exact Zd rfl fun a _ _ _ _ _ B A => Z6 rfl B (Zl A 0 rfl)
        ·exact Zd rfl fun a _ _ _ _ _ B A => Z6 rfl B (Zl A 9 rfl)
        ·refine Zd rfl fun a _ _ _ _ _ B A => ?_;have e47 : a (.tmp 47) = _ := Ze A 10 rfl;have e48 : a (.tmp 48) = _ := Ze A 11 rfl;refine Zh ?_ B rfl;clear A B;go_simp;all_goals go_arith
        ·refine Zd rfl fun a _ _ _ _ C B A => ?_;have e49 : a (.tmp 49) = _ := Ze A 12 rfl;have hn := B.2.1 (C.not1 15 (by kernel_rfl));have h0 := (Below.cell hn (Zv q0)).trans q0;have h1 := (Below.cell hn (Zv q1)).trans q1;have h2 := (Below.cell hn (Zv q2)).trans q2;have h3 := (Below.cell hn (Zv q3)).trans q3;have h4 := (Below.cell hn (Zv q4)).trans q4;refine Zh ?_ B rfl;clear A B C hn;go_simp;all_goals go_arith
        ·refine Zd rfl fun a _ _ _ _ _ B A => ?_;have e37 : a (.tmp 37) = _ := Ze A 0 rfl;have e38 : a (.tmp 38) = _ := Ze A 1 rfl;refine Zh ?_ B rfl;clear A B;go_simp;all_goals go_arith
        ·refine Zd rfl fun a w' _ _ _ C B A => ?_;have e51 : a (.tmp 51) = _ := Ze A 14 rfl;have e46 : a (.tmp 46) = _ := Ze A 9 rfl;have hn := B.2.1 C.un;have h0 := (Below.cell hn (Zv q0)).trans q0;have h1 := (Below.cell hn (Zv q1)).trans q1;have h2 := (Below.cell hn (Zv q2)).trans q2;have h3 := (Below.cell hn (Zv q3)).trans q3;have h4 := (Below.cell hn (Zv q4)).trans q4;have hRn := hRow2.grow hn;have f0 := hRn.frozen ((m + 1) * 5);have f1 := hRn.frozen ((m + 1) * 5 + 1);have f2 := hRn.frozen ((m + 1) * 5 + 2);have f3 := hRn.frozen ((m + 1) * 5 + 3);have f4 := hRn.frozen ((m + 1) * 5 + 4);have cs := Zr;obtain ⟨hR', hbut, hkeep⟩ := hRn.put hS0 hml x (Zo2 hbx2 hn);refine Yg (w' := _) ?_ trivial ⟨hbut.grow B.1 hgw, fun h => by simp [upd] at h, fun _ _ => ⟨hR', hkeep _ _ (Zo2 hby2 hn)⟩, fun h => by have h17 := C.not1 17 (by kernel_rfl); simp [upd, h17] at h⟩ trivial;clear A B C hn hRn hR' hbut hkeep;go_simp;all_goals go_arith
        ·refine Zd rfl fun a _ _ _ _ _ B A => ?_;have e39 : a (.tmp 39) = _ := Ze A 2 rfl;have e41 : a (.tmp 41) = _ := Ze A 4 rfl;refine Zh ?_ B rfl;clear A B;go_simp;all_goals go_arith
        ·refine Zd rfl fun a w' _ _ _ C B A => ?_;have e52 : a (.tmp 52) = _ := Ze A 16 rfl;have e50 : a (.tmp 50) = _ := Ze A 13 rfl;have h15 := C.rd 15 (by kernel_rfl);obtain ⟨⟨css3, hRn⟩, hb3⟩ := B.2.2.1 h15 C.un;obtain ⟨g', a3, c3, e3, -, -, h0, h1, h2, h3, h4⟩ := Yv.cells hRn (i := m) (x := x) (by rw [List.getElem?_set_ne (by omega)]; exact HX.out);cases e3;have f0 := hRn.frozen (m * 5);have f1 := hRn.frozen (m * 5 + 1);have f2 := hRn.frozen (m * 5 + 2);have f3 := hRn.frozen (m * 5 + 3);have f4 := hRn.frozen (m * 5 + 4);have cs := Zr;obtain ⟨hR', hbut, hkeep⟩ := hRn.put hS0 (i := m) (by rw [List.length_set]; omega) y hb3;refine Yg (w' := _) ?_ trivial ⟨hbut.grow B.1 hgw, fun h => by simp [upd, h15] at h, fun _ h => by simp [upd] at h, fun _ => hR'⟩ trivial;clear A B C hRn hR' hbut hkeep hb3;go_simp;all_goals go_arith
       ·intro vs w' dn hdn hg ht;obtain ⟨q37, q38, q39, q40, q41, q42, q43, q44, q45, q46, q47, q48, q49, q50, q51, qo15, q52, qo17, -⟩ := ht;have r37 : vs 0 = _ := q37;have r38 : vs 1 = _ := q38;have r39 : vs 2 = _ := q39;have r40 : vs 3 = _ := q40;have r41 : vs 4 = _ := q41;have r42 : vs 5 = _ := q42;have r43 : vs 6 = _ := q43;have r44 : vs 7 = _ := q44;have r45 : vs 8 = _ := q45;have r46 : vs 9 = _ := q46;have r47 : vs 10 = _ := q47;have r48 : vs 11 = _ := q48;have r49 : vs 12 = _ := q49;have r50 : vs 13 = _ := q50;have r51 : vs 14 = _ := q51;replace qo15 : ((fun _ _ => True)) (vs 15) w' := qo15;have r52 : vs 16 = _ := q52;replace qo17 : ((fun _ _ => True)) (vs 17) w' := qo17;clear q37 q38 q39 q40 q41 q42 q43 q44 q45 q46 q47 q48 q49 q50 q51 q52;simp only [Yi, Act.put, List.setIfInBounds_toArray, List.set_cons_zero, List.set_cons_succ, r37, r38, r39, r40, r41, r42, r43, r44, r45, r46, r47, r48, r49, r50, r51, r52];clear r37 r38 r39 r40 r41 r42 r43 r44 r45 r46 r47 r48 r49 r50 r51 r52;have hS3 : Srt S0 B w0 (.slice (some ⟨g, 0, none⟩) xs.length cap) xs (Zen ys m x y) w' := ⟨hg.2.2.2 (hdn 17 (by decide)), HPM.out, hg.1⟩;clear hg hdn hRow2 hbx2 hby2 p0 p1 p2 p3 p4 q0 q1 q2 q3 q4;go_wp2_with fail;go_roundw
        case rel => exact ⟨m, _, by omega, by go_num, HE.out, hS3⟩
        case measure => simp [intOf]
  ·have HE : Hid (∃ ys, Srt S0 B w0 (.slice ao xs.length cap) xs ys wr ∧ ys.Pairwise Ups) := ⟨ys, HS.out, Zvt fun a b x y h1 h2 => HO.out a b x y h1 (by have := HS.out.len; omega)⟩;have d0 : ¬ ((k : Int) < (xs.length : Int)) := by omega
   clear HO HS;go_wp2_with fail;go_end0;exact ⟨rfl, HE.out⟩
end Go.Proofs.YtpdnapbchcdhlacGreat
