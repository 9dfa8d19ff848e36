/-
  What the program's Do makes of records.
  Condition: they lie in memory, right ones, at most forty; the deed is right.
-/
import Derived.Test.YtgaecpdokgklpabMdlD
namespace Go.Proofs.Ytgaecpdokgklpab
set_option maxRecDepth 100000
open Go.RowKit Go.Deep
open Go.Proofs.Ytgaecpdokgklpab.Plain Go.Proofs.Ytgaecpdokgklpab.Reg

theorem OutR.lessR {B B' : Nat} {v : Value} {xs : List Rec} {css : List (List Value)} {w : World} (h : OutR recShape NoR B v xs css w) (hb : B' ≤ B) : OutR recShape NoR B' v xs css w :=
 ⟨h.len, fun i hi => (h.each i hi).imp fun _ x => ⟨x.1, recShape.mono x.2 fun _ k => or_map k (fun y => y) fun y => ⟨Nat.le_trans hb y.1, y.2⟩⟩, own_mono h.row hb⟩
theorem OutR.recs {B : Nat} {v : Value} {xs : List Rec} {css : List (List Value)} {w : World} (S : Nat → Prop) (h : OutR recShape NoR B v xs css w) : RecsS (Upon S B) w v xs := h.slice.mono fun _ h => h.elim (fun x => x.elim) (fun x => .inr x)

/-! ### purge -/

theorem enters_purge1 (args : Array Value) (w : World) : (callFunc 86 args).run Try.prog w = .ok (.enter 86 args) w := by
 simp [callFunc, Try.func86, Try.f86, mark]
set_option maxHeartbeats 1000000 in
theorem purge1_any (x : Rec) (d : Dd) (a : Option Addr) (c g h : Nat) (w : World) (hp : w.heap[g]? = some (.cells #[.int .i64 d.key] 3 (0, 0))) (hq : w.heap[h]? = some (.cells #[.int .i64 d.num] 3 (0, 0))) :
  Calls Try.prog 86 #[.agg #[.int .i64 x.kind, .int .i64 x.key, .int .i64 x.ver, .slice a x.data.length c], .pointer (some ⟨g, 0, none⟩), .pointer (some ⟨h, 0, none⟩)] w fun e w' => e = .returned (.bool (foundB d x)) ∧ Grow w w' := by
 have g0 := grow_alloc w (.cells #[.int .i64 x.kind, .int .i64 x.key, .int .i64 x.ver, .slice a x.data.length c] 33)
 have y0 := box_cell ((g0.block _ (heap_lt hp)).trans hp) 0 _ rfl
 have y1 := box_cell ((g0.block _ (heap_lt hq)).trans hq) 0 _ rfl
 have HB : Hid (foundB d x = decide (x.key = d.key ∧ x.ver = d.num)) := rfl
 rw [HB.out]
 clear HB
 by_cases hk : x.key = d.key
 ·have d1 : (x.key == d.key) = true := by simp [hk]
  by_cases hv : x.ver = d.num
  ·have d2 : (x.ver == d.num) = true := by simp [hv]
   have HD : Hid (decide (x.key = d.key ∧ x.ver = d.num) = true) := decide_eq_true ⟨hk, hv⟩
   rw [HD.out]
   clear hk hv HD
   go_enter Try.func86, Try.ntmps86
   go_wp2_with fail
   go_ret
   exact ⟨rfl, g0⟩
  ·have d2 : (x.ver == d.num) = false := by simp [hv]
   have HD : Hid (decide (x.key = d.key ∧ x.ver = d.num) = false) := decide_eq_false fun h => hv h.2
   rw [HD.out]
   clear hk hv HD
   go_enter Try.func86, Try.ntmps86
   go_wp2_with fail
   go_ret
   exact ⟨rfl, g0⟩
 ·have d1 : (x.key == d.key) = false := by simp [hk]
  have HD : Hid (decide (x.key = d.key ∧ x.ver = d.num) = false) := decide_eq_false fun h => hk h.1
  rw [HD.out]
  clear hk HD
  go_enter Try.func86, Try.ntmps86
  go_wp2_with fail
  go_ret
  exact ⟨rfl, g0⟩
/-- o: own's call; s: Delete's. -/
def GoneJ (W : World) (B o s : Nat) (xs zs : List Rec) (dn : Nat → Bool) (f : Nat → Value) (w : World) : Prop :=
 Grow W w ∧ (dn o = true → dn s = false → ∃ css, OutR recShape NoR B (f o) xs css w) ∧ (dn s = true → ∃ css, OutR recShape NoR B (f s) zs css w)
theorem GoneJ.start (W : World) (B o s : Nat) (xs zs : List Rec) (f : Nat → Value) : GoneJ W B o s xs zs (fun _ => false) f W.drew := by
 refine ⟨(Grow.refl _).drew, ?_, ?_⟩ <;> (intro h; cases h)
theorem GoneJ.own {W : World} {B o s : Nat} {xs zs : List Rec} {dn : Nat → Bool} {f : Nat → Value} {w w2 : World} {v : Value} {css : List (List Value)} (h : GoneJ W B o s xs zs dn f w) (n : s ≠ o) (hs : dn s = false) (hg : Grow w w2) (hR : OutR recShape NoR B v xs css w2) : GoneJ W B o s xs zs (upd dn o) (setv f o v) w2 :=
 ⟨h.1.trans hg, fun _ _ => ⟨css, by rw [setv_yes]; exact hR⟩, fun h1 => by rw [upd_no n, hs] at h1; cases h1⟩
theorem GoneJ.gone {W : World} {B o s : Nat} {xs zs : List Rec} {dn : Nat → Bool} {f : Nat → Value} {w w2 : World} {v : Value} {css : List (List Value)} (h : GoneJ W B o s xs zs dn f w) (hB : W.heap.size ≤ B) (hg : ∀ w0, Grow w0 w → w0.heap.size ≤ B → Grow w0 w2) (hR : OutR recShape NoR B v zs css w2) : GoneJ W B o s xs zs (upd dn s) (setv f s v) w2 :=
 ⟨hg W h.1 hB, (fun _ h1 => by rw [upd_yes] at h1; cases h1), fun _ => ⟨css, by rw [setv_yes]; exact hR⟩⟩

set_option maxHeartbeats 2000000 in
theorem mpurge_any (S : Nat → Prop) (l : List Rec) (d : Dd) (v : Value) (w : World) (hl : RecsS S w v l) (hn : l.length ≤ 1000) (h8 : ∀ x ∈ l, x.data.length ≤ 8) (hk : d.kind = 3) :
  Calls Try.prog 63 #[v, .int .i64 d.key, .int .i64 d.num] w fun r w' => ∃ v', r = .returned (.tuple #[v', .int .i64 (doR l d).n, .int .i64 (doR l d).e]) ∧ RecsS (Upon S w.heap.size) w' v' (doR l d).l ∧ Grow w w' := by
 obtain ⟨ao, cp, rfl⟩ := hl.form
 obtain ⟨R, hR⟩ : ∃ R, R = doR l d := ⟨_, rfl⟩
 rw [← hR]
 have HF : Hid (∀ i, l.findIdx? (foundB d) = some i → R = ⟨l.take i ++ l.drop (i + 1), d.num, 0⟩) := fun i h => by rw [hR]; unfold doR; rw [if_pos hk, h]
 have HN : Hid (l.findIdx? (foundB d) = none → R = ⟨l, 0, 6⟩) := fun h => by rw [hR]; unfold doR; rw [if_pos hk, h]
 clear hR hk
 have g0 := grow_alloc2 w (.cells #[.int .i64 d.key] 3) (.cells #[.int .i64 d.num] 3)
 have hp0 := heap_new w #[.int .i64 d.key] 3
 have hq0 := heap_new (w.alloc (.cells #[.int .i64 d.key] 3)) #[.int .i64 d.num] 3
 have hp1 := ((grow_alloc (w.alloc (.cells #[.int .i64 d.key] 3)) (.cells #[.int .i64 d.num] 3)).block _ (heap_lt hp0)).trans hp0
 rw [World.size_alloc] at hq0
 clear hp0
 go_enter Try.func63, Try.ntmps63
 go_wp2_with fail
 refine (indexR_any 86 #[.pointer (some ⟨w.heap.size, 0, none⟩), .pointer (some ⟨w.heap.size + 1, 0, none⟩)] (foundB d) S l _ _ enters_purge1 (hl.grow g0) (by omega) (fun x a c w' _ hg _ => purge1_any x d a c _ _ w' ((hg.block _ (heap_lt hp1)).trans hp1) ((hg.block _ (heap_lt hq0)).trans hq0))).mono ?_
 rintro e w1 ⟨rfl, g1⟩
 have gw1 := g0.trans g1
 have hq1 := (g1.block _ (heap_lt hq0)).trans hq0
 clear g0 g1 hp1 hq0
 have HI : Hid (∀ i, l.findIdx? (foundB d) = some i → i < l.length) := fun i h => (List.findIdx?_eq_some_iff_getElem.1 h).1
 generalize l.findIdx? (foundB d) = I at *
 cases I with
 | none =>
  obtain rfl : R = ⟨l, 0, 6⟩ := HN.out rfl
  simp only [idxI]
  go_wp2_with fail
  refine (mown_any S l _ _ (hl.grow gw1) hn h8).mono ?_
  rintro e w2 ⟨v2, css, rfl, hO, g2⟩
  have gE := gw1.trans g2
  have hE := (hO.lessR gw1.size).recs S
  clear hO g2 gw1 hq1 hl
  obtain ⟨a2, c2, rfl⟩ := hE.form
  go_wp2_with fail
  exact bodyPost_ret (v := .tuple #[.slice a2 l.length c2, .int .i64 0, .int .i64 6]) (by simp [results, Try.results63, go_sem]) rfl ⟨_, rfl, hE, gE⟩
 | some i =>
  have hi := HI.out i rfl
  simp only [idxI]
  obtain ⟨j, hj⟩ : ∃ j, j = i + 1 := ⟨_, rfl⟩
  obtain rfl : R = ⟨l.take i ++ l.drop j, d.num, 0⟩ := by rw [hj]; exact HF.out i rfl
  have hij : i < j := by omega
  have hji : j < i + 2 := by omega
  have HJ : Hid ((i : Int) + 1 = (j : Int)) := by show _ = _; omega
  clear hj
  go_wp2_with fail
  obtain ⟨W, rfl⟩ : ∃ W : World, W = w1 := ⟨_, rfl⟩
  have hlW := hl.grow gw1
  refine wp_region_x [pl (ex (.slice ao l.length cp)), pl ((fun _ _ => True)), pl (ex (.int .i64 (i : Int))), pl (ex (.int .i64 (i : Int))), pl (ex (.int .i64 (j : Int))), pl ((fun _ _ => True)), pl (ex (.int .i64 d.num)), pl1 5 ((fun v u _ => v = u)), pl (ex (.int .i64 d.num)), pl (ex (.int .i64 0))] [none, none, none, none, none, some ((fun _ _ => True))] (GoneJ W W.heap.size 1 5 l (l.take i ++ l.drop j)) (by kernel_rfl) (by kernel_rfl) ⟨st_pl (st_ex _), st_pl ((fun _ _ _ _ _ => trivial)), st_pl (st_ex _), st_pl (st_ex _), st_pl (st_ex _), st_pl ((fun _ _ _ _ _ => trivial)), st_pl (st_ex _), (fun _ _ _ _ _ h => h), st_pl (st_ex _), st_pl (st_ex _), trivial⟩ ⟨⟨(fun _ => trivial), ⟨.inr (fun _ _ _ _ _ h => h), .inr ((fun _ _ _ _ _ _ => trivial)), .inr (fun _ _ _ _ _ h => h), .inr (fun _ _ _ _ _ h => h), .inr (fun _ _ _ _ _ h => h), .inl (by kernel_rfl), .inr (fun _ _ _ _ _ h => h), .inl (by kernel_rfl), .inl (by kernel_rfl), .inl (by kernel_rfl), trivial⟩⟩, trivial⟩ ⟨(fun h => by cases h), (fun h => by cases h), (fun h => by cases h), (fun h => by cases h), (fun h => by cases h), (fun h => by cases h), (fun h => by cases h), (fun h => by cases h), (fun h => by cases h), (fun h => by cases h), trivial⟩ (GoneJ.start _ _ _ _ _ _) ?_ ?_
  ·refine ⟨?_, ?_, ?_, ?_, ?_, ?_, ?_, ?_, ?_, ?_, trivial⟩
   ·refine needx_plain rfl (fun a w' dn hr hg hin => ?_)
    have e : a.eval (.tmp 0) = .slice ao l.length cp := insw_ext hin 0 (by kernel_rfl)
    exact uponx_move rfl hg e
   ·refine needx_plain rfl (fun a w' dn hr hg hin => ?_)
    have e17 : a.eval (.tmp 17) = _ := insw_on hin 0 (by kernel_rfl)
    refine uponw_call (f := 62) (args := #[.slice ao l.length cp]) ?_ ((mown_any S l _ w' (hlW.grow hg.1) hn h8).mono ?_)
    ·clear hin hg hr
     obtain ⟨ek, ef⟩ := evs a
     generalize a.eval = ev at *
     go_simp
     all_goals first | omega | (intro _; omega) | go_arith
    ·rintro e w2 ⟨v2, css, rfl, hO, g2⟩
     exact ⟨_, rfl, g2, trivial, GoneJ.own hg (by decide) (hr.not1 5 (by kernel_rfl)) g2 (hO.lessR hg.1.size), trivial⟩
   ·refine needx_plain rfl (fun a w' dn hr hg hin => ?_)
    have e : a.eval (.tmp 9) = .int .i64 (i : Int) := insw_ext hin 9 (by kernel_rfl)
    exact uponx_move rfl hg e
   ·refine needx_plain rfl (fun a w' dn hr hg hin => ?_)
    have e : a.eval (.tmp 9) = .int .i64 (i : Int) := insw_ext hin 9 (by kernel_rfl)
    exact uponx_move rfl hg e
   ·refine needx_plain rfl (fun a w' dn hr hg hin => ?_)
    have e20 : a.eval (.tmp 20) = _ := insw_on hin 3 (by kernel_rfl)
    have hJ := HJ.out
    refine uponx_val ?_ hg rfl
    clear hin hg hr
    rw [← hJ]
    obtain ⟨ek, ef⟩ := evs a
    generalize a.eval = ev at *
    go_simp
    all_goals first | omega | (intro _; omega) | go_arith
   ·refine needx_plain rfl (fun a w' dn hr hg hin => ?_)
    have e18 : ((fun _ _ => True)) (a.eval (.tmp 18)) w' := insw_on hin 1 (by kernel_rfl)
    have e19 : a.eval (.tmp 19) = _ := insw_on hin 2 (by kernel_rfl)
    have e21 : a.eval (.tmp 21) = _ := insw_on hin 4 (by kernel_rfl)
    obtain ⟨css, hO⟩ := hg.2.1 (hr.rd 1 (by kernel_rfl)) hr.un
    replace hO : OutR recShape NoR W.heap.size (a.eval (.tmp 18)) l css w' := hO
    refine uponw_call (f := 87) (args := #[a.eval (.tmp 18), .int .i64 (i : Int), .int .i64 (j : Int)]) ?_ ((delete_any W.heap.size l css _ w' i j hij hji (by omega) hn hO).mono ?_)
    ·clear hin hg hr hO
     obtain ⟨ek, ef⟩ := evs a
     generalize a.eval = ev at *
     go_simp
     all_goals first | omega | (intro _; omega) | go_arith
    ·rintro e w2 ⟨v2, css2, rfl, hO2, g2⟩
     exact ⟨_, rfl, trivial, trivial, GoneJ.gone hg (Nat.le_refl _) g2 hO2, trivial⟩
   ·refine needx_plain rfl (fun a w' dn hr hg hin => ?_)
    have e5 : a.eval (.tmp 5) = .pointer (some ⟨w.heap.size + 1, 0, none⟩) := insw_ext hin 5 (by kernel_rfl)
    have y0 := box_cell ((hg.1.block _ (heap_lt hq1)).trans hq1) 0 _ rfl
    refine uponx_val ?_ hg rfl
    clear hin hg hr
    obtain ⟨ek, ef⟩ := evs a
    generalize a.eval = ev at *
    go_simp
    all_goals first | omega | (intro _; omega) | go_arith
   ·refine needx_plain rfl (fun a w' dn hr hg hin => ?_)
    have e22 : ((fun _ _ => True)) (a.eval (.tmp 22)) w' := insw_on hin 5 (by kernel_rfl)
    exact uponx_assign rfl hg rfl
   ·refine needx_plain rfl (fun a w' dn hr hg hin => ?_)
    have e : a.eval (.tmp 23) = _ := insw_on hin 6 (by kernel_rfl)
    exact uponx_assign rfl hg e
   ·refine needx_plain rfl (fun a w' dn hr hg hin => ?_)
    exact uponx_assign rfl hg rfl
  ·intro vs w' dn hdn hg ht
   obtain ⟨q17, q18, q19, q20, q21, q22, q23, q6, q7, q8, -⟩ := ht
   have r17 : vs 0 = .slice ao l.length cp := q17
   replace q18 : ((fun _ _ => True)) (vs 1) w' := q18
   have r19 : vs 2 = .int .i64 (i : Int) := q19
   have r20 : vs 3 = .int .i64 (i : Int) := q20
   have r21 : vs 4 = .int .i64 (j : Int) := q21
   replace q22 : ((fun _ _ => True)) (vs 5) w' := q22
   have r23 : vs 6 = .int .i64 d.num := q23
   replace q6 : ((fun v u _ => v = u)) (vs 7) (vs 5) w' := q6
   have r7 : vs 8 = .int .i64 d.num := q7
   have r8 : vs 9 = .int .i64 0 := q8
   clear q17 q19 q20 q21 q23 q7 q8
   simp only [putAll, Act.put, List.setIfInBounds_toArray, List.set_cons_zero, List.set_cons_succ, Nat.reduceAdd, r17, r19, r20, r21, r23, r7, r8]
   clear r17 r19 r20 r21 r23 r7 r8
   obtain ⟨css, hO⟩ := hg.2.2 (hdn 5 (by decide))
   have e7 : vs 7 = vs 5 := q6
   rw [← e7] at hO
   have hE := (hO.lessR gw1.size).recs S
   have gE := gw1.trans hg.1
   have HL : Hid _ := hE
   clear hO hg hdn q6 e7 q18 q22 hlW hq1 hl hE
   generalize vs 7 = v7 at *
   go_wp2_with fail
   exact bodyPost_ret (v := .tuple #[v7, .int .i64 d.num, .int .i64 0]) (by simp [results, Try.results63, go_sem]) rfl ⟨_, rfl, HL.out, gE⟩

/-! ### add -/

/-- One record that is built. -/
def BuiltP (B : Nat) (r : Rec) (v : Value) (w : World) : Prop := ∃ a c g, v = .slice (some ⟨g, 0, none⟩) 1 1 ∧ w.heap[g]? = some (.cells #[.int .i64 r.kind, .int .i64 r.key, .int .i64 r.ver, .slice a r.data.length c] 33 (0, 0)) ∧ w.ownsRow B 5 1 (.slice a r.data.length c) r.data.length (r.data.map bv)
/-- o: own's call; m: Made's; b: what is built of it; s: the append. -/
def AddJ (W : World) (B o m b s : Nat) (xs : List Rec) (r : Rec) (dn : Nat → Bool) (f : Nat → Value) (w : World) : Prop :=
 Grow W w ∧ (dn o = true → dn s = false → ∃ css, OutR recShape NoR B (f o) xs css w) ∧ (dn m = true → dn s = false → MadeP B r (f m) w) ∧ (dn b = true → dn s = false → BuiltP B r (f b) w) ∧ (dn s = true → ∃ css, OutR recShape NoR B (f s) (xs ++ [r]) css w)
theorem AddJ.start (W : World) (B o m b s : Nat) (xs : List Rec) (r : Rec) (f : Nat → Value) : AddJ W B o m b s xs r (fun _ => false) f W.drew := by
 refine ⟨(Grow.refl _).drew, ?_, ?_, ?_, ?_⟩ <;> (intro h; cases h)
theorem AddJ.on {W : World} {B o m b s : Nat} {xs : List Rec} {r : Rec} {dn : Nat → Bool} {f : Nat → Value} {w w' : World} (h : AddJ W B o m b s xs r dn f w) (hg : Grow w w') : AddJ W B o m b s xs r dn f w' := by
 refine ⟨h.1.trans hg, fun h1 h2 => ?_, fun h1 h2 => ?_, fun h1 h2 => ?_, fun h1 => ?_⟩
 ·exact (h.2.1 h1 h2).imp fun _ x => x.grow hg
 ·exact (h.2.2.1 h1 h2).grow hg
 ·obtain ⟨a, c, g, k1, k2, k3⟩ := h.2.2.2.1 h1 h2
  exact ⟨a, c, g, k1, (hg.block _ (heap_lt k2)).trans k2, own_grow k3 hg⟩
 ·exact (h.2.2.2.2 h1).imp fun _ x => x.grow hg
theorem AddJ.own {W : World} {B o m b s : Nat} {xs : List Rec} {r : Rec} {dn : Nat → Bool} {f : Nat → Value} {w : World} {v : Value} {css : List (List Value)} (h : AddJ W B o m b s xs r dn f w) (n : m ≠ o ∧ b ≠ o ∧ s ≠ o) (hR : OutR recShape NoR B v xs css w) : AddJ W B o m b s xs r (upd dn o) (setv f o v) w := by
 obtain ⟨n1, n2, n3⟩ := n
 refine ⟨h.1, fun _ _ => ⟨css, by rw [setv_yes]; exact hR⟩, fun h1 h2 => ?_, fun h1 h2 => ?_, fun h1 => ?_⟩
 ·rw [upd_no n1] at h1; rw [upd_no n3] at h2; rw [setv_no n1]; exact h.2.2.1 h1 h2
 ·rw [upd_no n2] at h1; rw [upd_no n3] at h2; rw [setv_no n2]; exact h.2.2.2.1 h1 h2
 ·rw [upd_no n3] at h1; rw [setv_no n3]; exact h.2.2.2.2 h1
theorem AddJ.made {W : World} {B o m b s : Nat} {xs : List Rec} {r : Rec} {dn : Nat → Bool} {f : Nat → Value} {w : World} {v : Value} (h : AddJ W B o m b s xs r dn f w) (n : o ≠ m ∧ b ≠ m ∧ s ≠ m) (hR : MadeP B r v w) : AddJ W B o m b s xs r (upd dn m) (setv f m v) w := by
 obtain ⟨n1, n2, n3⟩ := n
 refine ⟨h.1, fun h1 h2 => ?_, fun _ _ => by rw [setv_yes]; exact hR, fun h1 h2 => ?_, fun h1 => ?_⟩
 ·rw [upd_no n1] at h1; rw [upd_no n3] at h2; rw [setv_no n1]; exact h.2.1 h1 h2
 ·rw [upd_no n2] at h1; rw [upd_no n3] at h2; rw [setv_no n2]; exact h.2.2.2.1 h1 h2
 ·rw [upd_no n3] at h1; rw [setv_no n3]; exact h.2.2.2.2 h1
theorem AddJ.built {W : World} {B o m b s : Nat} {xs : List Rec} {r : Rec} {dn : Nat → Bool} {f : Nat → Value} {w : World} {v : Value} (h : AddJ W B o m b s xs r dn f w) (n : o ≠ b ∧ m ≠ b ∧ s ≠ b) (hR : BuiltP B r v w) : AddJ W B o m b s xs r (upd dn b) (setv f b v) w := by
 obtain ⟨n1, n2, n3⟩ := n
 refine ⟨h.1, fun h1 h2 => ?_, fun h1 h2 => ?_, fun _ _ => by rw [setv_yes]; exact hR, fun h1 => ?_⟩
 ·rw [upd_no n1] at h1; rw [upd_no n3] at h2; rw [setv_no n1]; exact h.2.1 h1 h2
 ·rw [upd_no n2] at h1; rw [upd_no n3] at h2; rw [setv_no n2]; exact h.2.2.1 h1 h2
 ·rw [upd_no n3] at h1; rw [setv_no n3]; exact h.2.2.2.2 h1
theorem AddJ.app {W : World} {B o m b s : Nat} {xs : List Rec} {r : Rec} {dn : Nat → Bool} {f : Nat → Value} {w : World} (h : AddJ W B o m b s xs r dn f w) (_n : o ≠ s) (ho : dn o = true) (hb : dn b = true) (hs : dn s = false) (hB : B = W.heap.size) (hx : xs.length ≤ 1000) :
  ∃ v' w', (Builtin.append_ #[45, 45] 45 #[f o, f b]).run Try.prog w = .ok v' w' ∧ AddJ W B o m b s xs r (upd dn s) (setv f s v') w' := by
 subst hB
 obtain ⟨i0, hif, hz0, hz1, hz2⟩ := info_parts info_rcd
 obtain ⟨css, hR⟩ := h.2.1 ho hs
 obtain ⟨a, c, g, hf, hh, hown0⟩ := h.2.2.2.1 hb hs
 have henc : recShape.enc (InS NoR W.heap.size w) w r [.int .i64 r.kind, .int .i64 r.key, .int .i64 r.ver, .slice a r.data.length c] := ⟨_, rfl, own_in NoR (Nat.le_refl _) hown0⟩
 obtain ⟨v', w', hrun, hown, hgb, -⟩ := run_append_own (P := Try.prog) (w := w) W.heap.size 45 45 33 i0 _ 4 48 Try.underlying45 hif hz0 hz1 hz2 (by decide) (by decide) (f o) xs.length css.flatten hR.row ⟨g, 0, none⟩ 1 1 [.int .i64 r.kind, .int .i64 r.key, .int .i64 r.ver, .slice a r.data.length c] rfl (fun j u hj => by
  have : (⟨g, 0, none⟩ : Addr).add j = ⟨g, j, none⟩ := by
   unfold Addr.add
   split
   ·rename_i h; rw [h]
   ·rw [Nat.zero_add]
  rw [this]
  exact box_cell hh j u (by simpa using hj)) (fun u hu => recShape.one henc u hu) (by unfold maxLen; omega) (by omega) h.1.size
 have hR' : OutR recShape NoR W.heap.size v' (xs ++ [r]) (css ++ [[.int .i64 r.kind, .int .i64 r.key, .int .i64 r.ver, .slice a r.data.length c]]) w' := hR.ext (by decide) (fun _ h => h.elim) rfl (fun i hi => by
  obtain rfl : i = 0 := by simpa using hi
  exact ⟨_, rfl, henc⟩) hgb (by
   have e : [([.int .i64 r.kind, .int .i64 r.key, .int .i64 r.ver, .slice a r.data.length c] : List Value)].flatten = [.int .i64 r.kind, .int .i64 r.key, .int .i64 r.ver, .slice a r.data.length c] := by simp
   rw [e]; exact hown)
 refine ⟨v', w', by rw [hf]; exact hrun, grow_of_grown h.1 hgb (fun k hk => (hR.row.lt k hk).1), fun _ h2 => ?_, fun _ h2 => ?_, fun _ h2 => ?_, fun _ => ⟨_, by rw [setv_yes]; exact hR'⟩⟩
 ·rw [upd_yes] at h2; cases h2
 ·rw [upd_yes] at h2; cases h2
 ·rw [upd_yes] at h2; cases h2
theorem MadeP.less {B B' : Nat} {r : Rec} {v : Value} {w : World} (h : MadeP B r v w) (hb : B' ≤ B) : MadeP B' r v w := by
 obtain ⟨a, c, h1, h2⟩ := h; exact ⟨a, c, h1, own_mono h2 hb⟩

set_option maxHeartbeats 2000000 in
theorem madd_any (S : Nat → Prop) (l : List Rec) (d : Dd) (v : Value) (ad : Option Addr) (c : Nat) (w : World) (hr : rightR l = true) (hw : wrongD d = 0) (hl : RecsS S w v l) (hd : Bytes w (.slice ad d.data.length c) d.data) (hk : d.kind ≠ 3) :
  Calls Try.prog 64 #[v, .agg #[.int .i64 d.kind, .int .i64 d.key, .int .i64 d.num, .slice ad d.data.length c]] w fun r w' => ∃ v', r = .returned (.tuple #[v', .int .i64 (doR l d).n, .int .i64 (doR l d).e]) ∧ RecsS (Upon S w.heap.size) w' v' (doR l d).l ∧ Grow w w' := by
 obtain ⟨hn0, hb0⟩ := rightR_bd hr
 have hn : l.length ≤ 1000 := by omega
 have h8 : ∀ x ∈ l, x.data.length ≤ 8 := fun x h => (hb0 x h).2.2
 obtain ⟨ao, cp, rfl⟩ := hl.form
 obtain ⟨R, hR⟩ : ∃ R, R = doR l d := ⟨_, rfl⟩
 rw [← hR]
 have HR : Hid (R = if 5 < l.length then ⟨l, 0, 9⟩ else if 60000 < nextV l then ⟨l, 0, 4⟩ else ⟨l ++ [madeR d (nextV l)], nextV l, 0⟩) := by show R = _; rw [hR]; unfold doR; rw [if_neg hk]
 clear hR hb0 hn0
 have g0 := grow_alloc w (.cells #[.int .i64 d.kind, .int .i64 d.key, .int .i64 d.num, .slice ad d.data.length c] 47)
 have hD0 := heap_new w #[.int .i64 d.kind, .int .i64 d.key, .int .i64 d.num, .slice ad d.data.length c] 47
 go_enter Try.func64, Try.ntmps64
 go_wp2_with fail
 refine (mnextC S l _ _ hr (hl.grow g0)).mono ?_
 rintro r w1 ⟨rfl, g1⟩
 have gW := g0.trans g1
 have hD := (g1.block _ (heap_lt hD0)).trans hD0
 clear g0 g1 hD0 hr
 generalize nextV l = nx at *
 have hlW := hl.grow gW
 have hdW := bytes_grow hd gW
 clear hl hd
 by_cases h5 : 5 < l.length
 ·have hRR : R = ⟨l, 0, 9⟩ := by rw [HR.out, if_pos h5]
  subst hRR
  clear HR hD
  go_wp2_with fail
  refine (mown_any S l _ _ hlW hn h8).mono ?_
  rintro e w2 ⟨v2, css, rfl, hO, g2⟩
  have gE := gW.trans g2
  have hE := (hO.lessR gW.size).recs S
  clear hO g2 gW hlW
  obtain ⟨a2, c2, rfl⟩ := hE.form
  go_wp2_with fail
  exact bodyPost_ret (v := .tuple #[.slice a2 l.length c2, .int .i64 0, .int .i64 9]) (by simp [results, Try.results64, go_sem]) rfl ⟨_, rfl, hE, gE⟩
 ·by_cases h6 : 60000 < nx
  ·have hRR : R = ⟨l, 0, 4⟩ := by rw [HR.out, if_neg h5, if_pos h6]
   subst hRR
   clear HR hD
   go_wp2_with fail
   refine (mown_any S l _ _ hlW hn h8).mono ?_
   rintro e w2 ⟨v2, css, rfl, hO, g2⟩
   have gE := gW.trans g2
   have hE := (hO.lessR gW.size).recs S
   clear hO g2 gW hlW
   obtain ⟨a2, c2, rfl⟩ := hE.form
   go_wp2_with fail
   exact bodyPost_ret (v := .tuple #[.slice a2 l.length c2, .int .i64 0, .int .i64 4]) (by simp [results, Try.results64, go_sem]) rfl ⟨_, rfl, hE, gE⟩
  ·have hRR : R = ⟨l ++ [madeR d nx], nx, 0⟩ := by rw [HR.out, if_neg h5, if_neg h6]
   subst hRR
   clear HR
   have HW : Hid _ := hw
   have HK : Hid _ := hk
   clear hw hk
   obtain ⟨W, rfl⟩ : ∃ W : World, W = w1 := ⟨_, rfl⟩
   go_wp2_with fail
   refine wp_region_x [pl (ex (.slice ao l.length cp)), pl ((fun _ _ => True)), pl (ex (.agg #[.int .i64 d.kind, .int .i64 d.key, .int .i64 d.num, .slice ad d.data.length c])), pl (ex (.int .i64 nx)), pl ((fun _ _ => True)), pl ((fun _ _ => True)), pl ((fun _ _ => True)), pl (ex (.int .i64 nx)), pl1 6 ((fun v u _ => v = u)), pl (ex (.int .i64 nx)), pl (ex (.int .i64 0))] [none, none, none, none, none, none, some ((fun _ _ => True))] (AddJ W W.heap.size 1 4 5 6 l (madeR d nx)) (by kernel_rfl) (by kernel_rfl) ⟨st_pl (st_ex _), st_pl ((fun _ _ _ _ _ => trivial)), st_pl (st_ex _), st_pl (st_ex _), st_pl ((fun _ _ _ _ _ => trivial)), st_pl ((fun _ _ _ _ _ => trivial)), st_pl ((fun _ _ _ _ _ => trivial)), st_pl (st_ex _), (fun _ _ _ _ _ h => h), st_pl (st_ex _), st_pl (st_ex _), trivial⟩ ⟨⟨(fun _ => trivial), ⟨.inr (fun _ _ _ _ _ h => h), .inr ((fun _ _ _ _ _ _ => trivial)), .inr (fun _ _ _ _ _ h => h), .inr (fun _ _ _ _ _ h => h), .inr ((fun _ _ _ _ _ _ => trivial)), .inr ((fun _ _ _ _ _ _ => trivial)), .inl (by kernel_rfl), .inr (fun _ _ _ _ _ h => h), .inl (by kernel_rfl), .inl (by kernel_rfl), .inl (by kernel_rfl), trivial⟩⟩, trivial⟩ ⟨(fun h => by cases h), (fun h => by cases h), (fun h => by cases h), (fun h => by cases h), (fun h => by cases h), (fun h => by cases h), (fun h => by cases h), (fun h => by cases h), (fun h => by cases h), (fun h => by cases h), (fun h => by cases h), trivial⟩ (AddJ.start _ _ _ _ _ _ _ _) ?_ ?_
   ·refine ⟨?_, ?_, ?_, ?_, ?_, ?_, ?_, ?_, ?_, ?_, ?_, trivial⟩
    ·refine needx_plain rfl (fun a w' dn hr hg hin => ?_)
     have e : a.eval (.tmp 0) = .slice ao l.length cp := insw_ext hin 0 (by kernel_rfl)
     exact uponx_move rfl hg e
    ·refine needx_plain rfl (fun a w' dn hr hg hin => ?_)
     have e21 : a.eval (.tmp 21) = _ := insw_on hin 0 (by kernel_rfl)
     refine uponw_call (f := 62) (args := #[.slice ao l.length cp]) ?_ ((mown_any S l _ w' (hlW.grow hg.1) hn h8).mono ?_)
     ·clear hin hg hr
      obtain ⟨ek, ef⟩ := evs a
      generalize a.eval = ev at *
      go_simp
      all_goals first | omega | (intro _; omega) | go_arith
     ·rintro e w2 ⟨v2, css, rfl, hO, g2⟩
      exact ⟨_, rfl, g2, trivial, AddJ.own (AddJ.on hg g2) (by decide) (hO.lessR hg.1.size), trivial⟩
    ·refine needx_plain rfl (fun a w' dn hr hg hin => ?_)
     have e3 : a.eval (.tmp 3) = .pointer (some ⟨w.heap.size, 0, none⟩) := insw_ext hin 3 (by kernel_rfl)
     have hx := (hg.1.block _ (heap_lt hD)).trans hD
     obtain ⟨z0, z1, z2, z3⟩ := box4 hx rfl rfl rfl rfl
     refine uponx_val ?_ hg rfl
     clear hin hg hr hx
     obtain ⟨ek, ef⟩ := evs a
     generalize a.eval = ev at *
     go_simp
     all_goals first | omega | (intro _; omega) | go_arith
    ·refine needx_plain rfl (fun a w' dn hr hg hin => ?_)
     have e : a.eval (.tmp 7) = .int .i64 nx := insw_ext hin 7 (by kernel_rfl)
     exact uponx_move rfl hg e
    ·refine needx_plain rfl (fun a w' dn hr hg hin => ?_)
     have e23 : a.eval (.tmp 23) = _ := insw_on hin 2 (by kernel_rfl)
     have e24 : a.eval (.tmp 24) = _ := insw_on hin 3 (by kernel_rfl)
     refine uponw_call (f := 29) (args := #[.agg #[.int .i64 d.kind, .int .i64 d.key, .int .i64 d.num, .slice ad d.data.length c], .int .i64 nx]) ?_ ((mmade_any d nx ad c w' HW.out HK.out (bytes_grow hdW hg.1)).mono ?_)
     ·clear hin hg hr
      obtain ⟨ek, ef⟩ := evs a
      generalize a.eval = ev at *
      go_simp
      all_goals first | omega | (intro _; omega) | go_arith
     ·rintro e w2 ⟨v2, rfl, hM, g2⟩
      exact ⟨_, rfl, g2, trivial, AddJ.made (AddJ.on hg g2) (by decide) (hM.less hg.1.size), trivial⟩
    ·refine needx_plain rfl (fun a w' dn hr hg hin => ?_)
     have e25 : ((fun _ _ => True)) (a.eval (.tmp 25)) w' := insw_on hin 4 (by kernel_rfl)
     obtain ⟨a9, c9, h9, ho9⟩ := hg.2.2.1 (hr.rd 4 (by kernel_rfl)) (hr.not1 6 (by kernel_rfl))
     replace h9 : a.eval (.tmp 25) = .agg #[.int .i64 (madeR d nx).kind, .int .i64 (madeR d nx).key, .int .i64 (madeR d nx).ver, .slice a9 (madeR d nx).data.length c9] := h9
     refine uponx_step (v := .slice (some ⟨w'.heap.size, 0, none⟩) 1 1) (w' := w'.alloc (.cells #[.int .i64 (madeR d nx).kind, .int .i64 (madeR d nx).key, .int .i64 (madeR d nx).ver, .slice a9 (madeR d nx).data.length c9] 33)) ?_ (grow_alloc _ _) (AddJ.built (AddJ.on hg (grow_alloc _ _)) (by decide) ⟨a9, c9, _, rfl, heap_new _ _ _, own_grow ho9 (grow_alloc _ _)⟩) trivial
     clear hin hg hr ho9
     obtain ⟨ek, ef⟩ := evs a
     generalize a.eval = ev at *
     go_simp
     all_goals first | omega | (intro _; omega) | go_arith
    ·refine needx_plain rfl (fun a w' dn hr hg hin => ?_)
     have e22 : ((fun _ _ => True)) (a.eval (.tmp 22)) w' := insw_on hin 1 (by kernel_rfl)
     have e26 : ((fun _ _ => True)) (a.eval (.tmp 26)) w' := insw_on hin 5 (by kernel_rfl)
     obtain ⟨v', w2, hrun, hJ⟩ := AddJ.app hg (by decide) (hr.rd 1 (by kernel_rfl)) (hr.rd 5 (by kernel_rfl)) hr.un rfl hn
     exact uponx_step (v := v') (w' := w2) (exec_append (.tmp 22) (.tmp 26) 45 rfl _ _ rfl rfl hrun) trivial hJ trivial
    ·refine needx_plain rfl (fun a w' dn hr hg hin => ?_)
     have e : a.eval (.tmp 7) = .int .i64 nx := insw_ext hin 7 (by kernel_rfl)
     exact uponx_move rfl hg e
    ·refine needx_plain rfl (fun a w' dn hr hg hin => ?_)
     have e27 : ((fun _ _ => True)) (a.eval (.tmp 27)) w' := insw_on hin 6 (by kernel_rfl)
     exact uponx_assign rfl hg rfl
    ·refine needx_plain rfl (fun a w' dn hr hg hin => ?_)
     have e : a.eval (.tmp 28) = _ := insw_on hin 7 (by kernel_rfl)
     exact uponx_assign rfl hg e
    ·refine needx_plain rfl (fun a w' dn hr hg hin => ?_)
     exact uponx_assign rfl hg rfl
   ·intro vs w' dn hdn hg ht
    obtain ⟨q21, q22, q23, q24, q25, q26, q27, q28, q4, q5, q6, -⟩ := ht
    have r21 : vs 0 = .slice ao l.length cp := q21
    replace q22 : ((fun _ _ => True)) (vs 1) w' := q22
    have r23 : vs 2 = .agg #[.int .i64 d.kind, .int .i64 d.key, .int .i64 d.num, .slice ad d.data.length c] := q23
    have r24 : vs 3 = .int .i64 nx := q24
    replace q25 : ((fun _ _ => True)) (vs 4) w' := q25
    replace q26 : ((fun _ _ => True)) (vs 5) w' := q26
    replace q27 : ((fun _ _ => True)) (vs 6) w' := q27
    have r28 : vs 7 = .int .i64 nx := q28
    replace q4 : ((fun v u _ => v = u)) (vs 8) (vs 6) w' := q4
    have r5 : vs 9 = .int .i64 nx := q5
    have r6 : vs 10 = .int .i64 0 := q6
    clear q21 q23 q24 q28 q5 q6
    simp only [putAll, Act.put, List.setIfInBounds_toArray, List.set_cons_zero, List.set_cons_succ, Nat.reduceAdd, r21, r23, r24, r28, r5, r6]
    clear r21 r23 r24 r28 r5 r6
    obtain ⟨css, hO⟩ := hg.2.2.2.2 (hdn 6 (by decide))
    have e8 : vs 8 = vs 6 := q4
    rw [← e8] at hO
    have hE := (hO.lessR gW.size).recs S
    have gE := gW.trans hg.1
    have HL : Hid _ := hE
    clear hO hg hdn q4 e8 q22 q25 q26 q27 hlW hdW hD hE
    generalize vs 8 = v8 at *
    go_wp2_with fail
    exact bodyPost_ret (v := .tuple #[v8, .int .i64 nx, .int .i64 0]) (by simp [results, Try.results64, go_sem]) rfl ⟨_, rfl, HL.out, gE⟩

set_option maxHeartbeats 1000000 in
theorem mdoC : MDoC := by
 intro S l d v a c w hS hr hw hl hd
 obtain ⟨hn0, hb0⟩ := rightR_bd hr
 obtain ⟨ao, cp, rfl⟩ := hl.form
 have g0 := grow_alloc w (.cells #[.int .i64 d.kind, .int .i64 d.key, .int .i64 d.num, .slice a d.data.length c] 47)
 have hD0 := heap_new w #[.int .i64 d.kind, .int .i64 d.key, .int .i64 d.num, .slice a d.data.length c] 47
 have HD8 : Hid _ := (wrongD_bd hw)
 obtain ⟨R, hR⟩ : ∃ R, R = doR l d := ⟨_, rfl⟩
 rw [← hR]
 have HR : Hid _ := hR
 have HU : Hid (∀ b, Upon S (w.heap.size) b → Upon S (w.heap.size) b) := fun _ h => h
 clear hR
 go_enter Try.func27, Try.ntmps27
 have HW : Hid _ := hw
 go_wp2_with fail
 refine (mwrongC d a c _ (by have := HD8.out; omega) (bytes_grow hd.p g0)).mono ?_
 rw [HW.out]
 rintro e w1 ⟨rfl, g1⟩
 have gW := g0.trans g1
 have hD := (g1.block _ (heap_lt hD0)).trans hD0
 obtain ⟨y0, y1, y2, y3⟩ := box4 hD rfl rfl rfl rfl
 clear g0 g1 hD0 hD
 by_cases hk : d.kind = 3
 ·have d3 : (d.kind == 3) = true := by simp [hk]
  have HK : Hid _ := hk
  clear hk
  go_wp2_with fail
  refine (mpurge_any S l d _ w1 (hl.grow gW) (by omega) (fun x h => (hb0 x h).2.2) HK.out).mono ?_
  rw [← HR.out]
  rintro e w2 ⟨v2, rfl, hL, g2⟩
  have gE := gW.trans g2
  have hE : RecsS (Upon S w.heap.size) w2 v2 R.l := hL.mono fun b h => or_map h (fun x => x) (fun x => Nat.le_trans gW.size x)
  clear hL g2 gW y0 y1 y2 y3 hl hd
  go_wp2_with fail
  exact bodyPost_ret (v := .tuple #[v2, .int .i64 R.n, .int .i64 R.e]) (by simp [results, Try.results27, go_sem]) rfl ⟨_, rfl, hE, gE⟩
 ·have d3 : (d.kind == 3) = false := by simp [hk]
  have HK : Hid _ := hk
  clear hk
  go_wp2_with fail
  refine (madd_any S l d _ a c w1 hr HW.out (hl.grow gW) (bytes_grow hd.p gW) HK.out).mono ?_
  rw [← HR.out]
  rintro e w2 ⟨v2, rfl, hL, g2⟩
  have gE := gW.trans g2
  have hE : RecsS (Upon S w.heap.size) w2 v2 R.l := hL.mono fun b h => or_map h (fun x => x) (fun x => Nat.le_trans gW.size x)
  clear hL g2 gW y0 y1 y2 y3 hl hd
  go_wp2_with fail
  exact bodyPost_ret (v := .tuple #[v2, .int .i64 R.n, .int .i64 R.e]) (by simp [results, Try.results27, go_sem]) rfl ⟨_, rfl, hE, gE⟩
end Go.Proofs.Ytgaecpdokgklpab
