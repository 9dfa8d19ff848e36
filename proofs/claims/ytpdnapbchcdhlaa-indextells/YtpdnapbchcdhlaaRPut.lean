import Derived.Test.YtpdnapbchcdhlaaRGet
set_option maxHeartbeats 8000000
namespace Go.Proofs.Ytpdnapbchcdhlaa
set_option maxRecDepth 100000
open Go.RowKit
open Plain Reg
variable {S : Nat → Prop} {c rc zc : Array Value} {dn : Nat → Bool} {g i : Nat} {vl : Value} {w w' : World} {ws : List Wr}
theorem K4 (w : World) : Calls Try.prog 76 #[] w fun e w' => e = .returned (.agg #[.int .i64 1, .int .i64 0, .int .i64 0, .slice none 0 0]) ∧ Zm w w' := by
 go_enter Try.func76, Try.ntmps76;go_wp2;exact bodyPost_ret (v := .agg #[.int .i64 1, .int .i64 0, .int .i64 0, .slice none 0 0]) (by simp [results, Try.results76, go_sem]) rfl ⟨rfl, Zh _ _⟩
def Zdm (w : World) (g i : Nat) (c rc zc : Array Value) (S : Nat → Prop) (vl : Value) (ws : List Wr) (dn : Nat → Bool) (w' : World) : Prop :=
 Zm w w' ∧ w'.heap[g + 1]? = some (.cells rc 32 (0, 0)) ∧ w'.heap[g + 1 + 1]? = some (.cells zc 46 (0, 0)) ∧ Qr S w' vl ws ∧ (dn i = false → w'.heap[g]? = some (.cells c 46 (0, 0)))
theorem Zdm.grow {w'' : World} (h : Zdm w g i c rc zc S vl ws dn w') (hg : Zm w' w'') : Zdm w g i c rc zc S vl ws dn w'' :=
 ⟨h.1.trans hg, (hg.block _ (Zg h.2.1)).trans h.2.1, (hg.block _ (Zg h.2.2.1)).trans h.2.2.1, h.2.2.2.1.grow hg, fun hd => (hg.block _ (Zg (h.2.2.2.2 hd))).trans (h.2.2.2.2 hd)⟩
theorem Zdm.size {B : Nat} (hB : B ≤ g + 1 + 1 + 1) (h : Zdm w g i c rc zc S vl ws dn w') : B ≤ w'.heap.size := by
 have := Zg h.2.2.1; omega
end Go.Proofs.Ytpdnapbchcdhlaa
namespace Go.Proofs.Ytpdnapbchcdhlaa
set_option maxRecDepth 100000
open Plain
variable {α : Type}
def Dk.keepTo (d : Dk) (on : Nat → Bool) : Nat → List (List UInt8)
 | 0 => d.blocks
 | k + 1 => if on k = true then (d.keepTo on k).set (d.late.getD k (0, [])).1.toNat (d.late.getD k (0, [])).2 else d.keepTo on k
def Zj6 (bits : Int) (k : Nat) : Bool := decide (k < 60) && ((bits % 18446744073709551616).toNat / 2 ^ k % 2 == 1)
def Dk.keep (d : Dk) (bits : Int) : Dk := ⟨d.keepTo (Zj6 bits) d.late.length, []⟩
def Zg7 (b : List UInt8) (n : Int) (y : Int) : List UInt8 := if 0 ≤ n ∧ n < (b.length : Int) then b.set n.toNat (b.getD n.toNat 0 ^^^ lo y) else b
theorem Dk.right_len {d : Dk} (h : d.right = true) : d.blocks.length = 12 := by
 simp only [Dk.right, Bool.and_eq_true, beq_iff_eq] at h; exact h.1.1.1
theorem Dk.right_few {d : Dk} (h : d.right = true) : d.late.length ≤ 40 := by
 simp only [Dk.right, Bool.and_eq_true, decide_eq_true_eq] at h; exact h.1.1.2
theorem Dk.right_block {d : Dk} (h : d.right = true) (i : Nat) (hi : i < d.blocks.length) : d.blocks[i].length = 16 := by
 simp only [Dk.right, Bool.and_eq_true, List.all_eq_true, beq_iff_eq] at h; exact h.1.2 _ (List.getElem_mem hi)
theorem Dk.right_late {d : Dk} (h : d.right = true) (i : Nat) (hi : i < d.late.length) : 0 ≤ d.late[i].1 ∧ d.late[i].1 < (d.blocks.length : Int) ∧ d.late[i].2.length = 16 := by
 simp only [Dk.right, Bool.and_eq_true, List.all_eq_true] at h;have := h.2 _ (List.getElem_mem hi);simp only [Vn, Bool.and_eq_true, decide_eq_true_eq, beq_iff_eq] at this;exact ⟨this.1.1, this.1.2, this.2⟩
theorem Zff (l : List α) (i : Nat) (x : α) (h : i < l.length) : l.getD i x = l[i] := by
 rw [List.getD_eq_getElem?_getD, List.getElem?_eq_getElem h]; rfl
theorem Q3 (l : List α) (i j : Nat) (y x : α) (h : i < l.length) : (l.set j y).getD i x = if j = i then y else l.getD i x := by
 rw [List.getD_eq_getElem?_getD, List.getD_eq_getElem?_getD, List.getElem?_set];by_cases hj : j = i
 ·subst hj; simp [h]
 ·simp [hj]
theorem Dk.keepTo_length (d : Dk) (on : Nat → Bool) : ∀ k, (d.keepTo on k).length = d.blocks.length
 | 0 => rfl
 | k + 1 => by
  show (if on k = true then _ else _ : List (List UInt8)).length = _;split
  ·rw [List.length_set]; exact keepTo_length d on k
  ·exact keepTo_length d on k
end Go.Proofs.Ytpdnapbchcdhlaa
namespace Go.Proofs.Ytpdnapbchcdhlaa
set_option maxRecDepth 100000
open Go.RowKit
open Plain Reg
variable {B g : Nat} {S0 : Nat → Prop} {bs : List (List UInt8)} {l : List UInt8} {lv v : Value} {w w' : World}
theorem Z4.keep {S : Nat → Prop} (h : Z4 S w v l) (hk : ∀ b, S b → w'.heap[b]? = w.heap[b]?) : Z4 S w' v l := by
 rcases h with h | ⟨b, off, cap, hS, rfl, h1, hc⟩
 ·exact .inl h
 ·refine .inr ⟨b, off, cap, hS, rfl, h1, fun i hi => ?_⟩;rw [← hc i hi];simp only [World.cell?, hk b hS]
def InS (S0 : Nat → Prop) (B : Nat) (w : World) (b : Nat) : Prop := S0 b ∨ (B ≤ b ∧ ∃ c f, w.heap[b]? = some (.cells c 5 f))
theorem InS.grow (hg : Zm w w') (b : Nat) (h : InS S0 B w b) : InS S0 B w' b :=
 Xj h (fun x => x) fun ⟨h1, c, f, h2⟩ => ⟨h1, c, f, (hg.block _ (Zg h2)).trans h2⟩
theorem InS.upon (b : Nat) (h : InS S0 B w b) : Qg S0 B b := Xj h (fun x => x) fun h => h.1
theorem Zh3 {base : Nat} (S0 : Nat → Prop) (hb : B ≤ base) (h : w.ownsRow base 5 1 v l.length (l.map bv)) : Z4 (InS S0 B w) w v l := by
 rcases h.2 with ⟨rfl, h0⟩ | ⟨q, cap, cur, rfl, hq, hh, h1, h2, h3, h4⟩
 ·exact .inl ⟨none, 0, rfl, List.eq_nil_of_length_eq_zero h0, fun _ => rfl⟩
 ·refine .inr ⟨q, 0, cap, .inr ⟨by omega, _, _, hh⟩, rfl, h1, fun i hi => ?_⟩;have := h.cellAt i (by omega);rw [Nat.zero_add, this];simp [hi, bv]
def Za5 (S0 : Nat → Prop) (B g : Nat) (lv : Value) (bs : List (List UInt8)) (w : World) : Prop :=
 ∃ v us, w.heap[g]? = some (.cells #[v, lv] 46 (0, 0)) ∧ us.length = bs.length ∧ (∀ i (hi : i < bs.length), ∃ u, us[i]? = some u ∧ Z4 (InS S0 B w) w u bs[i]) ∧ w.ownsRow B 22 1 v bs.length us
theorem Za5.grow (h : Za5 S0 B g lv bs w) (hg : Zm w w') : Za5 S0 B g lv bs w' := by
 obtain ⟨v, us, h3, h4, h5, h6⟩ := h;exact ⟨v, us, (hg.block _ (Zg h3)).trans h3, h4, fun i hi => (h5 i hi).imp fun u hu => ⟨hu.1, (hu.2.grow hg).mono (InS.grow hg)⟩, Z9 h6 hg⟩
theorem Zd9 {us : List Value} (h5 : ∀ i (hi : i < bs.length), ∃ u, us[i]? = some u ∧ Z4 (InS S0 B w) w u bs[i]) (h6 : w.ownsRow B 22 1 v bs.length us) : Xb (Qg S0 B) w v bs := by
 rcases h6.2 with ⟨rfl, h0⟩ | ⟨q, cap, cur, rfl, hb, hh, k1, k2, k3, k4⟩
 ·exact .inl ⟨none, 0, rfl, List.eq_nil_of_length_eq_zero h0, fun _ => rfl⟩
 ·refine .inr ⟨q, 0, cap, .inr hb, rfl, k1, fun i hi => ?_⟩;have c0 := h6.cellAt i (by omega);obtain ⟨u, hu1, hu2⟩ := h5 i hi;rw [hu1] at c0;exact ⟨u, by rw [Nat.zero_add]; exact c0, hu2.mono InS.upon⟩
theorem Za5.blocks (h : Za5 S0 B g lv bs w) : ∃ v, w.heap[g]? = some (.cells #[v, lv] 46 (0, 0)) ∧ Xb (Qg S0 B) w v bs := by
 obtain ⟨v, us, h3, h4, h5, h6⟩ := h;exact ⟨v, h3, Zd9 h5 h6⟩
end Go.Proofs.Ytpdnapbchcdhlaa
