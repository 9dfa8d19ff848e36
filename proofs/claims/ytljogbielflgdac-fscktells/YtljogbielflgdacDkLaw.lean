import Derived.Test.YtljogbielflgdacRPut
set_option maxHeartbeats 8000000
namespace Go.Proofs.Ytljogbielflgdac
set_option maxRecDepth 100000
open Plain
def Dk.keepTo (d : Dk) (on : Nat → Bool) : Nat → List (List UInt8)
 | 0 => d.blocks
 | k + 1 => if on k = true then (d.keepTo on k).set (d.late.getD k (0, [])).1.toNat (d.late.getD k (0, [])).2 else d.keepTo on k
def Q5 (bits : Int) (k : Nat) : Bool := decide (k < 60) && ((bits % 18446744073709551616).toNat / 2 ^ k % 2 == 1)
def Dk.keep (d : Dk) (bits : Int) : Dk := ⟨d.keepTo (Q5 bits) d.late.length, []⟩
def Dk.flush (d : Dk) : Dk := ⟨d.keepTo (fun _ => true) d.late.length, []⟩
def Zmm (b : List UInt8) (n : Int) (y : Int) : List UInt8 := if 0 ≤ n ∧ n < (b.length : Int) then b.set n.toNat (b.getD n.toNat 0 ^^^ lo y) else b
def Dk.new : Dk := ⟨(List.range 12).map fun (i : Nat) => blk ⟨1, 0, 0, []⟩ (i : Int), []⟩
theorem Dk.right_len {d : Dk} (h : d.right = true) : d.blocks.length = 12 := by
 simp only [Dk.right, Bool.and_eq_true, beq_iff_eq] at h; exact h.1.1.1
theorem Dk.right_few {d : Dk} (h : d.right = true) : d.late.length ≤ 40 := by
 simp only [Dk.right, Bool.and_eq_true, decide_eq_true_eq] at h; exact h.1.1.2
theorem Dk.right_block {d : Dk} (h : d.right = true) (i : Nat) (hi : i < d.blocks.length) : d.blocks[i].length = 16 := by
 simp only [Dk.right, Bool.and_eq_true, List.all_eq_true, beq_iff_eq] at h; exact h.1.2 _ (List.getElem_mem hi)
theorem Dk.right_late {d : Dk} (h : d.right = true) (i : Nat) (hi : i < d.late.length) : 0 ≤ d.late[i].1 ∧ d.late[i].1 < (d.blocks.length : Int) ∧ d.late[i].2.length = 16 := by
 simp only [Dk.right, Bool.and_eq_true, List.all_eq_true] at h;have := h.2 _ (List.getElem_mem hi);simp only [Jf, Bool.and_eq_true, decide_eq_true_eq, beq_iff_eq] at this;exact ⟨this.1.1, this.1.2, this.2⟩
theorem Vf {α : Type} (l : List α) (i : Nat) (x : α) (h : i < l.length) : l.getD i x = l[i] := by
 rw [List.getD_eq_getElem?_getD, List.getElem?_eq_getElem h]; rfl
theorem Y0 {α : Type} (l : List α) (i j : Nat) (y x : α) (h : i < l.length) : (l.set j y).getD i x = if j = i then y else l.getD i x := by
 rw [List.getD_eq_getElem?_getD, List.getD_eq_getElem?_getD, List.getElem?_set];by_cases hj : j = i
 ·subst hj; simp [h]
 ·simp [hj]
theorem Dk.keepTo_length (d : Dk) (on : Nat → Bool) : ∀ k, (d.keepTo on k).length = d.blocks.length
 | 0 => rfl
 | k + 1 => by
  show (if on k = true then _ else _ : List (List UInt8)).length = _;split
  ·rw [List.length_set]; exact keepTo_length d on k
  ·exact keepTo_length d on k
theorem Dk.keepTo_some (d : Dk) (on : Nat → Bool) (hl : ∀ x ∈ d.late, 0 ≤ x.1) (a : Nat) (ha : a < d.blocks.length) : ∀ k, k ≤ d.late.length →
  (d.keepTo on k).getD a [] = d.blocks.getD a [] ∨ ∃ i, ∃ (hi : i < d.late.length), d.late[i].1 = (a : Int) ∧ d.late[i].2 = (d.keepTo on k).getD a []
 | 0, _ => .inl rfl
 | k + 1, hk => by
  have ih := keepTo_some d on hl a ha k (by omega);show (if on k = true then _ else _ : List (List UInt8)).getD a [] = _ ∨ ∃ i, ∃ (hi : i < d.late.length), d.late[i].1 = (a : Int) ∧ d.late[i].2 = (if on k = true then _ else _ : List (List UInt8)).getD a [];split
  ·rw [Y0 _ _ _ _ _ (by rw [Dk.keepTo_length]; exact ha), Vf d.late k _ (by omega)];by_cases h : d.late[k].1.toNat = a
   ·rw [if_pos h];exact .inr ⟨k, by omega, by have := hl d.late[k] (List.getElem_mem _); omega, rfl⟩
   ·rw [if_neg h]; exact ih
  ·exact ih
theorem Dk.keepTo_last (d : Dk) (hl : ∀ x ∈ d.late, 0 ≤ x.1) (a : Nat) (ha : a < d.blocks.length) : ∀ k, k ≤ d.late.length →
  (d.keepTo (fun _ => true) k).getD a [] = (X9 (d.late.take k) (a : Int)).getD (d.blocks.getD a [])
 | 0, _ => by simp [Dk.keepTo, X9]
 | k + 1, hk => by
  have ih := keepTo_last d hl a ha k (by omega);show ((d.keepTo (fun _ => true) k).set _ _).getD a [] = _;rw [Y0 _ _ _ _ _ (by rw [Dk.keepTo_length]; exact ha), Vf d.late k _ (by omega), Zbc _ _ _ (by omega)];have h0 := hl d.late[k] (List.getElem_mem _);by_cases h : d.late[k].1 = (a : Int)
  ·rw [if_pos (by omega), if_pos h]; rfl
  ·rw [if_neg (by omega), if_neg h]; exact ih
theorem Dk.flush_length (d : Dk) : d.flush.blocks.length = d.blocks.length := d.keepTo_length _ _
theorem Dk.flush_get (d : Dk) (hl : ∀ x ∈ d.late, 0 ≤ x.1) (a : Int) : d.flush.get a = d.get a := by
 unfold Dk.get;rw [Dk.flush_length];by_cases h : a < 0 ∨ (d.blocks.length : Int) ≤ a
 ·rw [if_pos h, if_pos h]
 ·rw [if_neg h, if_neg h];have hk := d.keepTo_last hl a.toNat (by omega) d.late.length (Nat.le_refl _);rw [List.take_length, show ((a.toNat : Nat) : Int) = a from by omega] at hk;show some ((X9 [] a).getD ((d.keepTo (fun _ => true) d.late.length).getD a.toNat [])) = _;rw [hk]; rfl
theorem Dk.flush_map (d : Dk) (hl : ∀ x ∈ d.late, 0 ≤ x.1) : d.flush.blocks = (List.range d.blocks.length).map fun (i : Nat) => (d.get (i : Int)).getD [] := by
 refine List.ext_getElem (by simp [Dk.flush_length]) fun i h1 h2 => ?_;rw [Dk.flush_length] at h1;rw [List.getElem_map, List.getElem_range, ← d.flush_get hl, Dk.get, if_neg (by rw [Dk.flush_length]; omega)];show _ = (X9 [] (i : Int)).getD (d.flush.blocks.getD (i : Int).toNat []);rw [show ((i : Int)).toNat = i from by omega, Vf _ _ _ (by rw [Dk.flush_length]; exact h1)]; rfl
theorem Dk.put_get (d : Dk) (a : Int) (b : List UInt8) (h0 : 0 ≤ a) (h1 : a < (d.blocks.length : Int)) : (d.put a b).get a = some b := by
 unfold Dk.get Dk.put;rw [if_neg (by show ¬ _; simp only; omega)];simp only [Zbd, if_pos]; rfl
theorem Dk.put_other (d : Dk) (a o : Int) (b : List UInt8) (h : o ≠ a) : (d.put a b).get o = d.get o := by
 unfold Dk.get Dk.put;simp only [Zbd, if_neg (fun h' : a = o => h h'.symm)]
end Go.Proofs.Ytljogbielflgdac
namespace Go.Proofs.Ytljogbielflgdac
set_option maxRecDepth 100000
open Go.RowKit
open Plain Reg
theorem Yb.keep {S : Nat → Prop} {w w' : World} {v : Value} {l : List UInt8} (h : Yb S w v l) (hk : ∀ b, S b → w'.heap[b]? = w.heap[b]?) : Yb S w' v l := by
 rcases h with h | ⟨b, off, cap, hS, rfl, h1, hc⟩
 ·exact .inl h
 ·refine .inr ⟨b, off, cap, hS, rfl, h1, fun i hi => ?_⟩;rw [← hc i hi];simp only [World.cell?, hk b hS]
def InS (S0 : Nat → Prop) (B : Nat) (w : World) (b : Nat) : Prop := S0 b ∨ (B ≤ b ∧ ∃ c f, w.heap[b]? = some (.cells c 5 f))
theorem InS.grow {S0 : Nat → Prop} {B : Nat} {w w' : World} (hg : Zt w w') (b : Nat) (h : InS S0 B w b) : InS S0 B w' b :=
 X7 h (fun x => x) fun ⟨h1, c, f, h2⟩ => ⟨h1, c, f, (hg.block _ (Za h2)).trans h2⟩
theorem InS.upon {S0 : Nat → Prop} {B : Nat} {w : World} (b : Nat) (h : InS S0 B w b) : Yf S0 B b := X7 h (fun x => x) fun h => h.1
theorem Zp4 {w : World} {base B : Nat} {v : Value} {l : List UInt8} (S0 : Nat → Prop) (hb : B ≤ base) (h : w.ownsRow base 5 1 v l.length (l.map bv)) : Yb (InS S0 B w) w v l := by
 rcases h.2 with ⟨rfl, h0⟩ | ⟨q, cap, cur, rfl, hq, hh, h1, h2, h3, h4⟩
 ·exact .inl ⟨none, 0, rfl, List.eq_nil_of_length_eq_zero h0, fun _ => rfl⟩
 ·refine .inr ⟨q, 0, cap, .inr ⟨by omega, _, _, hh⟩, rfl, h1, fun i hi => ?_⟩;have := h.cellAt i (by omega);rw [Nat.zero_add, this];simp [hi, bv]
def Zay (S0 : Nat → Prop) (B g : Nat) (lv : Value) (bs : List (List UInt8)) (w : World) : Prop :=
 ∃ v us, w.heap[g]? = some (.cells #[v, lv] 27 (0, 0)) ∧ us.length = bs.length ∧ (∀ i (hi : i < bs.length), ∃ u, us[i]? = some u ∧ Yb (InS S0 B w) w u bs[i]) ∧ w.ownsRow B 52 1 v bs.length us
theorem Zay.grow {S0 : Nat → Prop} {B g : Nat} {lv : Value} {bs : List (List UInt8)} {w w' : World} (h : Zay S0 B g lv bs w) (hg : Zt w w') : Zay S0 B g lv bs w' := by
 obtain ⟨v, us, h3, h4, h5, h6⟩ := h;exact ⟨v, us, (hg.block _ (Za h3)).trans h3, h4, fun i hi => (h5 i hi).imp fun u hu => ⟨hu.1, (hu.2.grow hg).mono (InS.grow hg)⟩, Ya h6 hg⟩
theorem Zay.start {S0 : Nat → Prop} {B g : Nat} {lv : Value} {w : World} (h : w.heap[g]? = some (.cells #[.slice none 0 0, lv] 27 (0, 0))) : Zay S0 B g lv [] w :=
 ⟨.slice none 0 0, [], h, rfl, fun i hi => by simp at hi, rfl, .inl ⟨rfl, rfl⟩⟩
theorem Zi5 {S0 : Nat → Prop} {B : Nat} {v : Value} {us : List Value} {bs : List (List UInt8)} {w : World} (h5 : ∀ i (hi : i < bs.length), ∃ u, us[i]? = some u ∧ Yb (InS S0 B w) w u bs[i]) (h6 : w.ownsRow B 52 1 v bs.length us) : Yy (Yf S0 B) w v bs := by
 rcases h6.2 with ⟨rfl, h0⟩ | ⟨q, cap, cur, rfl, hb, hh, k1, k2, k3, k4⟩
 ·exact .inl ⟨none, 0, rfl, List.eq_nil_of_length_eq_zero h0, fun _ => rfl⟩
 ·refine .inr ⟨q, 0, cap, .inr hb, rfl, k1, fun i hi => ?_⟩;have c0 := h6.cellAt i (by omega);obtain ⟨u, hu1, hu2⟩ := h5 i hi;rw [hu1] at c0;exact ⟨u, by rw [Nat.zero_add]; exact c0, hu2.mono InS.upon⟩
theorem Zay.blocks {S0 : Nat → Prop} {B g : Nat} {lv : Value} {bs : List (List UInt8)} {w : World} (h : Zay S0 B g lv bs w) : ∃ v, w.heap[g]? = some (.cells #[v, lv] 27 (0, 0)) ∧ Yy (Yf S0 B) w v bs := by
 obtain ⟨v, us, h3, h4, h5, h6⟩ := h;exact ⟨v, h3, Zi5 h5 h6⟩
theorem Jl : (Try.prog.info? 52).map (fun i => (i.zero, i.size, i.bytes)) = some (some (.slice none 0 0), 1, 24) := by kernel_rfl
theorem Znj (w : World) (x : Value) (e : TypeId) (j : Nat) (u : Value) (h : [x][j]? = some u) : (w.alloc (.cells #[x] e)).cell? ((⟨w.heap.size, 0, none⟩ : Addr).add j) = some u := by
 match j, h with
 | 0, h => simp at h; subst h; simp [Addr.add]
 | j + 1, h => simp at h
theorem Zf3 {B n : Nat} {e T : TypeId} {v : Value} {us : List Value} {w : World} {b : Nat} {c f} (h : w.ownsRow B e 1 v n us) (hne : e ≠ T) (hb : w.heap[b]? = some (.cells c T f)) : some b ≠ v.ownBlock := by
 rcases h.2 with ⟨rfl, _⟩ | ⟨q, cap, cur, rfl, _, hq, _⟩
 ·simp [Value.ownBlock]
 ·intro e1;simp [Value.ownBlock] at e1;subst e1;rw [hb] at hq; cases hq; exact hne rfl
theorem Zb7 {w : World} {base g n i : Nat} {e T : TypeId} {c f} {v x : Value} {xs : List Value} (h : w.ownsRow base e 1 v n xs) (hg : w.heap[g]? = some (.cells c T f)) (hT : e ≠ T) : (w.setCell ⟨g, i, none⟩ x).ownsRow base e 1 v n xs := by
 refine ⟨h.1, X7 h.2 (fun x => x) fun ⟨q, cap, cur, h1, h2, h3, r⟩ => ⟨q, cap, cur, h1, h2, ?_, r⟩⟩;rw [Below.heap_setCell _ _ _ _ (by rintro rfl; rw [hg] at h3; cases h3; exact hT rfl)];exact h3
theorem Zll {B n : Nat} {v : Value} {us : List Value} {w w3 : World} {o : Obj} (hle : B ≤ w.heap.size) (hown : w.ownsRow B 52 1 v n us) (hg : (w.alloc o).grownBy w3 v.ownBlock) : Below B w w3 :=
 Below.grown (Below.alloc (Below.refl _ _) hle o) hg (by simp; omega) (fun k hk => (hown.lt k hk).1)
theorem Zkv {B n b : Nat} {v : Value} {us : List Value} {T : TypeId} {c f} {w w3 : World} {o : Obj} (hown : w.ownsRow B 52 1 v n us) (hT : 52 ≠ T) (hb : w.heap[b]? = some (.cells c T f)) (hg : (w.alloc o).grownBy w3 v.ownBlock) : w3.heap[b]? = some (.cells c T f) :=
 (hg.block _ (by have := Za hb; simp; omega) (Zf3 hown hT hb)).trans (((Zd w o).block _ (Za hb)).trans hb)
theorem Zay.step {S0 : Nat → Prop} {B g : Nat} {lv v v' u : Value} {us : List Value} {bs : List (List UInt8)} {b : List UInt8} {w w3 : World} {o : Obj} (h3 : w.heap[g]? = some (.cells #[v, lv] 27 (0, 0))) (h4 : us.length = bs.length)
  (h5 : ∀ i (hi : i < bs.length), ∃ u, us[i]? = some u ∧ Yb (InS S0 B w) w u bs[i]) (h6 : w.ownsRow B 52 1 v bs.length us) (hS0 : ∀ b, S0 b → b < B ∧ b ≠ g) (hle : B ≤ w.heap.size) (hu : Yb (InS S0 B w) w u b)
  (hg : (w.alloc o).grownBy w3 v.ownBlock) (hown : w3.ownsRow B 52 1 v' (bs.length + 1) (us ++ [u])) : Zay S0 B g lv (bs ++ [b]) (w3.setCell ⟨g, 0, none⟩ v') := by
 have hbx := Zkv h6 (by decide) h3 hg;have keep : ∀ b, InS S0 B w b → (w3.setCell ⟨g, 0, none⟩ v').heap[b]? = w.heap[b]? := by
  intro b hSb;have hne : b ≠ g := by
   rcases hSb with h | ⟨_, c, f, h⟩
   ·exact (hS0 _ h).2
   ·rintro rfl; rw [h3] at h; cases h
  have hlt : b < w.heap.size := by
   rcases hSb with h | ⟨_, c, f, h⟩
   ·have := (hS0 _ h).1; omega
   ·exact Za h
  have hrow : some b ≠ v.ownBlock := by
   rcases hSb with h | ⟨_, c, f, h⟩
   ·intro e; have := (h6.lt b e.symm).1; have := (hS0 _ h).1; omega
   ·exact Zf3 h6 (by decide) h
  rw [Below.heap_setCell _ _ _ _ hne];exact (hg.block _ (by simp; omega) hrow).trans ((Zd w o).block _ hlt)
 have keep' : ∀ b, InS S0 B w b → InS S0 B (w3.setCell ⟨g, 0, none⟩ v') b := fun b h => X7 h (fun x => x) fun ⟨k1, c, f, k2⟩ => ⟨k1, c, f, (keep b h).trans k2⟩
 refine ⟨v', us ++ [u], ?_, by simp [h4], fun i hi => ?_, ?_⟩
 ·have := Yc hbx 0 v';simpa using this
 ·by_cases hi2 : i < bs.length
  ·obtain ⟨x, e1, e2⟩ := h5 i hi2;refine ⟨x, by rw [List.getElem?_append_left (by omega)]; exact e1, ?_⟩;rw [List.getElem_append_left hi2];exact (e2.keep keep).mono keep'
  ·have e : i = bs.length := by simp at hi; omega
   subst e;refine ⟨u, by rw [← h4]; simp, ?_⟩;have hu' := (hu.keep keep).mono keep';simpa using hu'
 ·have := Zb7 (i := 0) (x := v') hown hbx (by decide);simpa using this
end Go.Proofs.Ytljogbielflgdac
