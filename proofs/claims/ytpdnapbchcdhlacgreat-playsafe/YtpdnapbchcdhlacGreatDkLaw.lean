import Derived.Test.YtpdnapbchcdhlacGreatRPut
set_option maxHeartbeats 8000000
namespace Go.Proofs.YtpdnapbchcdhlacGreat
set_option maxRecDepth 100000
open Plain
variable {α : Type}
def Dk.keepTo (d : Dk) (on : Nat → Bool) : Nat → List (List UInt8)
 | 0 => d.blocks
 | k + 1 => if on k = true then (d.keepTo on k).set (d.late.getD k (0, [])).1.toNat (d.late.getD k (0, [])).2 else d.keepTo on k
def Qb (bits : Int) (k : Nat) : Bool := decide (k < 60) && ((bits % 18446744073709551616).toNat / 2 ^ k % 2 == 1)
def Dk.keep (d : Dk) (bits : Int) : Dk := ⟨d.keepTo (Qb bits) d.late.length, []⟩
def Dk.flush (d : Dk) : Dk := ⟨d.keepTo (fun _ => true) d.late.length, []⟩
def X2 (b : List UInt8) (n : Int) (y : Int) : List UInt8 := if 0 ≤ n ∧ n < (b.length : Int) then b.set n.toNat (b.getD n.toNat 0 ^^^ lo y) else b
def Dk.spoil (d : Dk) (a n y : Int) : Dk := if 0 ≤ a ∧ a < (d.blocks.length : Int) then ⟨d.blocks.set a.toNat (X2 (d.blocks.getD a.toNat []) n y), d.late⟩ else d
def Dk.new : Dk := ⟨(List.range 12).map fun (i : Nat) => blk ⟨1, 0, 0, []⟩ (i : Int), []⟩
theorem Qp (l : List α) (i : Nat) (x : α) (h : i < l.length) : l.getD i x = l[i] := by
 rw [List.getD_eq_getElem?_getD, List.getElem?_eq_getElem h]; rfl
theorem Q8 (l : List α) (i j : Nat) (y x : α) (h : i < l.length) : (l.set j y).getD i x = if j = i then y else l.getD i x := by
 rw [List.getD_eq_getElem?_getD, List.getD_eq_getElem?_getD, List.getElem?_set];by_cases hj : j = i
 ·subst hj; simp [h]
 ·simp [hj]
theorem Dk.keepTo_length (d : Dk) (on : Nat → Bool) : ∀ k, (d.keepTo on k).length = d.blocks.length
 | 0 => rfl
 | k + 1 => by
  show (if on k = true then _ else _ : List (List UInt8)).length = _;split
  ·rw [List.length_set]; exact keepTo_length d on k
  ·exact keepTo_length d on k
theorem Dk.keepTo_none (d : Dk) (on : Nat → Bool) (h : ∀ k, on k = false) : ∀ k, d.keepTo on k = d.blocks
 | 0 => rfl
 | k + 1 => by
  show (if on k = true then _ else _) = _;rw [h k, if_neg (by decide)]; exact keepTo_none d on h k
theorem Zn5 (k : Nat) : Qb 0 k = false := by
 unfold Qb;have : ((0 : Int) % 18446744073709551616).toNat = 0 := by decide
 rw [this, Nat.zero_div]; simp
theorem Dk.keep_none (d : Dk) : (d.keep 0).blocks = d.blocks := d.keepTo_none _ Zn5 _
theorem Dk.keepTo_last (d : Dk) (hl : ∀ x ∈ d.late, 0 ≤ x.1) (a : Nat) (ha : a < d.blocks.length) : ∀ k, k ≤ d.late.length →
  (d.keepTo (fun _ => true) k).getD a [] = (Qw (d.late.take k) (a : Int)).getD (d.blocks.getD a [])
 | 0, _ => by simp [Dk.keepTo, Qw]
 | k + 1, hk => by
  have ih := keepTo_last d hl a ha k (by omega);show ((d.keepTo (fun _ => true) k).set _ _).getD a [] = _;rw [Q8 _ _ _ _ _ (by rw [Dk.keepTo_length]; exact ha), Qp d.late k _ (by omega), Zcz _ _ _ (by omega)];have h0 := hl d.late[k] (List.getElem_mem _);by_cases h : d.late[k].1 = (a : Int)
  ·rw [if_pos (by omega), if_pos h]; rfl
  ·rw [if_neg (by omega), if_neg h]; exact ih
theorem Dk.flush_length (d : Dk) : d.flush.blocks.length = d.blocks.length := d.keepTo_length _ _
theorem Dk.flush_get (d : Dk) (hl : ∀ x ∈ d.late, 0 ≤ x.1) (a : Int) : d.flush.get a = d.get a := by
 unfold Dk.get;rw [Dk.flush_length];by_cases h : a < 0 ∨ (d.blocks.length : Int) ≤ a
 ·rw [if_pos h, if_pos h]
 ·rw [if_neg h, if_neg h];have hk := d.keepTo_last hl a.toNat (by omega) d.late.length (Nat.le_refl _);rw [List.take_length, show ((a.toNat : Nat) : Int) = a from by omega] at hk;show some ((Qw [] a).getD ((d.keepTo (fun _ => true) d.late.length).getD a.toNat [])) = _;rw [hk]; rfl
theorem Dk.flush_map (d : Dk) (hl : ∀ x ∈ d.late, 0 ≤ x.1) : d.flush.blocks = (List.range d.blocks.length).map fun (i : Nat) => (d.get (i : Int)).getD [] := by
 refine List.ext_getElem (by simp [Dk.flush_length]) fun i h1 h2 => ?_;rw [Dk.flush_length] at h1;rw [List.getElem_map, List.getElem_range, ← d.flush_get hl, Dk.get, if_neg (by rw [Dk.flush_length]; omega)];show _ = (Qw [] (i : Int)).getD (d.flush.blocks.getD (i : Int).toNat []);rw [show ((i : Int)).toNat = i from by omega, Qp _ _ _ (by rw [Dk.flush_length]; exact h1)]; rfl
theorem Dk.put_get (d : Dk) (a : Int) (b : List UInt8) (h0 : 0 ≤ a) (h1 : a < (d.blocks.length : Int)) : (d.put a b).get a = some b := by
 unfold Dk.get Dk.put;rw [if_neg (by show ¬ _; simp only; omega)];simp only [Zc0, if_pos]; rfl
theorem Dk.put_other (d : Dk) (a o : Int) (b : List UInt8) (h : o ≠ a) : (d.put a b).get o = d.get o := by
 unfold Dk.get Dk.put;simp only [Zc0, if_neg (fun h' : a = o => h h'.symm)]
end Go.Proofs.YtpdnapbchcdhlacGreat
namespace Go.Proofs.YtpdnapbchcdhlacGreat
set_option maxRecDepth 100000
open Go.RowKit
open Plain Reg
variable {B base g n : Nat} {S0 : Nat → Prop} {T e : TypeId} {bs : List (List UInt8)} {l : List UInt8} {lv v : Value} {o : Obj} {us : List Value} {w w' w3 : World}
theorem Z0.keep {S : Nat → Prop} (h : Z0 S w v l) (hk : ∀ b, S b → w'.heap[b]? = w.heap[b]?) : Z0 S w' v l := by
 rcases h with h | ⟨b, off, cap, hS, rfl, h1, hc⟩
 ·exact .inl h
 ·refine .inr ⟨b, off, cap, hS, rfl, h1, fun i hi => ?_⟩;rw [← hc i hi];simp only [World.cell?, hk b hS]
def InS (S0 : Nat → Prop) (B : Nat) (w : World) (b : Nat) : Prop := S0 b ∨ (B ≤ b ∧ ∃ c f, w.heap[b]? = some (.cells c 5 f))
theorem InS.grow (hg : Zn w w') (b : Nat) (h : InS S0 B w b) : InS S0 B w' b :=
 Xq h (fun x => x) fun ⟨h1, c, f, h2⟩ => ⟨h1, c, f, (hg.block _ (Za h2)).trans h2⟩
theorem InS.upon (b : Nat) (h : InS S0 B w b) : Zs S0 B b := Xq h (fun x => x) fun h => h.1
theorem Zd6 (S0 : Nat → Prop) (hb : B ≤ base) (h : w.ownsRow base 5 1 v l.length (l.map bv)) : Z0 (InS S0 B w) w v l := by
 rcases h.2 with ⟨rfl, h0⟩ | ⟨q, cap, cur, rfl, hq, hh, h1, h2, h3, h4⟩
 ·exact .inl ⟨none, 0, rfl, List.eq_nil_of_length_eq_zero h0, fun _ => rfl⟩
 ·refine .inr ⟨q, 0, cap, .inr ⟨by omega, _, _, hh⟩, rfl, h1, fun i hi => ?_⟩;have := h.cellAt i (by omega);rw [Nat.zero_add, this];simp [hi, bv]
def Zax (S0 : Nat → Prop) (B g : Nat) (lv : Value) (bs : List (List UInt8)) (w : World) : Prop :=
 ∃ v us, w.heap[g]? = some (.cells #[v, lv] 26 (0, 0)) ∧ us.length = bs.length ∧ (∀ i (hi : i < bs.length), ∃ u, us[i]? = some u ∧ Z0 (InS S0 B w) w u bs[i]) ∧ w.ownsRow B 45 1 v bs.length us
theorem Zax.grow (h : Zax S0 B g lv bs w) (hg : Zn w w') : Zax S0 B g lv bs w' := by
 obtain ⟨v, us, h3, h4, h5, h6⟩ := h;exact ⟨v, us, (hg.block _ (Za h3)).trans h3, h4, fun i hi => (h5 i hi).imp fun u hu => ⟨hu.1, (hu.2.grow hg).mono (InS.grow hg)⟩, Yb h6 hg⟩
theorem Zax.start (h : w.heap[g]? = some (.cells #[.slice none 0 0, lv] 26 (0, 0))) : Zax S0 B g lv [] w :=
 ⟨.slice none 0 0, [], h, rfl, fun i hi => by simp at hi, rfl, .inl ⟨rfl, rfl⟩⟩
theorem Zmq (h5 : ∀ i (hi : i < bs.length), ∃ u, us[i]? = some u ∧ Z0 (InS S0 B w) w u bs[i]) (h6 : w.ownsRow B 45 1 v bs.length us) : Y0 (Zs S0 B) w v bs := by
 rcases h6.2 with ⟨rfl, h0⟩ | ⟨q, cap, cur, rfl, hb, hh, k1, k2, k3, k4⟩
 ·exact .inl ⟨none, 0, rfl, List.eq_nil_of_length_eq_zero h0, fun _ => rfl⟩
 ·refine .inr ⟨q, 0, cap, .inr hb, rfl, k1, fun i hi => ?_⟩;have c0 := h6.cellAt i (by omega);obtain ⟨u, hu1, hu2⟩ := h5 i hi;rw [hu1] at c0;exact ⟨u, by rw [Nat.zero_add]; exact c0, hu2.mono InS.upon⟩
theorem Zax.blocks (h : Zax S0 B g lv bs w) : ∃ v, w.heap[g]? = some (.cells #[v, lv] 26 (0, 0)) ∧ Y0 (Zs S0 B) w v bs := by
 obtain ⟨v, us, h3, h4, h5, h6⟩ := h;exact ⟨v, h3, Zmq h5 h6⟩
theorem Ji : (Tryz.prog.info? 45).map (fun i => (i.zero, i.size, i.bytes)) = some (some (.slice none 0 0), 1, 24) := by kernel_rfl
theorem Zga (w : World) (x : Value) (e : TypeId) (j : Nat) (u : Value) (h : [x][j]? = some u) : (w.alloc (.cells #[x] e)).cell? ((⟨w.heap.size, 0, none⟩ : Addr).add j) = some u := by
 match j, h with
 | 0, h => simp at h; subst h; simp [Addr.add]
 | j + 1, h => simp at h
theorem Zix {b : Nat} {c f} (h : w.ownsRow B e 1 v n us) (hne : e ≠ T) (hb : w.heap[b]? = some (.cells c T f)) : some b ≠ v.ownBlock := by
 rcases h.2 with ⟨rfl, _⟩ | ⟨q, cap, cur, rfl, _, hq, _⟩
 ·simp [Value.ownBlock]
 ·intro e1;simp [Value.ownBlock] at e1;subst e1;rw [hb] at hq; cases hq; exact hne rfl
theorem Zb8 {i : Nat} {c f} {x : Value} {xs : List Value} (h : w.ownsRow base e 1 v n xs) (hg : w.heap[g]? = some (.cells c T f)) (hT : e ≠ T) : (w.setCell ⟨g, i, none⟩ x).ownsRow base e 1 v n xs := by
 refine ⟨h.1, Xq h.2 (fun x => x) fun ⟨q, cap, cur, h1, h2, h3, r⟩ => ⟨q, cap, cur, h1, h2, ?_, r⟩⟩;rw [Below.heap_setCell _ _ _ _ (by rintro rfl; rw [hg] at h3; cases h3; exact hT rfl)];exact h3
theorem Zd7 (hle : B ≤ w.heap.size) (hown : w.ownsRow B 45 1 v n us) (hg : (w.alloc o).grownBy w3 v.ownBlock) : Below B w w3 :=
 Below.grown (Below.alloc (Below.refl _ _) hle o) hg (by simp; omega) (fun k hk => (hown.lt k hk).1)
theorem Ze6 {b : Nat} {c f} (hown : w.ownsRow B 45 1 v n us) (hT : 45 ≠ T) (hb : w.heap[b]? = some (.cells c T f)) (hg : (w.alloc o).grownBy w3 v.ownBlock) : w3.heap[b]? = some (.cells c T f) :=
 (hg.block _ (by have := Za hb; simp; omega) (Zix hown hT hb)).trans (((Zb w o).block _ (Za hb)).trans hb)
theorem Zax.step {S0 : Nat → Prop} {B : Nat} {v' u : Value} {b : List UInt8} {w3 : World} {o : Obj} (h3 : w.heap[g]? = some (.cells #[v, lv] 26 (0, 0))) (h4 : us.length = bs.length)
  (h5 : ∀ i (hi : i < bs.length), ∃ u, us[i]? = some u ∧ Z0 (InS S0 B w) w u bs[i]) (h6 : w.ownsRow B 45 1 v bs.length us) (hS0 : ∀ b, S0 b → b < B ∧ b ≠ g) (hle : B ≤ w.heap.size) (hu : Z0 (InS S0 B w) w u b)
  (hg : (w.alloc o).grownBy w3 v.ownBlock) (hown : w3.ownsRow B 45 1 v' (bs.length + 1) (us ++ [u])) : Zax S0 B g lv (bs ++ [b]) (w3.setCell ⟨g, 0, none⟩ v') := by
 have hbx := Ze6 h6 (by decide) h3 hg;have keep : ∀ b, InS S0 B w b → (w3.setCell ⟨g, 0, none⟩ v').heap[b]? = w.heap[b]? := by
  intro b hSb;have hne : b ≠ g := by
   rcases hSb with h | ⟨_, c, f, h⟩
   ·exact (hS0 _ h).2
   ·rintro rfl; rw [h3] at h; cases h
  have hlt : b < w.heap.size := by
   rcases hSb with h | ⟨_, c, f, h⟩
   ·have := (hS0 _ h).1; omega
   ·exact Za h
  have hrow : some b ≠ v.ownBlock := by
   rcases hSb with h | ⟨_, c, f, h⟩
   ·intro e; have := (h6.lt b e.symm).1; have := (hS0 _ h).1; omega
   ·exact Zix h6 (by decide) h
  rw [Below.heap_setCell _ _ _ _ hne];exact (hg.block _ (by simp; omega) hrow).trans ((Zb w o).block _ hlt)
 have keep' : ∀ b, InS S0 B w b → InS S0 B (w3.setCell ⟨g, 0, none⟩ v') b := fun b h => Xq h (fun x => x) fun ⟨k1, c, f, k2⟩ => ⟨k1, c, f, (keep b h).trans k2⟩
 refine ⟨v', us ++ [u], ?_, by simp [h4], fun i hi => ?_, ?_⟩
 ·have := Ye hbx 0 v';simpa using this
 ·by_cases hi2 : i < bs.length
  ·obtain ⟨x, e1, e2⟩ := h5 i hi2;refine ⟨x, by rw [List.getElem?_append_left (by omega)]; exact e1, ?_⟩;rw [List.getElem_append_left hi2];exact (e2.keep keep).mono keep'
  ·have e : i = bs.length := by simp at hi; omega
   subst e;refine ⟨u, by rw [← h4]; simp, ?_⟩;have hu' := (hu.keep keep).mono keep';simpa using hu'
 ·have := Zb8 (i := 0) (x := v') hown hbx (by decide);simpa using this
variable {B b cap n : Nat} {S S0 : Nat → Prop} {ao : Option Addr} {css : List (List Value)} {e : TypeId} {o : Obj} {us : List Value} {v : Value} {w w' w3 : World} {α : Type}
structure Qr (α : Type) where
 T : TypeId
 size : Nat
 enc : (Nat → Prop) → World → α → List Value → Prop
 len : ∀ {S : Nat → Prop} {w : World} {x : α} {cs : List Value}, enc S w x cs → cs.length = size
 keep : ∀ {S : Nat → Prop} {w w' : World} {x : α} {cs : List Value}, enc S w x cs → (∀ b, S b → b < w.heap.size → w'.heap[b]? = w.heap[b]?) → enc S w' x cs
 mono : ∀ {S S' : Nat → Prop} {w : World} {x : α} {cs : List Value}, enc S w x cs → (∀ b, S b → S' b) → enc S' w x cs
 cap : ∀ {S : Nat → Prop} {w : World} {x : α} {cs : List Value}, enc S w x cs → enc (fun b => S b ∧ b < w.heap.size) w x cs
 one : ∀ {S : Nat → Prop} {w : World} {x : α} {cs : List Value}, enc S w x cs → ∀ u ∈ cs, u.oneCell' = true
theorem Z0.keeps {l : List UInt8} (h : Z0 S w v l) (hk : ∀ b, S b → b < w.heap.size → w'.heap[b]? = w.heap[b]?) : Z0 S w' v l := by
 rcases h with h | ⟨b, off, cap, hS, rfl, h1, hc⟩
 ·exact .inl h
 ·refine .inr ⟨b, off, cap, hS, rfl, h1, fun i hi => ?_⟩;have h2 := hc i hi;rw [← h2];simp only [World.cell?, hk b hS (Zv h2)]
theorem Z0.caps {l : List UInt8} (h : Z0 S w v l) : Z0 (fun b => S b ∧ b < w.heap.size) w v l := by
 by_cases h0 : l = []
 ·subst h0;rcases h with h | ⟨b, off, cap, hS, rfl, h1, hc⟩
  ·exact .inl h
  ·exact .inl ⟨_, cap, rfl, rfl, fun h => by cases h⟩
 ·rcases h with ⟨_, _, _, h1, _⟩ | ⟨b, off, cap, hS, h2, h1, hc⟩
  ·exact absurd h1 h0
  ·exact .inr ⟨b, off, cap, ⟨hS, Zv (hc 0 (List.length_pos_iff.2 h0))⟩, h2, h1, hc⟩
theorem Z0.form {l : List UInt8} (h : Z0 S w v l) : ∃ ao cap, v = .slice ao l.length cap := by
 rcases h with ⟨ao, cap, rfl, rfl, _⟩ | ⟨b, off, cap, _, rfl, _⟩
 ·exact ⟨ao, cap, rfl⟩
 ·exact ⟨_, cap, rfl⟩
theorem Z0.one {l : List UInt8} (h : Z0 S w v l) : v.oneCell' = true := by
 obtain ⟨ao, cap, rfl⟩ := h.form; rfl
def Z7 (sh : Qr α) (S : Nat → Prop) (w : World) (v : Value) (xs : List α) : Prop :=
 (∃ ao cap, v = .slice ao 0 cap ∧ xs = [] ∧ (ao = none → cap = 0)) ∨
 (∃ b off cap, S b ∧ v = .slice (some ⟨b, off, none⟩) xs.length cap ∧ xs.length ≤ cap ∧ ∀ (i : Nat) (h : i < xs.length), ∃ cs, sh.enc S w xs[i] cs ∧ ∀ (j : Nat) (u : Value), cs[j]? = some u → w.cell? ⟨b, off + i * sh.size + j, none⟩ = some u)
theorem Z7.keep {sh : Qr α} {xs : List α} (h : Z7 sh S w v xs) (hk : ∀ b, S b → b < w.heap.size → w'.heap[b]? = w.heap[b]?) : Z7 sh S w' v xs := by
 rcases h with h | ⟨b, off, cap, hS, rfl, h1, hc⟩
 ·exact .inl h
 ·refine .inr ⟨b, off, cap, hS, rfl, h1, fun i hi => ?_⟩;obtain ⟨cs, h2, h3⟩ := hc i hi;refine ⟨cs, sh.keep h2 hk, fun j u hj => ?_⟩;have h4 := h3 j u hj;rw [← h4];simp only [World.cell?, hk b hS (Zv h4)]
theorem Z7.grow {sh : Qr α} {xs : List α} (h : Z7 sh S w v xs) (hg : Zn w w') : Z7 sh S w' v xs := h.keep fun b _ hb => hg.block b hb
theorem Z7.but {sh : Qr α} {g : Nat} {xs : List α} (h : Z7 sh S w v xs) (hg : Zo g w w') (hn : ¬ S g) : Z7 sh S w' v xs := h.keep fun b hS hb => hg.block b hb (by rintro rfl; exact hn hS)
theorem Z7.mono {sh : Qr α} {S' : Nat → Prop} {xs : List α} (h : Z7 sh S w v xs) (hS : ∀ b, S b → S' b) : Z7 sh S' w v xs := by
 rcases h with h | ⟨b, off, cap, hb, rfl, h1, hc⟩
 ·exact .inl h
 ·exact .inr ⟨b, off, cap, hS b hb, rfl, h1, fun i hi => (hc i hi).imp fun _ x => ⟨sh.mono x.1 hS, x.2⟩⟩
theorem Z7.form {sh : Qr α} {xs : List α} (h : Z7 sh S w v xs) : ∃ ao cap, v = .slice ao xs.length cap := by
 rcases h with ⟨ao, cap, rfl, rfl, _⟩ | ⟨b, off, cap, _, rfl, _⟩
 ·exact ⟨ao, cap, rfl⟩
 ·exact ⟨_, cap, rfl⟩
theorem Z7.nil (sh : Qr α) (S : Nat → Prop) (w : World) : Z7 sh S w (.slice none 0 0) [] := .inl ⟨none, 0, rfl, rfl, fun _ => rfl⟩
theorem Z7.at {sh : Qr α} {xs : List α} (h : Z7 sh S w (.slice ao n cap) xs) (i : Nat) (hi : i < xs.length) :
  ∃ b off, ao = some ⟨b, off, none⟩ ∧ S b ∧ ∃ cs, sh.enc S w xs[i] cs ∧ ∀ (j : Nat) (u : Value), cs[j]? = some u → w.cell? ⟨b, off + i * sh.size + j, none⟩ = some u := by
 rcases h with ⟨_, _, _, rfl, _⟩ | ⟨b, off, cp, hS, h2, h3, h4⟩
 ·simp at hi
 ·cases h2;exact ⟨b, off, rfl, hS, h4 i hi⟩
theorem Z7.sub {sh : Qr α} {off : Nat} {xs : List α} (h : Z7 sh S w (.slice (some ⟨b, off, none⟩) n cap) xs) (lo hi : Nat) (h1 : lo ≤ hi) (h2 : hi ≤ xs.length) (cap' : Nat) (hc : hi - lo ≤ cap') :
  Z7 sh S w (.slice (some ⟨b, off + lo * sh.size, none⟩) (hi - lo) cap') ((xs.drop lo).take (hi - lo)) := by
 have hl : ((xs.drop lo).take (hi - lo)).length = hi - lo := by simp; omega
 by_cases h0 : hi - lo = 0
 ·rw [h0];exact .inl ⟨_, cap', rfl, by simp, fun h => by cases h⟩
 ·rcases h with ⟨_, _, _, rfl, _⟩ | ⟨b', off', cp, hS, h3, h4, h5⟩
  ·simp at h2; omega
  ·cases h3;refine .inr ⟨b, off + lo * sh.size, cap', hS, by rw [hl], by rw [hl]; exact hc, fun i hi2 => ?_⟩;rw [hl] at hi2;obtain ⟨cs, k1, k2⟩ := h5 (lo + i) (by omega);refine ⟨cs, ?_, fun j u hj => ?_⟩
   ·rw [List.getElem_take, List.getElem_drop]; exact k1
   ·have := k2 j u hj;rw [Nat.add_mul] at this;rw [show off + lo * sh.size + i * sh.size + j = off + (lo * sh.size + i * sh.size) + j from by omega];exact this
theorem Z7.caps {sh : Qr α} {xs : List α} (h : Z7 sh S w v xs) (hs : 0 < sh.size) : Z7 sh (fun b => S b ∧ b < w.heap.size) w v xs := by
 by_cases h0 : xs = []
 ·subst h0;rcases h with h | ⟨b, off, cap, hS, rfl, h1, hc⟩
  ·exact .inl h
  ·exact .inl ⟨_, cap, rfl, rfl, fun h => by cases h⟩
 ·rcases h with ⟨_, _, _, h1, _⟩ | ⟨b, off, cap, hS, h2, h1, hc⟩
  ·exact absurd h1 h0
  ·refine .inr ⟨b, off, cap, ⟨hS, ?_⟩, h2, h1, fun i hi => (hc i hi).imp fun _ x => ⟨sh.cap x.1, x.2⟩⟩;obtain ⟨cs, k1, k2⟩ := hc 0 (List.length_pos_iff.2 h0);have hl := sh.len k1;have := k2 0 cs[0] (List.getElem?_eq_getElem (by omega));exact Zv this
theorem Jj {k : Nat} : ∀ (css : List (List α)) (i j : Nat) (cs : List α), (∀ c ∈ css, c.length = k) → css[i]? = some cs → j < k → css.flatten[i * k + j]? = cs[j]?
 | [], i, j, cs, _, h, _ => by simp at h
 | c :: css, 0, j, cs, hl, h, hj => by
  simp only [List.getElem?_cons_zero, Option.some.injEq] at h;subst h;have := hl c (by simp);rw [List.flatten_cons, Nat.zero_mul, Nat.zero_add, List.getElem?_append_left (by omega)]
 | c :: css, i + 1, j, cs, hl, h, hj => by
  have h1 := hl c (by simp);have ih := Jj css i j cs (fun c hc => hl c (by simp [hc])) (by simpa using h) hj;rw [List.flatten_cons, List.getElem?_append_right (by rw [h1, Nat.add_mul]; omega), h1, ← ih]
  congr 1
  rw [Nat.add_mul]; omega
structure Yv {α : Type} (sh : Qr α) (S0 : Nat → Prop) (B : Nat) (v : Value) (xs : List α) (css : List (List Value)) (w : World) : Prop where
 len : css.length = xs.length
 each : ∀ i (hi : i < xs.length), ∃ cs, css[i]? = some cs ∧ sh.enc (InS S0 B w) w xs[i] cs
 row : w.ownsRow B sh.T sh.size v xs.length css.flatten
theorem Yv.nil (sh : Qr α) (S0 : Nat → Prop) (B : Nat) (w : World) : Yv sh S0 B (.slice none 0 0) [] [] w := ⟨rfl, fun i hi => by simp at hi, World.ownsRow_nil _ _ _ _⟩
theorem Yv.grow {sh : Qr α} {xs : List α} (h : Yv sh S0 B v xs css w) (hg : Zn w w') : Yv sh S0 B v xs css w' :=
 ⟨h.len, fun i hi => (h.each i hi).imp fun _ x => ⟨x.1, sh.mono (sh.keep x.2 fun b _ hb => hg.block b hb) (InS.grow hg)⟩, Yb h.row hg⟩
theorem Yv.form {sh : Qr α} {xs : List α} (h : Yv sh S0 B v xs css w) : ∃ ao cap, v = .slice ao xs.length cap := Y4 h.row
theorem Yv.slice {sh : Qr α} {xs : List α} (h : Yv sh S0 B v xs css w) : Z7 sh (Zs S0 B) w v xs := by
 have hlen : ∀ c ∈ css, c.length = sh.size := by
  intro c hc;obtain ⟨i, hi, rfl⟩ := List.mem_iff_getElem.1 hc;obtain ⟨cs, k1, k2⟩ := h.each i (by rw [← h.len]; exact hi);rw [List.getElem?_eq_getElem hi] at k1;cases k1;exact sh.len k2
 rcases h.row.2 with ⟨rfl, h0⟩ | ⟨q, cap, cur, rfl, hb, hh, k1, k2, k3, k4⟩
 ·exact .inl ⟨none, 0, rfl, List.eq_nil_of_length_eq_zero h0, fun _ => rfl⟩
 ·refine .inr ⟨q, 0, cap, .inr hb, rfl, k1, fun i hi => ?_⟩;obtain ⟨cs, e1, e2⟩ := h.each i hi;refine ⟨cs, sh.mono e2 InS.upon, fun j u hj => ?_⟩;have hjl : j < sh.size := by rw [← sh.len e2]; exact (List.getElem?_eq_some_iff.1 hj).1
  have hij : i * sh.size + j < xs.length * sh.size := by
   have : (i + 1) * sh.size ≤ xs.length * sh.size := Nat.mul_le_mul_right _ hi;rw [Nat.add_mul] at this; omega
  have c0 := h.row.cellAt (i * sh.size + j) hij;rw [Nat.zero_add, c0, Jj css i j cs hlen e1 hjl, hj]
theorem Qe {size : Nat} (_hown : w.ownsRow B e size v n us) (hg : (w.alloc o).grownBy w3 v.ownBlock) (hne : some b ≠ v.ownBlock) (hb : b < w.heap.size) : w3.heap[b]? = w.heap[b]? :=
 (hg.block _ (by simp; omega) hne).trans ((Zb w o).block _ hb)
theorem Zsk {size : Nat} {T : TypeId} {c f} (h : w.ownsRow B e size v n us) (hne : e ≠ T) (hb : w.heap[b]? = some (.cells c T f)) : some b ≠ v.ownBlock := by
 rcases h.2 with ⟨rfl, _⟩ | ⟨q, cap, cur, rfl, _, hq, _⟩
 ·simp [Value.ownBlock]
 ·intro e1;simp [Value.ownBlock] at e1;subst e1;rw [hb] at hq; cases hq; exact hne rfl
theorem Kh {size : Nat} (h : w.ownsRow B e size v n us) (hb : b < B) : some b ≠ v.ownBlock := fun e1 => by
 have := (h.lt b e1.symm).1; omega
theorem Zxb {size : Nat} (h : w.ownsRow B e size v n us) (hb : w.heap.size ≤ b) : some b ≠ v.ownBlock := fun e1 => by
 have := (h.lt b e1.symm).2; omega
theorem Zi4 {size : Nat} (hown : w.ownsRow B e size v n us) (hT : e ≠ 5) (hS0 : ∀ b, S0 b → b < B) (hg : (w.alloc o).grownBy w3 v.ownBlock) : ∀ b, InS S0 B w b → b < w.heap.size → w3.heap[b]? = w.heap[b]? := by
 intro b hb hlt;refine Qe hown hg ?_ hlt;rcases hb with h | ⟨_, c, f, h⟩
 ·exact Kh hown (hS0 b h)
 ·exact Zsk hown hT h
theorem Zyl {size : Nat} (hown : w.ownsRow B e size v n us) (hT : e ≠ 5) (hS0 : ∀ b, S0 b → b < B) (hg : (w.alloc o).grownBy w3 v.ownBlock) : ∀ b, InS S0 B w b → InS S0 B w3 b := fun b h =>
 Xq h (fun x => x) fun ⟨k1, c, f, k2⟩ => ⟨k1, c, f, (Zi4 hown hT hS0 hg b h (Za k2)).trans k2⟩
theorem Yv.step {sh : Qr α} {v' : Value} {xs : List α} {x : α} {cs : List Value} {w3 : World} {o : Obj} (h : Yv sh S0 B v xs css w) (hT : sh.T ≠ 5) (hS0 : ∀ b, S0 b → b < B) (hx : sh.enc (InS S0 B w) w x cs)
  (hg : (w.alloc o).grownBy w3 v.ownBlock) (hown : w3.ownsRow B sh.T sh.size v' (xs.length + 1) (css.flatten ++ cs)) : Yv sh S0 B v' (xs ++ [x]) (css ++ [cs]) w3 := by
 have hk := Zi4 (S0 := S0) h.row hT hS0 hg;have hm := Zyl (S0 := S0) h.row hT hS0 hg;refine ⟨by simp [h.len], fun i hi => ?_, by simpa using hown⟩;by_cases hi2 : i < xs.length
 ·obtain ⟨y, h1, h2⟩ := h.each i hi2;refine ⟨y, by rw [List.getElem?_append_left (by rw [h.len]; exact hi2)]; exact h1, ?_⟩;rw [List.getElem_append_left hi2]; exact sh.mono (sh.keep h2 hk) hm
 ·have e : i = xs.length := by simp at hi; omega
  subst e;refine ⟨cs, by rw [← h.len]; simp, ?_⟩;have := sh.mono (sh.keep hx hk) hm;simpa using this
structure Ent where
 rc : Rec
 pair : Int
def Yo : Qr Rec where
 T := 61
 size := 4
 enc S w r cs := ∃ u, cs = [.int .i64 r.kind, .int .i64 r.key, .int .i64 r.ver, u] ∧ Z0 S w u r.data
 len := by rintro S w x cs ⟨u, rfl, _⟩; rfl
 keep := by rintro S w w' x cs ⟨u, rfl, h⟩ hk; exact ⟨u, rfl, h.keeps hk⟩
 mono := by rintro S S' w x cs ⟨u, rfl, h⟩ hS; exact ⟨u, rfl, h.mono hS⟩
 cap := by rintro S w x cs ⟨u, rfl, h⟩; exact ⟨u, rfl, h.caps⟩
 one := by
  rintro S w x cs ⟨u, rfl, h⟩ c hc;simp only [List.mem_cons, List.not_mem_nil, or_false] at hc;rcases hc with rfl | rfl | rfl | rfl
  ·rfl
  ·rfl
  ·rfl
  ·exact h.one
def Y8 : Qr Ent where
 T := 92
 size := 5
 enc S w e cs := ∃ u, cs = [.int .i64 e.rc.kind, .int .i64 e.rc.key, .int .i64 e.rc.ver, u, .int .i64 e.pair] ∧ Z0 S w u e.rc.data
 len := by rintro S w x cs ⟨u, rfl, _⟩; rfl
 keep := by rintro S w w' x cs ⟨u, rfl, h⟩ hk; exact ⟨u, rfl, h.keeps hk⟩
 mono := by rintro S S' w x cs ⟨u, rfl, h⟩ hS; exact ⟨u, rfl, h.mono hS⟩
 cap := by rintro S w x cs ⟨u, rfl, h⟩; exact ⟨u, rfl, h.caps⟩
 one := by
  rintro S w x cs ⟨u, rfl, h⟩ c hc;simp only [List.mem_cons, List.not_mem_nil, or_false] at hc;rcases hc with rfl | rfl | rfl | rfl | rfl
  ·rfl
  ·rfl
  ·rfl
  ·exact h.one
  ·rfl
abbrev Ys := Z7 Y8
abbrev Qs := Z7 Yo
theorem Jb {l : List Ent} (h : Ys S w (.slice ao n cap) l) (i : Nat) (hi : i < l.length) :
  ∃ b off a c, ao = some ⟨b, off, none⟩ ∧ w.cell? ⟨b, off + i * 5, none⟩ = some (.int .i64 l[i].rc.kind) ∧ w.cell? ⟨b, off + i * 5 + 1, none⟩ = some (.int .i64 l[i].rc.key) ∧ w.cell? ⟨b, off + i * 5 + 2, none⟩ = some (.int .i64 l[i].rc.ver) ∧
   w.cell? ⟨b, off + i * 5 + 3, none⟩ = some (.slice a l[i].rc.data.length c) ∧ w.cell? ⟨b, off + i * 5 + 4, none⟩ = some (.int .i64 l[i].pair) ∧ Z0 S w (.slice a l[i].rc.data.length c) l[i].rc.data := by
 obtain ⟨b, off, rfl, _, cs, ⟨u, rfl, hu⟩, hc⟩ := h.at i hi;obtain ⟨a, c, rfl⟩ := hu.form;exact ⟨b, off, a, c, rfl, hc 0 _ rfl, hc 1 _ rfl, hc 2 _ rfl, hc 3 _ rfl, hc 4 _ rfl, hu⟩
theorem Jx {l : List Rec} (h : Qs S w (.slice ao n cap) l) (i : Nat) (hi : i < l.length) :
  ∃ b off a c, ao = some ⟨b, off, none⟩ ∧ w.cell? ⟨b, off + i * 4, none⟩ = some (.int .i64 l[i].kind) ∧ w.cell? ⟨b, off + i * 4 + 1, none⟩ = some (.int .i64 l[i].key) ∧ w.cell? ⟨b, off + i * 4 + 2, none⟩ = some (.int .i64 l[i].ver) ∧
   w.cell? ⟨b, off + i * 4 + 3, none⟩ = some (.slice a l[i].data.length c) ∧ Z0 S w (.slice a l[i].data.length c) l[i].data := by
 obtain ⟨b, off, rfl, _, cs, ⟨u, rfl, hu⟩, hc⟩ := h.at i hi;obtain ⟨a, c, rfl⟩ := hu.form;exact ⟨b, off, a, c, rfl, hc 0 _ rfl, hc 1 _ rfl, hc 2 _ rfl, hc 3 _ rfl, hu⟩
theorem Zan : (Tryz.prog.info? 92).map (fun i => (i.zero, i.size, i.bytes)) = some (some (.agg #[.int .i64 0, .int .i64 0, .int .i64 0, .slice none 0 0, .int .i64 0]), 5, 56) := by kernel_rfl
theorem V5 (w : World) (x y z u t : Value) (e : TypeId) (j : Nat) (c : Value) (h : [x, y, z, u, t][j]? = some c) : (w.alloc (.cells #[x, y, z, u, t] e)).cell? ((⟨w.heap.size, 0, none⟩ : Addr).add j) = some c := by
 match j, h with
 | 0, h => simp at h; subst h; simp [Addr.add]
 | 1, h => simp at h; subst h; simp [Addr.add]
 | 2, h => simp at h; subst h; simp [Addr.add]
 | 3, h => simp at h; subst h; simp [Addr.add]
 | 4, h => simp at h; subst h; simp [Addr.add]
 | j + 5, h => simp at h
def Y2 (a b : Ent) : Bool := if a.rc.key = b.rc.key then (if a.rc.ver = b.rc.ver then decide (a.pair < b.pair) else decide (a.rc.ver < b.rc.ver)) else decide (a.rc.key < b.rc.key)
def X0 (e : Ent) (st : List Ent × Bool) (x : Ent) : List Ent × Bool := if st.2 = false ∧ Y2 e x = true then (st.1 ++ [e] ++ [x], true) else (st.1 ++ [x], st.2)
def Q7 (e : Ent) (l : List Ent) : List Ent × Bool := l.foldl (X0 e) ([], false)
def Xw (e : Ent) (l : List Ent) : List Ent := if (Q7 e l).2 = true then (Q7 e l).1 else (Q7 e l).1 ++ [e]
theorem Zpv (x y : Ent) (a b : Option Addr) (c c' : Nat) (w : World) :
  Calls Tryz.prog 94 #[.agg #[.int .i64 x.rc.kind, .int .i64 x.rc.key, .int .i64 x.rc.ver, .slice a x.rc.data.length c, .int .i64 x.pair], .agg #[.int .i64 y.rc.kind, .int .i64 y.rc.key, .int .i64 y.rc.ver, .slice b y.rc.data.length c', .int .i64 y.pair]] w fun e w' => e = .returned (.bool (Y2 x y)) ∧ Zn w w' := by
 have gW := Zp w (.cells #[.int .i64 x.rc.kind, .int .i64 x.rc.key, .int .i64 x.rc.ver, .slice a x.rc.data.length c, .int .i64 x.pair] 92) (.cells #[.int .i64 y.rc.kind, .int .i64 y.rc.key, .int .i64 y.rc.ver, .slice b y.rc.data.length c', .int .i64 y.pair] 92);by_cases hk : x.rc.key = y.rc.key
 ·have d0 : (x.rc.key != y.rc.key) = false := by simp [hk]
  by_cases hv : x.rc.ver = y.rc.ver
  ·have d1 : (x.rc.ver != y.rc.ver) = false := by simp [hv]
   have HL : Hid (Y2 x y = decide (x.pair < y.pair)) := by show Y2 x y = _; unfold Y2; rw [if_pos hk, if_pos hv]
   rw [HL.out];clear hk hv;go_enter Tryz.func94, Tryz.ntmps94;go_wp2_with fail;go_ret;exact ⟨rfl, gW⟩
  ·have d1 : (x.rc.ver != y.rc.ver) = true := by simp [hv]
   have HL : Hid (Y2 x y = decide (x.rc.ver < y.rc.ver)) := by show Y2 x y = _; unfold Y2; rw [if_pos hk, if_neg hv]
   rw [HL.out];clear hk hv;go_enter Tryz.func94, Tryz.ntmps94;go_wp2_with fail;go_ret;exact ⟨rfl, gW⟩
 ·have d0 : (x.rc.key != y.rc.key) = true := by simp [hk]
  have HL : Hid (Y2 x y = decide (x.rc.key < y.rc.key)) := by show Y2 x y = _; unfold Y2; rw [if_neg hk]
  rw [HL.out];clear hk;go_enter Tryz.func94, Tryz.ntmps94;go_wp2_with fail;go_ret;exact ⟨rfl, gW⟩
theorem Zh6 (e : Ent) (l : List Ent) : (Q7 e l).1.length ≤ 2 * l.length := by
 have key : ∀ (l : List Ent) (st : List Ent × Bool), (l.foldl (X0 e) st).1.length ≤ st.1.length + 2 * l.length := by
  intro l
  induction l with
  | nil => intro st; simp
  | cons x l ih =>
   intro st;rw [List.foldl_cons, List.length_cons];have h1 := ih (X0 e st x);have h2 : (X0 e st x).1.length ≤ st.1.length + 2 := by unfold X0; split <;> simp
   omega
 have h := key l ([], false);rw [List.length_nil] at h;unfold Q7;omega
theorem Znk (e : Ent) (l : List Ent) (k : Nat) (h : k < l.length) : Q7 e (l.take (k + 1)) = X0 e (Q7 e (l.take k)) l[k] := by
 unfold Q7;rw [List.take_succ_eq_append_getElem h, List.foldl_append]; rfl
theorem Zep (S : Nat → Prop) (l : List Ent) (e : Ent) (v : Value) (a : Option Addr) (c : Nat) (w : World) (hS : ∀ b, S b → b < w.heap.size) (hl : Ys S w v l) (he : Z0 S w (.slice a e.rc.data.length c) e.rc.data) (hn : l.length ≤ 1000000) :
  Calls Tryz.prog 60 #[v, .agg #[.int .i64 e.rc.kind, .int .i64 e.rc.key, .int .i64 e.rc.ver, .slice a e.rc.data.length c, .int .i64 e.pair]] w fun r w' => ∃ v', r = .returned v' ∧ Ys (Zs S w.heap.size) w' v' (Xw e l) ∧ Zn w w' := by
 obtain ⟨i0, hif, hz0, hz1, hz2⟩ := info_parts Zan;obtain ⟨ao, cp, rfl⟩ := hl.form;have g0 := Zb w (.cells #[.int .i64 e.rc.kind, .int .i64 e.rc.key, .int .i64 e.rc.ver, .slice a e.rc.data.length c, .int .i64 e.pair] 92);have hE0 := Zg w #[.int .i64 e.rc.kind, .int .i64 e.rc.key, .int .i64 e.rc.ver, .slice a e.rc.data.length c, .int .i64 e.pair] 92;obtain ⟨R, hR⟩ : ∃ R, R = Xw e l := ⟨_, rfl⟩;rw [← hR];have HR : Hid _ := hR;clear hR;go_enter Tryz.func60, Tryz.ntmps60;go_wp2_with fail;generalize World.alloc w _ = W at *;go_loopw [5, 6, 11] (fun o dn i wr => ∃ (k : Nat) (css : List (List Value)), k ≤ l.length ∧ i = .int .i64 k ∧ dn = .bool (Q7 e (l.take k)).2 ∧ Yv Y8 S (w.heap.size + 1) o (Q7 e (l.take k)).1 css wr ∧ Zn w wr ∧ wr.heap[w.heap.size]? = some (.cells #[.int .i64 e.rc.kind, .int .i64 e.rc.key, .int .i64 e.rc.ver, .slice a e.rc.data.length c, .int .i64 e.pair] 92 (0, 0))) (fun _ _ i _ => l.length - (intOf i).toNat)
 case atStart => exact ⟨0, [], Nat.zero_le _, rfl, rfl, Yv.nil _ _ _ _, g0, hE0⟩
 case round =>
  clear g0 hE0;obtain ⟨k, css, hk, rfl, rfl, hR, hg, hE⟩ := hrel;have HS2 : Hid (∀ b, S b → b < w.heap.size) := hS;by_cases hlt : k < l.length
  ·obtain ⟨b, off, a1, c1, hv1, q0, q1, q2, q3, q4, hu⟩ := Jb (hl.grow hg) k hlt;cases hv1;have HT : Hid (Q7 e (l.take (k + 1)) = X0 e (Q7 e (l.take k)) l[k]) := Znk e l k hlt;have hxl : (Q7 e (l.take k)).1.length ≤ 2 * k := by have := Zh6 e (l.take k); rw [List.length_take] at this; omega
   generalize l[k] = x at *;generalize Q7 e (l.take k) = st at *;obtain ⟨xs, dn⟩ := st;simp only at hR hxl;obtain ⟨a0, c0, rfl⟩ := hR.form;have g1 := Zb wr (.cells #[.int .i64 x.rc.kind, .int .i64 x.rc.key, .int .i64 x.rc.ver, .slice a1 x.rc.data.length c1, .int .i64 x.pair] 92);have hX1 := Zg wr #[.int .i64 x.rc.kind, .int .i64 x.rc.key, .int .i64 x.rc.ver, .slice a1 x.rc.data.length c1, .int .i64 x.pair] 92;have hR1 := hR.grow g1;have hE1 := (g1.block _ (Za hE)).trans hE;have hu1 := hu.grow g1;have gw1 := hg.trans g1;have he1 := he.grow gw1;have HSZ : Hid (w.heap.size + 1 ≤ wr.heap.size) := Za hE;cases dn with
   | true =>
    have HT2 : Hid (Q7 e (l.take (k + 1)) = (xs ++ [x], true)) := by show _ = _; rw [HT.out]; rfl
    obtain ⟨x0, x1, x2, x3, x4⟩ := Qh hX1 rfl rfl rfl rfl rfl;have hnew : ∀ (j : Nat) u, ([.int .i64 x.rc.kind, .int .i64 x.rc.key, .int .i64 x.rc.ver, .slice a1 x.rc.data.length c1, .int .i64 x.pair] : List Value)[j]? = some u → ((wr.alloc (.cells #[.int .i64 x.rc.kind, .int .i64 x.rc.key, .int .i64 x.rc.ver, .slice a1 x.rc.data.length c1, .int .i64 x.pair] 92)).alloc (.cells #[.int .i64 x.rc.kind, .int .i64 x.rc.key, .int .i64 x.rc.ver, .slice a1 x.rc.data.length c1, .int .i64 x.pair] 92)).cell? ((⟨wr.heap.size + 1, 0, none⟩ : Addr).add j) = some u := by
     intro j u hj;have h := V5 (wr.alloc (.cells #[.int .i64 x.rc.kind, .int .i64 x.rc.key, .int .i64 x.rc.ver, .slice a1 x.rc.data.length c1, .int .i64 x.pair] 92)) _ _ _ _ _ 92 j u hj;rw [World.size_alloc] at h;exact h
    clear hX1 hR hE hu hg g1 HT;go_wp2_with (first | (at_builtin; refine wpList_append_own _ rfl (.tmp 26) (.tmp 28) 27 rfl (w.heap.size + 1) 92 i0 (.agg #[.int .i64 0, .int .i64 0, .int .i64 0, .slice none 0 0, .int .i64 0]) 5 56 Tryz.underlying27 hif hz0 hz1 hz2 rfl (by decide) (.slice a0 xs.length c0) _ _ rfl (hR1.row.alloc _) ⟨wr.heap.size + 1, 0, none⟩ 1 1 [.int .i64 x.rc.kind, .int .i64 x.rc.key, .int .i64 x.rc.ver, .slice a1 x.rc.data.length c1, .int .i64 x.pair] rfl rfl hnew (by intro u hu; simp at hu; rcases hu with rfl | rfl | rfl | rfl | rfl <;> rfl) (by unfold maxLen; omega) (by omega) (by have := HSZ.out; simp; omega) ?_; intro v4 w4 hown4 hgrow4 _; have hR6 := hR1.step (x := x) (by decide) (fun b h => by have := HS2.out b h; omega) ⟨_, rfl, hu1.mono (fun _ h => .inl h)⟩ hgrow4 hown4; have g6 : Zn w w4 := Ya (gw1.trans (Zb _ _)) hgrow4 (fun k hk => by have := (hR1.row.lt k hk).1; omega); have hE6 := (Qe hR1.row hgrow4 (Kh hR1.row (by omega)) (Za hE1)).trans hE1; have hsl := Y4 hown4; obtain ⟨a4, c4, hv4⟩ := hsl; subst hv4; clear hgrow4 hown4 hR1 hnew hE1 gw1 hu1 he1));go_roundw
    case rel => exact ⟨k + 1, _, by omega, by go_num, by rw [HT2.out], by rw [HT2.out]; exact hR6, g6, hE6⟩
    case measure => simp [intOf]; omega
   | false =>
    obtain ⟨x0, x1, x2, x3, x4⟩ := Qh hX1 rfl rfl rfl rfl rfl;obtain ⟨e0, e1, e2, e3, e4⟩ := Qh hE1 rfl rfl rfl rfl rfl;have HNE : Hid (some wr.heap.size ≠ (Value.slice a0 xs.length c0).ownBlock) := Zxb hR.row (Nat.le_refl _);go_wp2_with fail;refine (Zpv e x _ _ _ _ _).mono ?_;cases hls : Y2 e x with
    | true =>
     have HT2 : Hid (Q7 e (l.take (k + 1)) = ((xs ++ [e]) ++ [x], true)) := by show _ = _; rw [HT.out]; simp [X0, hls]
     clear hls;rintro r w2 ⟨rfl, g2⟩;have hX2 := (g2.block _ (Za hX1)).trans hX1;have hE2 := (g2.block _ (Za hE1)).trans hE1;have hR2 := hR1.grow g2;have hu2 := hu1.grow g2;have he2 := he1.grow g2;have gw2 := gw1.trans g2;replace HSZ : Hid (w.heap.size + 1 ≤ w2.heap.size) := Za hE2;clear x0 x1 x2 x3 x4 e0 e1 e2 e3 e4 q0 q1 q2 q3 q4 hX1 hE1 hR hR1 hE hu hu1 he1 hg g1 g2 gw1 HT;obtain ⟨e0, e1, e2, e3, e4⟩ := Qh hE2 rfl rfl rfl rfl rfl;go_wp2_with (first
      | (at_builtin; refine wpList_append_own _ rfl (.tmp 22) (.tmp 24) 27 rfl (w.heap.size + 1) 92 i0 (.agg #[.int .i64 0, .int .i64 0, .int .i64 0, .slice none 0 0, .int .i64 0]) 5 56 Tryz.underlying27 hif hz0 hz1 hz2 rfl (by decide) (.slice a0 xs.length c0) _ _ rfl (hR2.row.alloc _) ⟨w2.heap.size, 0, none⟩ 1 1 [.int .i64 e.rc.kind, .int .i64 e.rc.key, .int .i64 e.rc.ver, .slice a e.rc.data.length c, .int .i64 e.pair] rfl rfl (fun j u hj => V5 w2 _ _ _ _ _ _ j u hj) (by intro u hu; simp at hu; rcases hu with rfl | rfl | rfl | rfl | rfl <;> rfl) (by unfold maxLen; omega) (by omega) (by have := HSZ.out; simp; omega) ?_; intro v4 w4 hown4 hgrow4 _; have hR6 := hR2.step (x := e) (by decide) (fun b h => by have := HS2.out b h; omega) ⟨_, rfl, he2.mono (fun _ h => .inl h)⟩ hgrow4 hown4; have g6 : Zn w w4 := Ya (gw2.trans (Zb _ _)) hgrow4 (fun k hk => by have := (hR2.row.lt k hk).1; omega); have hE6 := (Qe hR2.row hgrow4 (Kh hR2.row (by omega)) (Za hE2)).trans hE2; have hX6 := (Qe hR2.row hgrow4 HNE.out (Za hX2)).trans hX2; have hk6 := Zi4 (S0 := S) hR2.row (by decide) (fun b h => by have := HS2.out b h; omega) hgrow4; have hu6 := hu2.keeps (fun b h1 h2 => hk6 b (.inl h1) h2); have hsl := Y4 hown4; obtain ⟨a4, c4, hv4⟩ := hsl; subst hv4; clear hgrow4 hown4 hR2 hE2 gw2 hu2 he2 hX2 hk6 e0 e1 e2 e3 e4; have hyl : (xs ++ [e]).length = xs.length + 1 := List.length_append; replace HSZ : Hid (w.heap.size + 1 ≤ w4.heap.size) := Za hE6; have x0 := Zc hX6 0 _ rfl; have x1 := Zc hX6 1 _ rfl; have x2 := Zc hX6 2 _ rfl; have x3 := Zc hX6 3 _ rfl; have x4 := Zc hX6 4 _ rfl)
      | (at_builtin; refine wpList_append_own _ rfl (.tmp 26) (.tmp 28) 27 rfl (w.heap.size + 1) 92 i0 (.agg #[.int .i64 0, .int .i64 0, .int .i64 0, .slice none 0 0, .int .i64 0]) 5 56 Tryz.underlying27 hif hz0 hz1 hz2 rfl (by decide) (.slice a4 (xs.length + 1) c4) _ _ rfl (hR6.row.alloc _) ⟨w4.heap.size, 0, none⟩ 1 1 [.int .i64 x.rc.kind, .int .i64 x.rc.key, .int .i64 x.rc.ver, .slice a1 x.rc.data.length c1, .int .i64 x.pair] rfl rfl (fun j u hj => V5 w4 _ _ _ _ _ _ j u hj) (by intro u hu; simp at hu; rcases hu with rfl | rfl | rfl | rfl | rfl <;> rfl) (by unfold maxLen; omega) (by omega) (by have := HSZ.out; simp; omega) ?_; intro v7 w7 hown7 hgrow7 _; have hR9 := hR6.step (x := x) (by decide) (fun b h => by have := HS2.out b h; omega) ⟨_, rfl, hu6.mono (fun _ h => .inl h)⟩ hgrow7 hown7; have g9 : Zn w w7 := Ya (g6.trans (Zb _ _)) hgrow7 (fun k hk => by have := (hR6.row.lt k hk).1; omega); have hE9 := (Qe hR6.row hgrow7 (Kh hR6.row (by omega)) (Za hE6)).trans hE6; have hsl7 := Y4 hown7; obtain ⟨a7, c7, hv7⟩ := hsl7; subst hv7; clear hgrow7 hown7 hR6 hE6 g6 hu6 hX6 x0 x1 x2 x3 x4))
     go_roundw
     case rel => exact ⟨k + 1, _, by omega, by go_num, by rw [HT2.out], by rw [HT2.out]; rw [hyl] at hR9; exact hR9, g9, hE9⟩
     case measure => simp [intOf]; omega
    | false =>
     have HT2 : Hid (Q7 e (l.take (k + 1)) = (xs ++ [x], false)) := by show _ = _; rw [HT.out]; simp [X0, hls]
     clear hls;rintro r w2 ⟨rfl, g2⟩;have hX2 := (g2.block _ (Za hX1)).trans hX1;have hE2 := (g2.block _ (Za hE1)).trans hE1;have hR2 := hR1.grow g2;have hu2 := hu1.grow g2;have gw2 := gw1.trans g2;replace HSZ : Hid (w.heap.size + 1 ≤ w2.heap.size) := Za hE2;clear x0 x1 x2 x3 x4 e0 e1 e2 e3 e4 q0 q1 q2 q3 q4 hX1 hE1 hR hR1 hE hu hu1 he1 hg g1 g2 gw1 HT;obtain ⟨x0, x1, x2, x3, x4⟩ := Qh hX2 rfl rfl rfl rfl rfl;go_wp2_with (first
      | (at_builtin; refine wpList_append_own _ rfl (.tmp 26) (.tmp 28) 27 rfl (w.heap.size + 1) 92 i0 (.agg #[.int .i64 0, .int .i64 0, .int .i64 0, .slice none 0 0, .int .i64 0]) 5 56 Tryz.underlying27 hif hz0 hz1 hz2 rfl (by decide) (.slice a0 xs.length c0) _ _ rfl (hR2.row.alloc _) ⟨w2.heap.size, 0, none⟩ 1 1 [.int .i64 x.rc.kind, .int .i64 x.rc.key, .int .i64 x.rc.ver, .slice a1 x.rc.data.length c1, .int .i64 x.pair] rfl rfl (fun j u hj => V5 w2 _ _ _ _ _ _ j u hj) (by intro u hu; simp at hu; rcases hu with rfl | rfl | rfl | rfl | rfl <;> rfl) (by unfold maxLen; omega) (by omega) (by have := HSZ.out; simp; omega) ?_; intro v4 w4 hown4 hgrow4 _; have hR6 := hR2.step (x := x) (by decide) (fun b h => by have := HS2.out b h; omega) ⟨_, rfl, hu2.mono (fun _ h => .inl h)⟩ hgrow4 hown4; have g6 : Zn w w4 := Ya (gw2.trans (Zb _ _)) hgrow4 (fun k hk => by have := (hR2.row.lt k hk).1; omega); have hE6 := (Qe hR2.row hgrow4 (Kh hR2.row (by omega)) (Za hE2)).trans hE2; have hsl := Y4 hown4; obtain ⟨a4, c4, hv4⟩ := hsl; subst hv4; clear hgrow4 hown4 hR2 hE2 gw2 hu2 hX2 x0 x1 x2 x3 x4))
     go_roundw
     case rel => exact ⟨k + 1, _, by omega, by go_num, by rw [HT2.out], by rw [HT2.out]; exact hR6, g6, hE6⟩
     case measure => simp [intOf]; omega
  ·have hk' : k = l.length := by omega
   subst hk';rw [List.take_length] at hR;have HRE : Hid (Xw e l = if (Q7 e l).2 = true then (Q7 e l).1 else (Q7 e l).1 ++ [e]) := rfl;have hxl : (Q7 e l).1.length ≤ 2 * l.length := Zh6 e l;have HL : Hid (l.take l.length = l) := List.take_length;rw [HL.out];generalize Q7 e l = st at *;obtain ⟨xs, dn⟩ := st;simp only at hR hxl;obtain ⟨a0, c0, rfl⟩ := hR.form;have HSZ : Hid (w.heap.size + 1 ≤ wr.heap.size) := Za hE;have he1 := he.grow hg;cases dn with
   | true =>
    have hRR : R = xs := by rw [HR.out, HRE.out, if_pos rfl]
    subst hRR;have hfin := hR.slice.mono (Zw (B := w.heap.size) (by omega));clear hR hE;go_wp2_with fail;go_ret;exact ⟨_, rfl, hfin, hg⟩
   | false =>
    have hRR : R = xs ++ [e] := by rw [HR.out, HRE.out, if_neg (by simp)]
    subst hRR;obtain ⟨e0, e1, e2, e3, e4⟩ := Qh hE rfl rfl rfl rfl rfl;go_wp2_with (first
     | (at_builtin; refine wpList_append_own _ rfl (.tmp 33) (.tmp 35) 27 rfl (w.heap.size + 1) 92 i0 (.agg #[.int .i64 0, .int .i64 0, .int .i64 0, .slice none 0 0, .int .i64 0]) 5 56 Tryz.underlying27 hif hz0 hz1 hz2 rfl (by decide) (.slice a0 xs.length c0) _ _ rfl (hR.row.alloc _) ⟨wr.heap.size, 0, none⟩ 1 1 [.int .i64 e.rc.kind, .int .i64 e.rc.key, .int .i64 e.rc.ver, .slice a e.rc.data.length c, .int .i64 e.pair] rfl rfl (fun j u hj => V5 wr _ _ _ _ _ _ j u hj) (by intro u hu; simp at hu; rcases hu with rfl | rfl | rfl | rfl | rfl <;> rfl) (by unfold maxLen; omega) (by omega) (by have := HSZ.out; simp; omega) ?_; intro v4 w4 hown4 hgrow4 _; have hR6 := hR.step (x := e) (by decide) (fun b h => by have := HS2.out b h; omega) ⟨_, rfl, he1.mono (fun _ h => .inl h)⟩ hgrow4 hown4; have g6 : Zn w w4 := Ya (hg.trans (Zb _ _)) hgrow4 (fun k hk => by have := (hR.row.lt k hk).1; omega); have hsl := Y4 hown4; obtain ⟨a4, c4, hv4⟩ := hsl; subst hv4; clear hgrow4 hown4 hR hE hg he1 e0 e1 e2 e3 e4))
    have hfin := hR6.slice.mono (Zw (B := w.heap.size) (by omega));go_ret;exact ⟨_, rfl, hfin, g6⟩
end Go.Proofs.YtpdnapbchcdhlacGreat
