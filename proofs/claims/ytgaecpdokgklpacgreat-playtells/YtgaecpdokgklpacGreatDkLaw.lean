import Derived.Test.YtgaecpdokgklpacGreatRPut
set_option maxHeartbeats 8000000
namespace Go.Proofs.YtgaecpdokgklpacGreat
set_option maxRecDepth 100000
open Plain
def Dk.keepTo (d : Dk) (on : Nat → Bool) : Nat → List (List UInt8)
 | 0 => d.blocks
 | k + 1 => if on k = true then (d.keepTo on k).set (d.late.getD k (0, [])).1.toNat (d.late.getD k (0, [])).2 else d.keepTo on k
def Vo (bits : Int) (k : Nat) : Bool := decide (k < 60) && ((bits % 18446744073709551616).toNat / 2 ^ k % 2 == 1)
def Dk.keep (d : Dk) (bits : Int) : Dk := ⟨d.keepTo (Vo bits) d.late.length, []⟩
def Dk.flush (d : Dk) : Dk := ⟨d.keepTo (fun _ => true) d.late.length, []⟩
def Qe (b : List UInt8) (n : Int) (y : Int) : List UInt8 := if 0 ≤ n ∧ n < (b.length : Int) then b.set n.toNat (b.getD n.toNat 0 ^^^ lo y) else b
def Dk.spoil (d : Dk) (a n y : Int) : Dk := if 0 ≤ a ∧ a < (d.blocks.length : Int) then ⟨d.blocks.set a.toNat (Qe (d.blocks.getD a.toNat []) n y), d.late⟩ else d
def Dk.new : Dk := ⟨(List.range 12).map fun (i : Nat) => blk ⟨1, 0, 0, []⟩ (i : Int), []⟩
theorem Qv {α : Type} (l : List α) (i : Nat) (x : α) (h : i < l.length) : l.getD i x = l[i] := by
 rw [List.getD_eq_getElem?_getD, List.getElem?_eq_getElem h]; rfl
theorem Q4 {α : Type} (l : List α) (i j : Nat) (y x : α) (h : i < l.length) : (l.set j y).getD i x = if j = i then y else l.getD i x := by
 rw [List.getD_eq_getElem?_getD, List.getD_eq_getElem?_getD, List.getElem?_set];by_cases hj : j = i
 ·subst hj; simp [h]
 ·simp [hj]
theorem Dk.keepTo_length (d : Dk) (on : Nat → Bool) : ∀ k, (d.keepTo on k).length = d.blocks.length
 | 0 => rfl
 | k + 1 => by
  show (if on k = true then _ else _ : List (List UInt8)).length = _;split
  ·rw [List.length_set]; exact keepTo_length d on k
  ·exact keepTo_length d on k
theorem Dk.keepTo_some (d : Dk) (on : Nat → Bool) (hl : ∀ x ∈ d.late, 0 ≤ x.1) (a : Nat) (ha : a < d.blocks.length) : ∀ k, k ≤ d.late.length →
  (d.keepTo on k).getD a [] = d.blocks.getD a [] ∨ ∃ i, ∃ (hi : i < d.late.length), d.late[i].1 = (a : Int) ∧ d.late[i].2 = (d.keepTo on k).getD a []
 | 0, _ => .inl rfl
 | k + 1, hk => by
  have ih := keepTo_some d on hl a ha k (by omega);show (if on k = true then _ else _ : List (List UInt8)).getD a [] = _ ∨ ∃ i, ∃ (hi : i < d.late.length), d.late[i].1 = (a : Int) ∧ d.late[i].2 = (if on k = true then _ else _ : List (List UInt8)).getD a [];split
  ·rw [Q4 _ _ _ _ _ (by rw [Dk.keepTo_length]; exact ha), Qv d.late k _ (by omega)];by_cases h : d.late[k].1.toNat = a
   ·rw [if_pos h];exact .inr ⟨k, by omega, by have := hl d.late[k] (List.getElem_mem _); omega, rfl⟩
   ·rw [if_neg h]; exact ih
  ·exact ih
theorem Dk.keepTo_last (d : Dk) (hl : ∀ x ∈ d.late, 0 ≤ x.1) (a : Nat) (ha : a < d.blocks.length) : ∀ k, k ≤ d.late.length →
  (d.keepTo (fun _ => true) k).getD a [] = (Qu (d.late.take k) (a : Int)).getD (d.blocks.getD a [])
 | 0, _ => by simp [Dk.keepTo, Qu]
 | k + 1, hk => by
  have ih := keepTo_last d hl a ha k (by omega);show ((d.keepTo (fun _ => true) k).set _ _).getD a [] = _;rw [Q4 _ _ _ _ _ (by rw [Dk.keepTo_length]; exact ha), Qv d.late k _ (by omega), Zcd _ _ _ (by omega)];have h0 := hl d.late[k] (List.getElem_mem _);by_cases h : d.late[k].1 = (a : Int)
  ·rw [if_pos (by omega), if_pos h]; rfl
  ·rw [if_neg (by omega), if_neg h]; exact ih
theorem Dk.flush_length (d : Dk) : d.flush.blocks.length = d.blocks.length := d.keepTo_length _ _
theorem Dk.flush_get (d : Dk) (hl : ∀ x ∈ d.late, 0 ≤ x.1) (a : Int) : d.flush.get a = d.get a := by
 unfold Dk.get;rw [Dk.flush_length];by_cases h : a < 0 ∨ (d.blocks.length : Int) ≤ a
 ·rw [if_pos h, if_pos h]
 ·rw [if_neg h, if_neg h];have hk := d.keepTo_last hl a.toNat (by omega) d.late.length (Nat.le_refl _);rw [List.take_length, show ((a.toNat : Nat) : Int) = a from by omega] at hk;show some ((Qu [] a).getD ((d.keepTo (fun _ => true) d.late.length).getD a.toNat [])) = _;rw [hk]; rfl
theorem Dk.flush_map (d : Dk) (hl : ∀ x ∈ d.late, 0 ≤ x.1) : d.flush.blocks = (List.range d.blocks.length).map fun (i : Nat) => (d.get (i : Int)).getD [] := by
 refine List.ext_getElem (by simp [Dk.flush_length]) fun i h1 h2 => ?_;rw [Dk.flush_length] at h1;rw [List.getElem_map, List.getElem_range, ← d.flush_get hl, Dk.get, if_neg (by rw [Dk.flush_length]; omega)];show _ = (Qu [] (i : Int)).getD (d.flush.blocks.getD (i : Int).toNat []);rw [show ((i : Int)).toNat = i from by omega, Qv _ _ _ (by rw [Dk.flush_length]; exact h1)]; rfl
theorem Dk.put_get (d : Dk) (a : Int) (b : List UInt8) (h0 : 0 ≤ a) (h1 : a < (d.blocks.length : Int)) : (d.put a b).get a = some b := by
 unfold Dk.get Dk.put;rw [if_neg (by show ¬ _; simp only; omega)];simp only [Zce, if_pos]; rfl
theorem Dk.put_other (d : Dk) (a o : Int) (b : List UInt8) (h : o ≠ a) : (d.put a b).get o = d.get o := by
 unfold Dk.get Dk.put;simp only [Zce, if_neg (fun h' : a = o => h h'.symm)]
end Go.Proofs.YtgaecpdokgklpacGreat
namespace Go.Proofs.YtgaecpdokgklpacGreat
set_option maxRecDepth 100000
open Go.RowKit
open Plain Reg
theorem Z3.keep {S : Nat → Prop} {w w' : World} {v : Value} {l : List UInt8} (h : Z3 S w v l) (hk : ∀ b, S b → w'.heap[b]? = w.heap[b]?) : Z3 S w' v l := by
 rcases h with h | ⟨b, off, cap, hS, rfl, h1, hc⟩
 ·exact .inl h
 ·refine .inr ⟨b, off, cap, hS, rfl, h1, fun i hi => ?_⟩;rw [← hc i hi];simp only [World.cell?, hk b hS]
def InS (S0 : Nat → Prop) (B : Nat) (w : World) (b : Nat) : Prop := S0 b ∨ (B ≤ b ∧ ∃ c f, w.heap[b]? = some (.cells c 5 f))
theorem InS.grow {S0 : Nat → Prop} {B : Nat} {w w' : World} (hg : Zo w w') (b : Nat) (h : InS S0 B w b) : InS S0 B w' b :=
 Xm h (fun x => x) fun ⟨h1, c, f, h2⟩ => ⟨h1, c, f, (hg.block _ (Za h2)).trans h2⟩
theorem InS.upon {S0 : Nat → Prop} {B : Nat} {w : World} (b : Nat) (h : InS S0 B w b) : Zw S0 B b := Xm h (fun x => x) fun h => h.1
theorem Zdo {w : World} {base B : Nat} {v : Value} {l : List UInt8} (S0 : Nat → Prop) (hb : B ≤ base) (h : w.ownsRow base 5 1 v l.length (l.map bv)) : Z3 (InS S0 B w) w v l := by
 rcases h.2 with ⟨rfl, h0⟩ | ⟨q, cap, cur, rfl, hq, hh, h1, h2, h3, h4⟩
 ·exact .inl ⟨none, 0, rfl, List.eq_nil_of_length_eq_zero h0, fun _ => rfl⟩
 ·refine .inr ⟨q, 0, cap, .inr ⟨by omega, _, _, hh⟩, rfl, h1, fun i hi => ?_⟩;have := h.cellAt i (by omega);rw [Nat.zero_add, this];simp [hi, bv]
def Zac (S0 : Nat → Prop) (B g : Nat) (lv : Value) (bs : List (List UInt8)) (w : World) : Prop :=
 ∃ v us, w.heap[g]? = some (.cells #[v, lv] 26 (0, 0)) ∧ us.length = bs.length ∧ (∀ i (hi : i < bs.length), ∃ u, us[i]? = some u ∧ Z3 (InS S0 B w) w u bs[i]) ∧ w.ownsRow B 45 1 v bs.length us
theorem Zac.grow {S0 : Nat → Prop} {B g : Nat} {lv : Value} {bs : List (List UInt8)} {w w' : World} (h : Zac S0 B g lv bs w) (hg : Zo w w') : Zac S0 B g lv bs w' := by
 obtain ⟨v, us, h3, h4, h5, h6⟩ := h;exact ⟨v, us, (hg.block _ (Za h3)).trans h3, h4, fun i hi => (h5 i hi).imp fun u hu => ⟨hu.1, (hu.2.grow hg).mono (InS.grow hg)⟩, Z5 h6 hg⟩
theorem Zac.start {S0 : Nat → Prop} {B g : Nat} {lv : Value} {w : World} (h : w.heap[g]? = some (.cells #[.slice none 0 0, lv] 26 (0, 0))) : Zac S0 B g lv [] w :=
 ⟨.slice none 0 0, [], h, rfl, fun i hi => by simp at hi, rfl, .inl ⟨rfl, rfl⟩⟩
theorem Zlv {S0 : Nat → Prop} {B : Nat} {v : Value} {us : List Value} {bs : List (List UInt8)} {w : World} (h5 : ∀ i (hi : i < bs.length), ∃ u, us[i]? = some u ∧ Z3 (InS S0 B w) w u bs[i]) (h6 : w.ownsRow B 45 1 v bs.length us) : Y2 (Zw S0 B) w v bs := by
 rcases h6.2 with ⟨rfl, h0⟩ | ⟨q, cap, cur, rfl, hb, hh, k1, k2, k3, k4⟩
 ·exact .inl ⟨none, 0, rfl, List.eq_nil_of_length_eq_zero h0, fun _ => rfl⟩
 ·refine .inr ⟨q, 0, cap, .inr hb, rfl, k1, fun i hi => ?_⟩;have c0 := h6.cellAt i (by omega);obtain ⟨u, hu1, hu2⟩ := h5 i hi;rw [hu1] at c0;exact ⟨u, by rw [Nat.zero_add]; exact c0, hu2.mono InS.upon⟩
theorem Zac.blocks {S0 : Nat → Prop} {B g : Nat} {lv : Value} {bs : List (List UInt8)} {w : World} (h : Zac S0 B g lv bs w) : ∃ v, w.heap[g]? = some (.cells #[v, lv] 26 (0, 0)) ∧ Y2 (Zw S0 B) w v bs := by
 obtain ⟨v, us, h3, h4, h5, h6⟩ := h;exact ⟨v, h3, Zlv h5 h6⟩
theorem K3 : (Tryz.prog.info? 45).map (fun i => (i.zero, i.size, i.bytes)) = some (some (.slice none 0 0), 1, 24) := by kernel_rfl
theorem Zfk (w : World) (x : Value) (e : TypeId) (j : Nat) (u : Value) (h : [x][j]? = some u) : (w.alloc (.cells #[x] e)).cell? ((⟨w.heap.size, 0, none⟩ : Addr).add j) = some u := by
 match j, h with
 | 0, h => simp at h; subst h; simp [Addr.add]
 | j + 1, h => simp at h
theorem Zif {B n : Nat} {e T : TypeId} {v : Value} {us : List Value} {w : World} {b : Nat} {c f} (h : w.ownsRow B e 1 v n us) (hne : e ≠ T) (hb : w.heap[b]? = some (.cells c T f)) : some b ≠ v.ownBlock := by
 rcases h.2 with ⟨rfl, _⟩ | ⟨q, cap, cur, rfl, _, hq, _⟩
 ·simp [Value.ownBlock]
 ·intro e1;simp [Value.ownBlock] at e1;subst e1;rw [hb] at hq; cases hq; exact hne rfl
theorem Zbm {w : World} {base g n i : Nat} {e T : TypeId} {c f} {v x : Value} {xs : List Value} (h : w.ownsRow base e 1 v n xs) (hg : w.heap[g]? = some (.cells c T f)) (hT : e ≠ T) : (w.setCell ⟨g, i, none⟩ x).ownsRow base e 1 v n xs := by
 refine ⟨h.1, Xm h.2 (fun x => x) fun ⟨q, cap, cur, h1, h2, h3, r⟩ => ⟨q, cap, cur, h1, h2, ?_, r⟩⟩;rw [Below.heap_setCell _ _ _ _ (by rintro rfl; rw [hg] at h3; cases h3; exact hT rfl)];exact h3
theorem Zdp {B n : Nat} {v : Value} {us : List Value} {w w3 : World} {o : Obj} (hle : B ≤ w.heap.size) (hown : w.ownsRow B 45 1 v n us) (hg : (w.alloc o).grownBy w3 v.ownBlock) : Below B w w3 :=
 Below.grown (Below.alloc (Below.refl _ _) hle o) hg (by simp; omega) (fun k hk => (hown.lt k hk).1)
theorem Zep {B n b : Nat} {v : Value} {us : List Value} {T : TypeId} {c f} {w w3 : World} {o : Obj} (hown : w.ownsRow B 45 1 v n us) (hT : 45 ≠ T) (hb : w.heap[b]? = some (.cells c T f)) (hg : (w.alloc o).grownBy w3 v.ownBlock) : w3.heap[b]? = some (.cells c T f) :=
 (hg.block _ (by have := Za hb; simp; omega) (Zif hown hT hb)).trans (((Zc w o).block _ (Za hb)).trans hb)
theorem Zac.step {S0 : Nat → Prop} {B g : Nat} {lv v v' u : Value} {us : List Value} {bs : List (List UInt8)} {b : List UInt8} {w w3 : World} {o : Obj} (h3 : w.heap[g]? = some (.cells #[v, lv] 26 (0, 0))) (h4 : us.length = bs.length)
  (h5 : ∀ i (hi : i < bs.length), ∃ u, us[i]? = some u ∧ Z3 (InS S0 B w) w u bs[i]) (h6 : w.ownsRow B 45 1 v bs.length us) (hS0 : ∀ b, S0 b → b < B ∧ b ≠ g) (hle : B ≤ w.heap.size) (hu : Z3 (InS S0 B w) w u b)
  (hg : (w.alloc o).grownBy w3 v.ownBlock) (hown : w3.ownsRow B 45 1 v' (bs.length + 1) (us ++ [u])) : Zac S0 B g lv (bs ++ [b]) (w3.setCell ⟨g, 0, none⟩ v') := by
 have hbx := Zep h6 (by decide) h3 hg;have keep : ∀ b, InS S0 B w b → (w3.setCell ⟨g, 0, none⟩ v').heap[b]? = w.heap[b]? := by
  intro b hSb;have hne : b ≠ g := by
   rcases hSb with h | ⟨_, c, f, h⟩
   ·exact (hS0 _ h).2
   ·rintro rfl; rw [h3] at h; cases h
  have hlt : b < w.heap.size := by
   rcases hSb with h | ⟨_, c, f, h⟩
   ·have := (hS0 _ h).1; omega
   ·exact Za h
  have hrow : some b ≠ v.ownBlock := by
   rcases hSb with h | ⟨_, c, f, h⟩
   ·intro e; have := (h6.lt b e.symm).1; have := (hS0 _ h).1; omega
   ·exact Zif h6 (by decide) h
  rw [Below.heap_setCell _ _ _ _ hne];exact (hg.block _ (by simp; omega) hrow).trans ((Zc w o).block _ hlt)
 have keep' : ∀ b, InS S0 B w b → InS S0 B (w3.setCell ⟨g, 0, none⟩ v') b := fun b h => Xm h (fun x => x) fun ⟨k1, c, f, k2⟩ => ⟨k1, c, f, (keep b h).trans k2⟩
 refine ⟨v', us ++ [u], ?_, by simp [h4], fun i hi => ?_, ?_⟩
 ·have := Yg hbx 0 v';simpa using this
 ·by_cases hi2 : i < bs.length
  ·obtain ⟨x, e1, e2⟩ := h5 i hi2;refine ⟨x, by rw [List.getElem?_append_left (by omega)]; exact e1, ?_⟩;rw [List.getElem_append_left hi2];exact (e2.keep keep).mono keep'
  ·have e : i = bs.length := by simp at hi; omega
   subst e;refine ⟨u, by rw [← h4]; simp, ?_⟩;have hu' := (hu.keep keep).mono keep';simpa using hu'
 ·have := Zbm (i := 0) (x := v') hown hbx (by decide);simpa using this
structure Qk (α : Type) where
 T : TypeId
 size : Nat
 enc : (Nat → Prop) → World → α → List Value → Prop
 len : ∀ {S : Nat → Prop} {w : World} {x : α} {cs : List Value}, enc S w x cs → cs.length = size
 keep : ∀ {S : Nat → Prop} {w w' : World} {x : α} {cs : List Value}, enc S w x cs → (∀ b, S b → b < w.heap.size → w'.heap[b]? = w.heap[b]?) → enc S w' x cs
 mono : ∀ {S S' : Nat → Prop} {w : World} {x : α} {cs : List Value}, enc S w x cs → (∀ b, S b → S' b) → enc S' w x cs
 cap : ∀ {S : Nat → Prop} {w : World} {x : α} {cs : List Value}, enc S w x cs → enc (fun b => S b ∧ b < w.heap.size) w x cs
 one : ∀ {S : Nat → Prop} {w : World} {x : α} {cs : List Value}, enc S w x cs → ∀ u ∈ cs, u.oneCell' = true
theorem Z3.keeps {S : Nat → Prop} {w w' : World} {v : Value} {l : List UInt8} (h : Z3 S w v l) (hk : ∀ b, S b → b < w.heap.size → w'.heap[b]? = w.heap[b]?) : Z3 S w' v l := by
 rcases h with h | ⟨b, off, cap, hS, rfl, h1, hc⟩
 ·exact .inl h
 ·refine .inr ⟨b, off, cap, hS, rfl, h1, fun i hi => ?_⟩;have h2 := hc i hi;rw [← h2];simp only [World.cell?, hk b hS (Zu h2)]
theorem Z3.caps {S : Nat → Prop} {w : World} {v : Value} {l : List UInt8} (h : Z3 S w v l) : Z3 (fun b => S b ∧ b < w.heap.size) w v l := by
 by_cases h0 : l = []
 ·subst h0;rcases h with h | ⟨b, off, cap, hS, rfl, h1, hc⟩
  ·exact .inl h
  ·exact .inl ⟨_, cap, rfl, rfl, fun h => by cases h⟩
 ·rcases h with ⟨_, _, _, h1, _⟩ | ⟨b, off, cap, hS, h2, h1, hc⟩
  ·exact absurd h1 h0
  ·exact .inr ⟨b, off, cap, ⟨hS, Zu (hc 0 (List.length_pos_iff.2 h0))⟩, h2, h1, hc⟩
theorem Z3.form {S : Nat → Prop} {w : World} {v : Value} {l : List UInt8} (h : Z3 S w v l) : ∃ ao cap, v = .slice ao l.length cap := by
 rcases h with ⟨ao, cap, rfl, rfl, _⟩ | ⟨b, off, cap, _, rfl, _⟩
 ·exact ⟨ao, cap, rfl⟩
 ·exact ⟨_, cap, rfl⟩
theorem Z3.one {S : Nat → Prop} {w : World} {v : Value} {l : List UInt8} (h : Z3 S w v l) : v.oneCell' = true := by
 obtain ⟨ao, cap, rfl⟩ := h.form; rfl
def Z9 {α : Type} (sh : Qk α) (S : Nat → Prop) (w : World) (v : Value) (xs : List α) : Prop :=
 (∃ ao cap, v = .slice ao 0 cap ∧ xs = [] ∧ (ao = none → cap = 0)) ∨
 (∃ b off cap, S b ∧ v = .slice (some ⟨b, off, none⟩) xs.length cap ∧ xs.length ≤ cap ∧ ∀ (i : Nat) (h : i < xs.length), ∃ cs, sh.enc S w xs[i] cs ∧ ∀ (j : Nat) (u : Value), cs[j]? = some u → w.cell? ⟨b, off + i * sh.size + j, none⟩ = some u)
theorem Z9.keep {α : Type} {sh : Qk α} {S : Nat → Prop} {w w' : World} {v : Value} {xs : List α} (h : Z9 sh S w v xs) (hk : ∀ b, S b → b < w.heap.size → w'.heap[b]? = w.heap[b]?) : Z9 sh S w' v xs := by
 rcases h with h | ⟨b, off, cap, hS, rfl, h1, hc⟩
 ·exact .inl h
 ·refine .inr ⟨b, off, cap, hS, rfl, h1, fun i hi => ?_⟩;obtain ⟨cs, h2, h3⟩ := hc i hi;refine ⟨cs, sh.keep h2 hk, fun j u hj => ?_⟩;have h4 := h3 j u hj;rw [← h4];simp only [World.cell?, hk b hS (Zu h4)]
theorem Z9.grow {α : Type} {sh : Qk α} {S : Nat → Prop} {w w' : World} {v : Value} {xs : List α} (h : Z9 sh S w v xs) (hg : Zo w w') : Z9 sh S w' v xs := h.keep fun b _ hb => hg.block b hb
theorem Z9.but {α : Type} {sh : Qk α} {S : Nat → Prop} {g : Nat} {w w' : World} {v : Value} {xs : List α} (h : Z9 sh S w v xs) (hg : Zr g w w') (hn : ¬ S g) : Z9 sh S w' v xs := h.keep fun b hS hb => hg.block b hb (by rintro rfl; exact hn hS)
theorem Z9.mono {α : Type} {sh : Qk α} {S S' : Nat → Prop} {w : World} {v : Value} {xs : List α} (h : Z9 sh S w v xs) (hS : ∀ b, S b → S' b) : Z9 sh S' w v xs := by
 rcases h with h | ⟨b, off, cap, hb, rfl, h1, hc⟩
 ·exact .inl h
 ·exact .inr ⟨b, off, cap, hS b hb, rfl, h1, fun i hi => (hc i hi).imp fun _ x => ⟨sh.mono x.1 hS, x.2⟩⟩
theorem Z9.form {α : Type} {sh : Qk α} {S : Nat → Prop} {w : World} {v : Value} {xs : List α} (h : Z9 sh S w v xs) : ∃ ao cap, v = .slice ao xs.length cap := by
 rcases h with ⟨ao, cap, rfl, rfl, _⟩ | ⟨b, off, cap, _, rfl, _⟩
 ·exact ⟨ao, cap, rfl⟩
 ·exact ⟨_, cap, rfl⟩
theorem Z9.nil {α : Type} (sh : Qk α) (S : Nat → Prop) (w : World) : Z9 sh S w (.slice none 0 0) [] := .inl ⟨none, 0, rfl, rfl, fun _ => rfl⟩
theorem Z9.at {α : Type} {sh : Qk α} {S : Nat → Prop} {w : World} {ao : Option Addr} {n cap : Nat} {xs : List α} (h : Z9 sh S w (.slice ao n cap) xs) (i : Nat) (hi : i < xs.length) :
  ∃ b off, ao = some ⟨b, off, none⟩ ∧ S b ∧ ∃ cs, sh.enc S w xs[i] cs ∧ ∀ (j : Nat) (u : Value), cs[j]? = some u → w.cell? ⟨b, off + i * sh.size + j, none⟩ = some u := by
 rcases h with ⟨_, _, _, rfl, _⟩ | ⟨b, off, cp, hS, h2, h3, h4⟩
 ·simp at hi
 ·cases h2;exact ⟨b, off, rfl, hS, h4 i hi⟩
theorem Z9.sub {α : Type} {sh : Qk α} {S : Nat → Prop} {w : World} {b off n cap : Nat} {xs : List α} (h : Z9 sh S w (.slice (some ⟨b, off, none⟩) n cap) xs) (lo hi : Nat) (h1 : lo ≤ hi) (h2 : hi ≤ xs.length) (cap' : Nat) (hc : hi - lo ≤ cap') :
  Z9 sh S w (.slice (some ⟨b, off + lo * sh.size, none⟩) (hi - lo) cap') ((xs.drop lo).take (hi - lo)) := by
 have hl : ((xs.drop lo).take (hi - lo)).length = hi - lo := by simp; omega
 by_cases h0 : hi - lo = 0
 ·rw [h0];exact .inl ⟨_, cap', rfl, by simp, fun h => by cases h⟩
 ·rcases h with ⟨_, _, _, rfl, _⟩ | ⟨b', off', cp, hS, h3, h4, h5⟩
  ·simp at h2; omega
  ·cases h3;refine .inr ⟨b, off + lo * sh.size, cap', hS, by rw [hl], by rw [hl]; exact hc, fun i hi2 => ?_⟩;rw [hl] at hi2;obtain ⟨cs, k1, k2⟩ := h5 (lo + i) (by omega);refine ⟨cs, ?_, fun j u hj => ?_⟩
   ·rw [List.getElem_take, List.getElem_drop]; exact k1
   ·have := k2 j u hj;rw [Nat.add_mul] at this;rw [show off + lo * sh.size + i * sh.size + j = off + (lo * sh.size + i * sh.size) + j from by omega];exact this
theorem Z9.caps {α : Type} {sh : Qk α} {S : Nat → Prop} {w : World} {v : Value} {xs : List α} (h : Z9 sh S w v xs) (hs : 0 < sh.size) : Z9 sh (fun b => S b ∧ b < w.heap.size) w v xs := by
 by_cases h0 : xs = []
 ·subst h0;rcases h with h | ⟨b, off, cap, hS, rfl, h1, hc⟩
  ·exact .inl h
  ·exact .inl ⟨_, cap, rfl, rfl, fun h => by cases h⟩
 ·rcases h with ⟨_, _, _, h1, _⟩ | ⟨b, off, cap, hS, h2, h1, hc⟩
  ·exact absurd h1 h0
  ·refine .inr ⟨b, off, cap, ⟨hS, ?_⟩, h2, h1, fun i hi => (hc i hi).imp fun _ x => ⟨sh.cap x.1, x.2⟩⟩;obtain ⟨cs, k1, k2⟩ := hc 0 (List.length_pos_iff.2 h0);have hl := sh.len k1;have := k2 0 cs[0] (List.getElem?_eq_getElem (by omega));exact Zu this
theorem K4 {α : Type} {k : Nat} : ∀ (css : List (List α)) (i j : Nat) (cs : List α), (∀ c ∈ css, c.length = k) → css[i]? = some cs → j < k → css.flatten[i * k + j]? = cs[j]?
 | [], i, j, cs, _, h, _ => by simp at h
 | c :: css, 0, j, cs, hl, h, hj => by
  simp only [List.getElem?_cons_zero, Option.some.injEq] at h;subst h;have := hl c (by simp);rw [List.flatten_cons, Nat.zero_mul, Nat.zero_add, List.getElem?_append_left (by omega)]
 | c :: css, i + 1, j, cs, hl, h, hj => by
  have h1 := hl c (by simp);have ih := K4 css i j cs (fun c hc => hl c (by simp [hc])) (by simpa using h) hj;rw [List.flatten_cons, List.getElem?_append_right (by rw [h1, Nat.add_mul]; omega), h1, ← ih]
  congr 1
  rw [Nat.add_mul]; omega
structure Yt {α : Type} (sh : Qk α) (S0 : Nat → Prop) (B : Nat) (v : Value) (xs : List α) (css : List (List Value)) (w : World) : Prop where
 len : css.length = xs.length
 each : ∀ i (hi : i < xs.length), ∃ cs, css[i]? = some cs ∧ sh.enc (InS S0 B w) w xs[i] cs
 row : w.ownsRow B sh.T sh.size v xs.length css.flatten
theorem Yt.nil {α : Type} (sh : Qk α) (S0 : Nat → Prop) (B : Nat) (w : World) : Yt sh S0 B (.slice none 0 0) [] [] w := ⟨rfl, fun i hi => by simp at hi, World.ownsRow_nil _ _ _ _⟩
theorem Yt.grow {α : Type} {sh : Qk α} {S0 : Nat → Prop} {B : Nat} {v : Value} {xs : List α} {css : List (List Value)} {w w' : World} (h : Yt sh S0 B v xs css w) (hg : Zo w w') : Yt sh S0 B v xs css w' :=
 ⟨h.len, fun i hi => (h.each i hi).imp fun _ x => ⟨x.1, sh.mono (sh.keep x.2 fun b _ hb => hg.block b hb) (InS.grow hg)⟩, Z5 h.row hg⟩
theorem Yt.form {α : Type} {sh : Qk α} {S0 : Nat → Prop} {B : Nat} {v : Value} {xs : List α} {css : List (List Value)} {w : World} (h : Yt sh S0 B v xs css w) : ∃ ao cap, v = .slice ao xs.length cap := Y4 h.row
theorem Yt.slice {α : Type} {sh : Qk α} {S0 : Nat → Prop} {B : Nat} {v : Value} {xs : List α} {css : List (List Value)} {w : World} (h : Yt sh S0 B v xs css w) : Z9 sh (Zw S0 B) w v xs := by
 have hlen : ∀ c ∈ css, c.length = sh.size := by
  intro c hc;obtain ⟨i, hi, rfl⟩ := List.mem_iff_getElem.1 hc;obtain ⟨cs, k1, k2⟩ := h.each i (by rw [← h.len]; exact hi);rw [List.getElem?_eq_getElem hi] at k1;cases k1;exact sh.len k2
 rcases h.row.2 with ⟨rfl, h0⟩ | ⟨q, cap, cur, rfl, hb, hh, k1, k2, k3, k4⟩
 ·exact .inl ⟨none, 0, rfl, List.eq_nil_of_length_eq_zero h0, fun _ => rfl⟩
 ·refine .inr ⟨q, 0, cap, .inr hb, rfl, k1, fun i hi => ?_⟩;obtain ⟨cs, e1, e2⟩ := h.each i hi;refine ⟨cs, sh.mono e2 InS.upon, fun j u hj => ?_⟩;have hjl : j < sh.size := by rw [← sh.len e2]; exact (List.getElem?_eq_some_iff.1 hj).1
  have hij : i * sh.size + j < xs.length * sh.size := by
   have : (i + 1) * sh.size ≤ xs.length * sh.size := Nat.mul_le_mul_right _ hi;rw [Nat.add_mul] at this; omega
  have c0 := h.row.cellAt (i * sh.size + j) hij;rw [Nat.zero_add, c0, K4 css i j cs hlen e1 hjl, hj]
theorem Xx {B n size b : Nat} {e : TypeId} {v : Value} {us : List Value} {w w3 : World} {o : Obj} (_hown : w.ownsRow B e size v n us) (hg : (w.alloc o).grownBy w3 v.ownBlock) (hne : some b ≠ v.ownBlock) (hb : b < w.heap.size) : w3.heap[b]? = w.heap[b]? :=
 (hg.block _ (by simp; omega) hne).trans ((Zc w o).block _ hb)
theorem Zrj {B n size b : Nat} {e T : TypeId} {v : Value} {us : List Value} {w : World} {c f} (h : w.ownsRow B e size v n us) (hne : e ≠ T) (hb : w.heap[b]? = some (.cells c T f)) : some b ≠ v.ownBlock := by
 rcases h.2 with ⟨rfl, _⟩ | ⟨q, cap, cur, rfl, _, hq, _⟩
 ·simp [Value.ownBlock]
 ·intro e1;simp [Value.ownBlock] at e1;subst e1;rw [hb] at hq; cases hq; exact hne rfl
theorem Vt {B n size b : Nat} {e : TypeId} {v : Value} {us : List Value} {w : World} (h : w.ownsRow B e size v n us) (hb : b < B) : some b ≠ v.ownBlock := fun e1 => by
 have := (h.lt b e1.symm).1; omega
theorem Zvu {B n size b : Nat} {e : TypeId} {v : Value} {us : List Value} {w : World} (h : w.ownsRow B e size v n us) (hb : w.heap.size ≤ b) : some b ≠ v.ownBlock := fun e1 => by
 have := (h.lt b e1.symm).2; omega
theorem Zim {S0 : Nat → Prop} {B n size : Nat} {e : TypeId} {v : Value} {us : List Value} {w w3 : World} {o : Obj} (hown : w.ownsRow B e size v n us) (hT : e ≠ 5) (hS0 : ∀ b, S0 b → b < B) (hg : (w.alloc o).grownBy w3 v.ownBlock) : ∀ b, InS S0 B w b → b < w.heap.size → w3.heap[b]? = w.heap[b]? := by
 intro b hb hlt;refine Xx hown hg ?_ hlt;rcases hb with h | ⟨_, c, f, h⟩
 ·exact Vt hown (hS0 b h)
 ·exact Zrj hown hT h
theorem Zw6 {S0 : Nat → Prop} {B n size : Nat} {e : TypeId} {v : Value} {us : List Value} {w w3 : World} {o : Obj} (hown : w.ownsRow B e size v n us) (hT : e ≠ 5) (hS0 : ∀ b, S0 b → b < B) (hg : (w.alloc o).grownBy w3 v.ownBlock) : ∀ b, InS S0 B w b → InS S0 B w3 b := fun b h =>
 Xm h (fun x => x) fun ⟨k1, c, f, k2⟩ => ⟨k1, c, f, (Zim hown hT hS0 hg b h (Za k2)).trans k2⟩
theorem Yt.step {α : Type} {sh : Qk α} {S0 : Nat → Prop} {B : Nat} {v v' : Value} {xs : List α} {x : α} {css : List (List Value)} {cs : List Value} {w w3 : World} {o : Obj} (h : Yt sh S0 B v xs css w) (hT : sh.T ≠ 5) (hS0 : ∀ b, S0 b → b < B) (hx : sh.enc (InS S0 B w) w x cs)
  (hg : (w.alloc o).grownBy w3 v.ownBlock) (hown : w3.ownsRow B sh.T sh.size v' (xs.length + 1) (css.flatten ++ cs)) : Yt sh S0 B v' (xs ++ [x]) (css ++ [cs]) w3 := by
 have hk := Zim (S0 := S0) h.row hT hS0 hg;have hm := Zw6 (S0 := S0) h.row hT hS0 hg;refine ⟨by simp [h.len], fun i hi => ?_, by simpa using hown⟩;by_cases hi2 : i < xs.length
 ·obtain ⟨y, h1, h2⟩ := h.each i hi2;refine ⟨y, by rw [List.getElem?_append_left (by rw [h.len]; exact hi2)]; exact h1, ?_⟩;rw [List.getElem_append_left hi2]; exact sh.mono (sh.keep h2 hk) hm
 ·have e : i = xs.length := by simp at hi; omega
  subst e;refine ⟨cs, by rw [← h.len]; simp, ?_⟩;have := sh.mono (sh.keep hx hk) hm;simpa using this
structure Ent where
 rc : Rec
 pair : Int
def Yp : Qk Rec where
 T := 61
 size := 4
 enc S w r cs := ∃ u, cs = [.int .i64 r.kind, .int .i64 r.key, .int .i64 r.ver, u] ∧ Z3 S w u r.data
 len := by rintro S w x cs ⟨u, rfl, _⟩; rfl
 keep := by rintro S w w' x cs ⟨u, rfl, h⟩ hk; exact ⟨u, rfl, h.keeps hk⟩
 mono := by rintro S S' w x cs ⟨u, rfl, h⟩ hS; exact ⟨u, rfl, h.mono hS⟩
 cap := by rintro S w x cs ⟨u, rfl, h⟩; exact ⟨u, rfl, h.caps⟩
 one := by
  rintro S w x cs ⟨u, rfl, h⟩ c hc;simp only [List.mem_cons, List.not_mem_nil, or_false] at hc;rcases hc with rfl | rfl | rfl | rfl
  ·rfl
  ·rfl
  ·rfl
  ·exact h.one
def Xa : Qk Ent where
 T := 84
 size := 5
 enc S w e cs := ∃ u, cs = [.int .i64 e.rc.kind, .int .i64 e.rc.key, .int .i64 e.rc.ver, u, .int .i64 e.pair] ∧ Z3 S w u e.rc.data
 len := by rintro S w x cs ⟨u, rfl, _⟩; rfl
 keep := by rintro S w w' x cs ⟨u, rfl, h⟩ hk; exact ⟨u, rfl, h.keeps hk⟩
 mono := by rintro S S' w x cs ⟨u, rfl, h⟩ hS; exact ⟨u, rfl, h.mono hS⟩
 cap := by rintro S w x cs ⟨u, rfl, h⟩; exact ⟨u, rfl, h.caps⟩
 one := by
  rintro S w x cs ⟨u, rfl, h⟩ c hc;simp only [List.mem_cons, List.not_mem_nil, or_false] at hc;rcases hc with rfl | rfl | rfl | rfl | rfl
  ·rfl
  ·rfl
  ·rfl
  ·exact h.one
  ·rfl
abbrev Yr := Z9 Xa
abbrev Ql := Z9 Yp
theorem V2 {S : Nat → Prop} {w : World} {ao : Option Addr} {n cap : Nat} {l : List Ent} (h : Yr S w (.slice ao n cap) l) (i : Nat) (hi : i < l.length) :
  ∃ b off a c, ao = some ⟨b, off, none⟩ ∧ w.cell? ⟨b, off + i * 5, none⟩ = some (.int .i64 l[i].rc.kind) ∧ w.cell? ⟨b, off + i * 5 + 1, none⟩ = some (.int .i64 l[i].rc.key) ∧ w.cell? ⟨b, off + i * 5 + 2, none⟩ = some (.int .i64 l[i].rc.ver) ∧
   w.cell? ⟨b, off + i * 5 + 3, none⟩ = some (.slice a l[i].rc.data.length c) ∧ w.cell? ⟨b, off + i * 5 + 4, none⟩ = some (.int .i64 l[i].pair) ∧ Z3 S w (.slice a l[i].rc.data.length c) l[i].rc.data := by
 obtain ⟨b, off, rfl, _, cs, ⟨u, rfl, hu⟩, hc⟩ := h.at i hi;obtain ⟨a, c, rfl⟩ := hu.form;exact ⟨b, off, a, c, rfl, hc 0 _ rfl, hc 1 _ rfl, hc 2 _ rfl, hc 3 _ rfl, hc 4 _ rfl, hu⟩
theorem Zai {S : Nat → Prop} {w : World} {ao : Option Addr} {n cap : Nat} {l : List Rec} (h : Ql S w (.slice ao n cap) l) (i : Nat) (hi : i < l.length) :
  ∃ b off a c, ao = some ⟨b, off, none⟩ ∧ w.cell? ⟨b, off + i * 4, none⟩ = some (.int .i64 l[i].kind) ∧ w.cell? ⟨b, off + i * 4 + 1, none⟩ = some (.int .i64 l[i].key) ∧ w.cell? ⟨b, off + i * 4 + 2, none⟩ = some (.int .i64 l[i].ver) ∧
   w.cell? ⟨b, off + i * 4 + 3, none⟩ = some (.slice a l[i].data.length c) ∧ Z3 S w (.slice a l[i].data.length c) l[i].data := by
 obtain ⟨b, off, rfl, _, cs, ⟨u, rfl, hu⟩, hc⟩ := h.at i hi;obtain ⟨a, c, rfl⟩ := hu.form;exact ⟨b, off, a, c, rfl, hc 0 _ rfl, hc 1 _ rfl, hc 2 _ rfl, hc 3 _ rfl, hu⟩
theorem J3 : (Tryz.prog.info? 84).map (fun i => (i.zero, i.size, i.bytes)) = some (some (.agg #[.int .i64 0, .int .i64 0, .int .i64 0, .slice none 0 0, .int .i64 0]), 5, 56) := by kernel_rfl
theorem Vw (w : World) (x y z u t : Value) (e : TypeId) (j : Nat) (c : Value) (h : [x, y, z, u, t][j]? = some c) : (w.alloc (.cells #[x, y, z, u, t] e)).cell? ((⟨w.heap.size, 0, none⟩ : Addr).add j) = some c := by
 match j, h with
 | 0, h => simp at h; subst h; simp [Addr.add]
 | 1, h => simp at h; subst h; simp [Addr.add]
 | 2, h => simp at h; subst h; simp [Addr.add]
 | 3, h => simp at h; subst h; simp [Addr.add]
 | 4, h => simp at h; subst h; simp [Addr.add]
 | j + 5, h => simp at h
end Go.Proofs.YtgaecpdokgklpacGreat
