import Derived.Test.YtikhknkpndhakabGreatRPut
set_option maxHeartbeats 8000000
namespace Go.Proofs.YtikhknkpndhakabGreat
set_option maxRecDepth 100000
open Go.RowKit
open Plain Reg
theorem Zz.keep {S : Nat → Prop} {w w' : World} {v : Value} {l : List UInt8} (h : Zz S w v l) (hk : ∀ b, S b → w'.heap[b]? = w.heap[b]?) : Zz S w' v l := by
 rcases h with h | ⟨b, off, cap, hS, rfl, h1, hc⟩
 ·exact .inl h
 ·refine .inr ⟨b, off, cap, hS, rfl, h1, fun i hi => ?_⟩;rw [← hc i hi];simp only [World.cell?, hk b hS]
def InS (S0 : Nat → Prop) (B : Nat) (w : World) (b : Nat) : Prop := S0 b ∨ (B ≤ b ∧ ∃ c f, w.heap[b]? = some (.cells c 5 f))
theorem InS.grow {S0 : Nat → Prop} {B : Nat} {w w' : World} (hg : Zo w w') (b : Nat) (h : InS S0 B w b) : InS S0 B w' b :=
 Xs h (fun x => x) fun ⟨h1, c, f, h2⟩ => ⟨h1, c, f, (hg.block _ (Za h2)).trans h2⟩
theorem InS.upon {S0 : Nat → Prop} {B : Nat} {w : World} (b : Nat) (h : InS S0 B w b) : Zw S0 B b := Xs h (fun x => x) fun h => h.1
theorem Zd6 {w : World} {base B : Nat} {v : Value} {l : List UInt8} (S0 : Nat → Prop) (hb : B ≤ base) (h : w.ownsRow base 5 1 v l.length (l.map bv)) : Zz (InS S0 B w) w v l := by
 rcases h.2 with ⟨rfl, h0⟩ | ⟨q, cap, cur, rfl, hq, hh, h1, h2, h3, h4⟩
 ·exact .inl ⟨none, 0, rfl, List.eq_nil_of_length_eq_zero h0, fun _ => rfl⟩
 ·refine .inr ⟨q, 0, cap, .inr ⟨by omega, _, _, hh⟩, rfl, h1, fun i hi => ?_⟩;have := h.cellAt i (by omega);rw [Nat.zero_add, this];simp [hi, bv]
def Zay (S0 : Nat → Prop) (B g : Nat) (lv : Value) (bs : List (List UInt8)) (w : World) : Prop :=
 ∃ v us, w.heap[g]? = some (.cells #[v, lv] 30 (0, 0)) ∧ us.length = bs.length ∧ (∀ i (hi : i < bs.length), ∃ u, us[i]? = some u ∧ Zz (InS S0 B w) w u bs[i]) ∧ w.ownsRow B 23 1 v bs.length us
theorem Zay.grow {S0 : Nat → Prop} {B g : Nat} {lv : Value} {bs : List (List UInt8)} {w w' : World} (h : Zay S0 B g lv bs w) (hg : Zo w w') : Zay S0 B g lv bs w' := by
 obtain ⟨v, us, h3, h4, h5, h6⟩ := h;exact ⟨v, us, (hg.block _ (Za h3)).trans h3, h4, fun i hi => (h5 i hi).imp fun u hu => ⟨hu.1, (hu.2.grow hg).mono (InS.grow hg)⟩, Yd h6 hg⟩
theorem Zay.start {S0 : Nat → Prop} {B g : Nat} {lv : Value} {w : World} (h : w.heap[g]? = some (.cells #[.slice none 0 0, lv] 30 (0, 0))) : Zay S0 B g lv [] w :=
 ⟨.slice none 0 0, [], h, rfl, fun i hi => by simp at hi, rfl, .inl ⟨rfl, rfl⟩⟩
theorem Zm4 {S0 : Nat → Prop} {B : Nat} {v : Value} {us : List Value} {bs : List (List UInt8)} {w : World} (h5 : ∀ i (hi : i < bs.length), ∃ u, us[i]? = some u ∧ Zz (InS S0 B w) w u bs[i]) (h6 : w.ownsRow B 23 1 v bs.length us) : Yx (Zw S0 B) w v bs := by
 rcases h6.2 with ⟨rfl, h0⟩ | ⟨q, cap, cur, rfl, hb, hh, k1, k2, k3, k4⟩
 ·exact .inl ⟨none, 0, rfl, List.eq_nil_of_length_eq_zero h0, fun _ => rfl⟩
 ·refine .inr ⟨q, 0, cap, .inr hb, rfl, k1, fun i hi => ?_⟩;have c0 := h6.cellAt i (by omega);obtain ⟨u, hu1, hu2⟩ := h5 i hi;rw [hu1] at c0;exact ⟨u, by rw [Nat.zero_add]; exact c0, hu2.mono InS.upon⟩
theorem Zay.blocks {S0 : Nat → Prop} {B g : Nat} {lv : Value} {bs : List (List UInt8)} {w : World} (h : Zay S0 B g lv bs w) : ∃ v, w.heap[g]? = some (.cells #[v, lv] 30 (0, 0)) ∧ Yx (Zw S0 B) w v bs := by
 obtain ⟨v, us, h3, h4, h5, h6⟩ := h;exact ⟨v, h3, Zm4 h5 h6⟩
theorem Jl : (Tryz.prog.info? 23).map (fun i => (i.zero, i.size, i.bytes)) = some (some (.slice none 0 0), 1, 24) := by kernel_rfl
theorem Zf9 (w : World) (x : Value) (e : TypeId) (j : Nat) (u : Value) (h : [x][j]? = some u) : (w.alloc (.cells #[x] e)).cell? ((⟨w.heap.size, 0, none⟩ : Addr).add j) = some u := by
 match j, h with
 | 0, h => simp at h; subst h; simp [Addr.add]
 | j + 1, h => simp at h
theorem Zi5 {B n : Nat} {e T : TypeId} {v : Value} {us : List Value} {w : World} {b : Nat} {c f} (h : w.ownsRow B e 1 v n us) (hne : e ≠ T) (hb : w.heap[b]? = some (.cells c T f)) : some b ≠ v.ownBlock := by
 rcases h.2 with ⟨rfl, _⟩ | ⟨q, cap, cur, rfl, _, hq, _⟩
 ·simp [Value.ownBlock]
 ·intro e1;simp [Value.ownBlock] at e1;subst e1;rw [hb] at hq; cases hq; exact hne rfl
theorem Zd5 {w : World} {base g n i : Nat} {e T : TypeId} {c f} {v x : Value} {xs : List Value} (h : w.ownsRow base e 1 v n xs) (hg : w.heap[g]? = some (.cells c T f)) (hT : e ≠ T) : (w.setCell ⟨g, i, none⟩ x).ownsRow base e 1 v n xs := by
 refine ⟨h.1, Xs h.2 (fun x => x) fun ⟨q, cap, cur, h1, h2, h3, r⟩ => ⟨q, cap, cur, h1, h2, ?_, r⟩⟩;rw [Below.heap_setCell _ _ _ _ (by rintro rfl; rw [hg] at h3; cases h3; exact hT rfl)];exact h3
theorem Zd7 {B n : Nat} {v : Value} {us : List Value} {w w3 : World} {o : Obj} (hle : B ≤ w.heap.size) (hown : w.ownsRow B 23 1 v n us) (hg : (w.alloc o).grownBy w3 v.ownBlock) : Below B w w3 :=
 Below.grown (Below.alloc (Below.refl _ _) hle o) hg (by simp; omega) (fun k hk => (hown.lt k hk).1)
theorem Ze2 {B n b : Nat} {v : Value} {us : List Value} {T : TypeId} {c f} {w w3 : World} {o : Obj} (hown : w.ownsRow B 23 1 v n us) (hT : 23 ≠ T) (hb : w.heap[b]? = some (.cells c T f)) (hg : (w.alloc o).grownBy w3 v.ownBlock) : w3.heap[b]? = some (.cells c T f) :=
 (hg.block _ (by have := Za hb; simp; omega) (Zi5 hown hT hb)).trans (((Zb w o).block _ (Za hb)).trans hb)
theorem Zay.step {S0 : Nat → Prop} {B g : Nat} {lv v v' u : Value} {us : List Value} {bs : List (List UInt8)} {b : List UInt8} {w w3 : World} {o : Obj} (h3 : w.heap[g]? = some (.cells #[v, lv] 30 (0, 0))) (h4 : us.length = bs.length)
  (h5 : ∀ i (hi : i < bs.length), ∃ u, us[i]? = some u ∧ Zz (InS S0 B w) w u bs[i]) (h6 : w.ownsRow B 23 1 v bs.length us) (hS0 : ∀ b, S0 b → b < B ∧ b ≠ g) (hle : B ≤ w.heap.size) (hu : Zz (InS S0 B w) w u b)
  (hg : (w.alloc o).grownBy w3 v.ownBlock) (hown : w3.ownsRow B 23 1 v' (bs.length + 1) (us ++ [u])) : Zay S0 B g lv (bs ++ [b]) (w3.setCell ⟨g, 0, none⟩ v') := by
 have hbx := Ze2 h6 (by decide) h3 hg;have keep : ∀ b, InS S0 B w b → (w3.setCell ⟨g, 0, none⟩ v').heap[b]? = w.heap[b]? := by
  intro b hSb;have hne : b ≠ g := by
   rcases hSb with h | ⟨_, c, f, h⟩
   ·exact (hS0 _ h).2
   ·rintro rfl; rw [h3] at h; cases h
  have hlt : b < w.heap.size := by
   rcases hSb with h | ⟨_, c, f, h⟩
   ·have := (hS0 _ h).1; omega
   ·exact Za h
  have hrow : some b ≠ v.ownBlock := by
   rcases hSb with h | ⟨_, c, f, h⟩
   ·intro e; have := (h6.lt b e.symm).1; have := (hS0 _ h).1; omega
   ·exact Zi5 h6 (by decide) h
  rw [Below.heap_setCell _ _ _ _ hne];exact (hg.block _ (by simp; omega) hrow).trans ((Zb w o).block _ hlt)
 have keep' : ∀ b, InS S0 B w b → InS S0 B (w3.setCell ⟨g, 0, none⟩ v') b := fun b h => Xs h (fun x => x) fun ⟨k1, c, f, k2⟩ => ⟨k1, c, f, (keep b h).trans k2⟩
 refine ⟨v', us ++ [u], ?_, by simp [h4], fun i hi => ?_, ?_⟩
 ·have := Yb hbx 0 v';simpa using this
 ·by_cases hi2 : i < bs.length
  ·obtain ⟨x, e1, e2⟩ := h5 i hi2;refine ⟨x, by rw [List.getElem?_append_left (by omega)]; exact e1, ?_⟩;rw [List.getElem_append_left hi2];exact (e2.keep keep).mono keep'
  ·have e : i = bs.length := by simp at hi; omega
   subst e;refine ⟨u, by rw [← h4]; simp, ?_⟩;have hu' := (hu.keep keep).mono keep';simpa using hu'
 ·have := Zd5 (i := 0) (x := v') hown hbx (by decide);simpa using this
end Go.Proofs.YtikhknkpndhakabGreat
