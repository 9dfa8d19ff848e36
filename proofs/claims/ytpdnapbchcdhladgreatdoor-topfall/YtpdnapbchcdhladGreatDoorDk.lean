import Derived.Test.YtpdnapbchcdhladGreatDoorBRead
set_option maxHeartbeats 8000000
namespace Go.Proofs.YtpdnapbchcdhladGreatDoor
set_option maxRecDepth 100000
open Go.RowKit
open Plain Reg
variable {B cap g n : Nat} {S S' : Nat → Prop} {ao : Option Addr} {bs : List (List UInt8)} {l : List UInt8} {v : Value} {w w' : World}
abbrev Wr := Int × List UInt8
structure Dk where
 blocks : List (List UInt8)
 late : List Wr
def Xn (w : World) (v : Value) (bs : List (List UInt8)) : Prop :=
 (∃ ao cap, v = .slice ao 0 cap ∧ bs = [] ∧ (ao = none → cap = 0)) ∨
 (∃ b off cap, v = .slice (some ⟨b, off, none⟩) bs.length cap ∧ bs.length ≤ cap ∧ ∀ (i : Nat) (h : i < bs.length), ∃ u, w.cell? ⟨b, off + i, none⟩ = some u ∧ Bytes w u bs[i])
def Vd (w : World) (v : Value) (ws : List Wr) : Prop :=
 (∃ ao cap, v = .slice ao 0 cap ∧ ws = [] ∧ (ao = none → cap = 0)) ∨
 (∃ b off cap, v = .slice (some ⟨b, off, none⟩) ws.length cap ∧ ws.length ≤ cap ∧ ∀ (i : Nat) (h : i < ws.length), w.cell? ⟨b, off + i * 2, none⟩ = some (.int .i64 ws[i].1) ∧ ∃ u, w.cell? ⟨b, off + i * 2 + 1, none⟩ = some u ∧ Bytes w u ws[i].2)
theorem Xn.grow (h : Xn w v bs) (hg : Zj w w') : Xn w' v bs := by
 rcases h with h | ⟨b, off, cap, rfl, h1, hc⟩
 ·exact .inl h
 ·refine .inr ⟨b, off, cap, rfl, h1, fun i hi => ?_⟩;obtain ⟨u, h2, h3⟩ := hc i hi;exact ⟨u, (Below.cell hg (Zr h2)).trans h2, Z2 h3 hg⟩
theorem Vd.grow {ws : List Wr} (h : Vd w v ws) (hg : Zj w w') : Vd w' v ws := by
 rcases h with h | ⟨b, off, cap, rfl, h1, hc⟩
 ·exact .inl h
 ·refine .inr ⟨b, off, cap, rfl, h1, fun i hi => ?_⟩;obtain ⟨h0, u, h2, h3⟩ := hc i hi;exact ⟨(Below.cell hg (Zr h0)).trans h0, u, (Below.cell hg (Zr h2)).trans h2, Z2 h3 hg⟩
theorem Xn.form (h : Xn w v bs) : ∃ ao cap, v = .slice ao bs.length cap := by
 rcases h with ⟨ao, cap, rfl, rfl, _⟩ | ⟨b, off, cap, rfl, _⟩
 ·exact ⟨ao, cap, rfl⟩
 ·exact ⟨_, cap, rfl⟩
theorem Vd.form {ws : List Wr} (h : Vd w v ws) : ∃ ao cap, v = .slice ao ws.length cap := by
 rcases h with ⟨ao, cap, rfl, rfl, _⟩ | ⟨b, off, cap, rfl, _⟩
 ·exact ⟨ao, cap, rfl⟩
 ·exact ⟨_, cap, rfl⟩
theorem Xn.at (h : Xn w (.slice ao n cap) bs) (i : Nat) (hi : i < bs.length) :
  ∃ b off, ao = some ⟨b, off, none⟩ ∧ ∃ u, w.cell? ⟨b, off + i, none⟩ = some u ∧ Bytes w u bs[i] := by
 rcases h with ⟨_, _, _, rfl, _⟩ | ⟨b, off, cp, h2, h3, h4⟩
 ·simp at hi
 ·cases h2;exact ⟨b, off, rfl, h4 i hi⟩
theorem Vd.at {ws : List Wr} (h : Vd w (.slice ao n cap) ws) (i : Nat) (hi : i < ws.length) :
  ∃ b off, ao = some ⟨b, off, none⟩ ∧ w.cell? ⟨b, off + i * 2, none⟩ = some (.int .i64 ws[i].1) ∧ ∃ u, w.cell? ⟨b, off + i * 2 + 1, none⟩ = some u ∧ Bytes w u ws[i].2 := by
 rcases h with ⟨_, _, _, rfl, _⟩ | ⟨b, off, cp, h2, h3, h4⟩
 ·simp at hi
 ·cases h2;exact ⟨b, off, rfl, h4 i hi⟩
def Z0 (S : Nat → Prop) (w : World) (v : Value) (l : List UInt8) : Prop :=
 (∃ ao cap, v = .slice ao 0 cap ∧ l = [] ∧ (ao = none → cap = 0)) ∨
 (∃ b off cap, S b ∧ v = .slice (some ⟨b, off, none⟩) l.length cap ∧ l.length ≤ cap ∧ ∀ (i : Nat) (h : i < l.length), w.cell? ⟨b, off + i, none⟩ = some (.int .u8 (l[i].toNat : Int)))
def Xc (S : Nat → Prop) (w : World) (v : Value) (bs : List (List UInt8)) : Prop :=
 (∃ ao cap, v = .slice ao 0 cap ∧ bs = [] ∧ (ao = none → cap = 0)) ∨
 (∃ b off cap, S b ∧ v = .slice (some ⟨b, off, none⟩) bs.length cap ∧ bs.length ≤ cap ∧ ∀ (i : Nat) (h : i < bs.length), ∃ u, w.cell? ⟨b, off + i, none⟩ = some u ∧ Z0 S w u bs[i])
def Q4 (S : Nat → Prop) (w : World) (v : Value) (ws : List Wr) : Prop :=
 (∃ ao cap, v = .slice ao 0 cap ∧ ws = [] ∧ (ao = none → cap = 0)) ∨
 (∃ b off cap, S b ∧ v = .slice (some ⟨b, off, none⟩) ws.length cap ∧ ws.length ≤ cap ∧ ∀ (i : Nat) (h : i < ws.length), w.cell? ⟨b, off + i * 2, none⟩ = some (.int .i64 ws[i].1) ∧ ∃ u, w.cell? ⟨b, off + i * 2 + 1, none⟩ = some u ∧ Z0 S w u ws[i].2)
def Z7 (S : Nat → Prop) (B : Nat) : Nat → Prop := fun b => S b ∨ B ≤ b
theorem Ztx : ∀ b, S b → Z7 S B b := fun _ h => .inl h
theorem Z9 {B' : Nat} (h : B ≤ B') : ∀ b, Z7 S B' b → Z7 S B b := fun _ hb => Xh hb (fun x => x) (fun x => Nat.le_trans h x)
theorem Z0.p (h : Z0 S w v l) : Bytes w v l := by
 rcases h with h | ⟨b, off, cap, _, h⟩
 ·exact .inl h
 ·exact .inr ⟨b, off, cap, h⟩
theorem Zdy (h : Bytes w v l) : Z0 (fun b => b < w.heap.size) w v l := by
 by_cases h0 : l = []
 ·subst h0;rcases h with h | ⟨b, off, cap, rfl, h1, hc⟩
  ·exact .inl h
  ·exact .inl ⟨_, cap, rfl, rfl, fun h => by cases h⟩
 ·rcases h with ⟨_, _, _, h1, _⟩ | ⟨b, off, cap, h2, h1, hc⟩
  ·exact absurd h1 h0
  ·exact .inr ⟨b, off, cap, Zr (hc 0 (List.length_pos_iff.2 h0)), h2, h1, hc⟩
theorem Zf8 {base : Nat} (S : Nat → Prop) (h : w.ownsRow base 5 1 v l.length (l.map bv)) : Z0 (Z7 S base) w v l := by
 rcases h.2 with ⟨rfl, h0⟩ | ⟨g, cap, cur, rfl, hb, hh, h1, h2, h3, h4⟩
 ·exact .inl ⟨none, 0, rfl, List.eq_nil_of_length_eq_zero h0, fun _ => rfl⟩
 ·refine .inr ⟨g, 0, cap, .inr hb, rfl, h1, fun i hi => ?_⟩;have := h.cellAt i (by omega);rw [Nat.zero_add, this];simp [hi, bv]
theorem Z0.mono (h : Z0 S w v l) (hS : ∀ b, S b → S' b) : Z0 S' w v l := by
 rcases h with h | ⟨b, off, cap, hb, h⟩
 ·exact .inl h
 ·exact .inr ⟨b, off, cap, hS b hb, h⟩
theorem Z0.but (h : Z0 S w v l) (hg : Zo g w w') (hn : ¬ S g) : Z0 S w' v l := by
 rcases h with h | ⟨b, off, cap, hb, h1, h2, hc⟩
 ·exact .inl h
 ·refine .inr ⟨b, off, cap, hb, h1, h2, fun i hi => ?_⟩;have h3 := hc i hi;exact (hg.cell (Zr h3) (fun e => hn (by rw [← e]; exact hb))).trans h3
theorem Z0.grow (h : Z0 S w v l) (hg : Zj w w') : Z0 S w' v l := by
 rcases h with h | ⟨b, off, cap, hb, h1, h2, hc⟩
 ·exact .inl h
 ·exact .inr ⟨b, off, cap, hb, h1, h2, fun i hi => (Below.cell hg (Zr (hc i hi))).trans (hc i hi)⟩
theorem Xc.p (h : Xc S w v bs) : Xn w v bs := by
 rcases h with h | ⟨b, off, cap, _, h1, h2, h⟩
 ·exact .inl h
 ·refine .inr ⟨b, off, cap, h1, h2, fun i hi => ?_⟩;obtain ⟨u, h3, h4⟩ := h i hi;exact ⟨u, h3, h4.p⟩
theorem Xn.s (h : Xn w v bs) : Xc (fun b => b < w.heap.size) w v bs := by
 by_cases h0 : bs = []
 ·subst h0;rcases h with h | ⟨b, off, cap, rfl, h1, hc⟩
  ·exact .inl h
  ·exact .inl ⟨_, cap, rfl, rfl, fun h => by cases h⟩
 ·rcases h with ⟨_, _, _, h1, _⟩ | ⟨b, off, cap, h2, h1, hc⟩
  ·exact absurd h1 h0
  ·refine .inr ⟨b, off, cap, ?_, h2, h1, fun i hi => ?_⟩
   ·obtain ⟨u, h3, _⟩ := hc 0 (List.length_pos_iff.2 h0);exact Zr h3
   ·obtain ⟨u, h3, h4⟩ := hc i hi;exact ⟨u, h3, Zdy h4⟩
theorem Xc.mono (h : Xc S w v bs) (hS : ∀ b, S b → S' b) : Xc S' w v bs := by
 rcases h with h | ⟨b, off, cap, hb, h1, h2, h⟩
 ·exact .inl h
 ·refine .inr ⟨b, off, cap, hS b hb, h1, h2, fun i hi => ?_⟩;obtain ⟨u, h3, h4⟩ := h i hi;exact ⟨u, h3, h4.mono hS⟩
theorem Xc.but (h : Xc S w v bs) (hg : Zo g w w') (hn : ¬ S g) : Xc S w' v bs := by
 rcases h with h | ⟨b, off, cap, hb, h1, h2, hc⟩
 ·exact .inl h
 ·refine .inr ⟨b, off, cap, hb, h1, h2, fun i hi => ?_⟩;obtain ⟨u, h3, h4⟩ := hc i hi;exact ⟨u, (hg.cell (Zr h3) (fun e => hn (by rw [← e]; exact hb))).trans h3, h4.but hg hn⟩
theorem Xc.grow (h : Xc S w v bs) (hg : Zj w w') : Xc S w' v bs := by
 rcases h with h | ⟨b, off, cap, hb, h1, h2, hc⟩
 ·exact .inl h
 ·refine .inr ⟨b, off, cap, hb, h1, h2, fun i hi => ?_⟩;obtain ⟨u, h3, h4⟩ := hc i hi;exact ⟨u, (Below.cell hg (Zr h3)).trans h3, h4.grow hg⟩
theorem Xc.at (h : Xc S w (.slice ao n cap) bs) (i : Nat) (hi : i < bs.length) :
  ∃ b off, ao = some ⟨b, off, none⟩ ∧ ∃ u, w.cell? ⟨b, off + i, none⟩ = some u ∧ Z0 S w u bs[i] := by
 rcases h with ⟨_, _, _, rfl, _⟩ | ⟨b, off, cp, _, h2, h3, h4⟩
 ·simp at hi
 ·cases h2;exact ⟨b, off, rfl, h4 i hi⟩
theorem Q4.p {ws : List Wr} (h : Q4 S w v ws) : Vd w v ws := by
 rcases h with h | ⟨b, off, cap, _, h1, h2, h⟩
 ·exact .inl h
 ·refine .inr ⟨b, off, cap, h1, h2, fun i hi => ?_⟩;obtain ⟨h0, u, h3, h4⟩ := h i hi;exact ⟨h0, u, h3, h4.p⟩
theorem Vd.s {ws : List Wr} (h : Vd w v ws) : Q4 (fun b => b < w.heap.size) w v ws := by
 by_cases h0 : ws = []
 ·subst h0;rcases h with h | ⟨b, off, cap, rfl, h1, hc⟩
  ·exact .inl h
  ·exact .inl ⟨_, cap, rfl, rfl, fun h => by cases h⟩
 ·rcases h with ⟨_, _, _, h1, _⟩ | ⟨b, off, cap, h2, h1, hc⟩
  ·exact absurd h1 h0
  ·refine .inr ⟨b, off, cap, Zr (hc 0 (List.length_pos_iff.2 h0)).1, h2, h1, fun i hi => ?_⟩;obtain ⟨hq, u, h3, h4⟩ := hc i hi;exact ⟨hq, u, h3, Zdy h4⟩
theorem Q4.mono {ws : List Wr} (h : Q4 S w v ws) (hS : ∀ b, S b → S' b) : Q4 S' w v ws := by
 rcases h with h | ⟨b, off, cap, hb, h1, h2, h⟩
 ·exact .inl h
 ·refine .inr ⟨b, off, cap, hS b hb, h1, h2, fun i hi => ?_⟩;obtain ⟨h0, u, h3, h4⟩ := h i hi;exact ⟨h0, u, h3, h4.mono hS⟩
theorem Q4.but {ws : List Wr} (h : Q4 S w v ws) (hg : Zo g w w') (hn : ¬ S g) : Q4 S w' v ws := by
 rcases h with h | ⟨b, off, cap, hb, h1, h2, hc⟩
 ·exact .inl h
 ·refine .inr ⟨b, off, cap, hb, h1, h2, fun i hi => ?_⟩;obtain ⟨h0, u, h3, h4⟩ := hc i hi;exact ⟨(hg.cell (Zr h0) (fun e => hn (by rw [← e]; exact hb))).trans h0, u, (hg.cell (Zr h3) (fun e => hn (by rw [← e]; exact hb))).trans h3, h4.but hg hn⟩
theorem Q4.grow {ws : List Wr} (h : Q4 S w v ws) (hg : Zj w w') : Q4 S w' v ws := by
 rcases h with h | ⟨b, off, cap, hb, h1, h2, hc⟩
 ·exact .inl h
 ·refine .inr ⟨b, off, cap, hb, h1, h2, fun i hi => ?_⟩;obtain ⟨h0, u, h3, h4⟩ := hc i hi;exact ⟨(Below.cell hg (Zr h0)).trans h0, u, (Below.cell hg (Zr h3)).trans h3, h4.grow hg⟩
theorem Q1 {α : Type} [BEq α] [LawfulBEq α] {a b : α} (h : a ≠ b) : (a == b) = false := by simpa using h
variable {base : Nat} {v : Value} {w : World}
def Vy (ws : List Wr) (a : Int) : Option (List UInt8) := ws.foldl (fun r x => if x.1 = a then some x.2 else r) none
theorem Zop (ws : List Wr) (x : Wr) (a : Int) : Vy (ws ++ [x]) a = if x.1 = a then some x.2 else Vy ws a := by simp [Vy, List.foldl_append]
theorem Zoo (ws : List Wr) (a : Int) (k : Nat) (h : k < ws.length) : Vy (ws.take (k + 1)) a = if ws[k].1 = a then some ws[k].2 else Vy (ws.take k) a := by
 rw [List.take_succ_eq_append_getElem h, Zop]
def Dk.get (d : Dk) (a : Int) : Option (List UInt8) := if a < 0 ∨ (d.blocks.length : Int) ≤ a then none else some ((Vy d.late a).getD (d.blocks.getD a.toNat []))
def Dk.getE (d : Dk) (a : Int) : Int := if a < 0 ∨ (d.blocks.length : Int) ≤ a then 3 else 0
def Dk.put (d : Dk) (a : Int) (b : List UInt8) : Dk := ⟨d.blocks, d.late ++ [(a, b)]⟩
def J3 : List Wr → List Value → List Value
 | x :: ws, u :: us => .int .i64 x.1 :: u :: J3 ws us
 | _, _ => []
theorem Ziy : ∀ (ws : List Wr) (us : List Value) (i : Nat), us.length = ws.length → (h : i < ws.length) → (J3 ws us)[i * 2]? = some (.int .i64 ws[i].1)
 | [], us, i, _, h => by simp at h
 | x :: ws, [], i, h, _ => by simp at h
 | x :: ws, u :: us, 0, _, _ => by simp [J3]
 | x :: ws, u :: us, i + 1, h, hi => by
  have := Ziy ws us i (by simpa using h) (by simpa using hi);rw [show (i + 1) * 2 = i * 2 + 1 + 1 from by omega];simpa [J3] using this
theorem Zmd : ∀ (ws : List Wr) (us : List Value) (i : Nat), us.length = ws.length → i < ws.length → (J3 ws us)[i * 2 + 1]? = us[i]?
 | [], us, i, _, h => by simp at h
 | x :: ws, [], i, h, _ => by simp at h
 | x :: ws, u :: us, 0, _, _ => by simp [J3]
 | x :: ws, u :: us, i + 1, h, hi => by
  have := Zmd ws us i (by simpa using h) (by simpa using hi);rw [show (i + 1) * 2 + 1 = i * 2 + 1 + 1 + 1 from by omega];simpa [J3] using this
theorem Zme : ∀ (ws : List Wr) (us : List Value) (x : Wr) (u : Value), us.length = ws.length → J3 (ws ++ [x]) (us ++ [u]) = J3 ws us ++ [.int .i64 x.1, u]
 | [], [], x, u, _ => by simp [J3]
 | [], _ :: _, x, u, h => by simp at h
 | _ :: _, [], x, u, h => by simp at h
 | y :: ws, v :: us, x, u, h => by simp [J3, Zme ws us x u (by simpa using h)]
theorem Zlx {S : Nat → Prop} {ws : List Wr} {us : List Value} (h : w.ownsRow base 126 2 v ws.length (J3 ws us)) (hl : us.length = ws.length) (hu : ∀ i (hi : i < ws.length), ∃ u, us[i]? = some u ∧ Z0 S w u ws[i].2) : Q4 (Z7 S base) w v ws := by
 rcases h.2 with ⟨rfl, h0⟩ | ⟨g, cap, cur, rfl, hb, hh, h1, h2, h3, h4⟩
 ·exact .inl ⟨none, 0, rfl, List.eq_nil_of_length_eq_zero h0, fun _ => rfl⟩
 ·refine .inr ⟨g, 0, cap, .inr hb, rfl, h1, fun i hi => ?_⟩;have k0 := h.cellAt (i * 2) (by omega);have k1 := h.cellAt (i * 2 + 1) (by omega);rw [Ziy ws us i hl hi] at k0;rw [Zmd ws us i hl hi] at k1;obtain ⟨u, hu1, hu2⟩ := hu i hi;rw [hu1] at k1;refine ⟨by rw [Nat.zero_add]; exact k0, u, by rw [Nat.zero_add]; exact k1, hu2.mono Ztx⟩
theorem Zcu : (Tryz.prog.info? 126).map (fun i => (i.zero, i.size, i.bytes)) = some (some (.agg #[.int .i64 0, .slice none 0 0]), 2, 32) := by kernel_rfl
theorem hx1 (w : World) (c e : Array Value) : ((w.alloc (.cells c 27)).alloc (.cells e 27)).heap[w.heap.size]? = some (.cells c 27 (0, 0)) :=
 ((Zd (w.alloc (.cells c 27)) _).block _ (by simp)).trans (Zk _ _ _)
theorem hy1 (w : World) (c e : Array Value) : ((w.alloc (.cells c 27)).alloc (.cells e 27)).heap[w.heap.size + 1]? = some (.cells e 27 (0, 0)) := by
 have h := Zk (w.alloc (.cells c 27)) e 27;rw [World.size_alloc] at h;exact h
theorem Qf {n size : Nat} {e : TypeId} {xs : List Value} (h : w.ownsRow base e size v n xs) : ∃ ao cap, v = .slice ao n cap := by
 rcases h.2 with ⟨h1, h0⟩ | ⟨g, cap, cur, rfl, hb, _⟩
 ·subst h0; exact ⟨none, 0, h1⟩
 ·exact ⟨_, cap, rfl⟩
def Dk.pairE (d : Dk) (p : Int) (r : Rec) : Int := if p < 0 ∨ ((d.blocks.length / 2 : Nat) : Int) ≤ p then 3 else Z6 r
def Dk.pairW (d : Dk) (p : Int) (r : Rec) : Dk := ⟨d.blocks, d.late ++ [(2 * p, blk r (2 * p)), (2 * p + 1, blk r (2 * p + 1))]⟩
def Dk.pairD (d : Dk) (p : Int) (r : Rec) : Dk := if d.pairE p r = 0 then d.pairW p r else d
theorem Xy {w : World} {g : Nat} {T : TypeId} {f} {c0 c1 : Value} (h : w.heap[g]? = some (.cells #[c0, c1] T f)) (x0 x1 : Value) :
  ((w.setCell ⟨g, 0, none⟩ x0).setCell ⟨g, 1, none⟩ x1).heap[g]? = some (.cells #[x0, x1] T f) ∧ Zo g w ((w.setCell ⟨g, 0, none⟩ x0).setCell ⟨g, 1, none⟩ x1) := by
 refine ⟨?_, ((Zo.refl g w).set _ _ _).set _ _ _⟩;have h1 := heap_set (heap_set h 0 x0) 1 x1;simpa using h1
end Go.Proofs.YtpdnapbchcdhladGreatDoor
namespace Go.Proofs.YtpdnapbchcdhladGreatDoor
set_option maxRecDepth 100000
open Plain
variable {α : Type}
def Dk.keepTo (d : Dk) (on : Nat → Bool) : Nat → List (List UInt8)
 | 0 => d.blocks
 | k + 1 => if on k = true then (d.keepTo on k).set (d.late.getD k (0, [])).1.toNat (d.late.getD k (0, [])).2 else d.keepTo on k
def Qr (bits : Int) (k : Nat) : Bool := decide (k < 60) && ((bits % 18446744073709551616).toNat / 2 ^ k % 2 == 1)
def Dk.keep (d : Dk) (bits : Int) : Dk := ⟨d.keepTo (Qr bits) d.late.length, []⟩
def Dk.flush (d : Dk) : Dk := ⟨d.keepTo (fun _ => true) d.late.length, []⟩
def turned (b : List UInt8) (n : Int) (y : Int) : List UInt8 := if 0 ≤ n ∧ n < (b.length : Int) then b.set n.toNat (b.getD n.toNat 0 ^^^ lo y) else b
def Dk.spoil (d : Dk) (a n y : Int) : Dk := if 0 ≤ a ∧ a < (d.blocks.length : Int) then ⟨d.blocks.set a.toNat (turned (d.blocks.getD a.toNat []) n y), d.late⟩ else d
def Dk.new : Dk := ⟨(List.range 12).map fun (i : Nat) => blk ⟨1, 0, 0, []⟩ (i : Int), []⟩
theorem V9 (l : List α) (i : Nat) (x : α) (h : i < l.length) : l.getD i x = l[i] := by
 rw [List.getD_eq_getElem?_getD, List.getElem?_eq_getElem h]; rfl
theorem Qk (l : List α) (i j : Nat) (y x : α) (h : i < l.length) : (l.set j y).getD i x = if j = i then y else l.getD i x := by
 rw [List.getD_eq_getElem?_getD, List.getD_eq_getElem?_getD, List.getElem?_set];by_cases hj : j = i
 ·subst hj; simp [h]
 ·simp [hj]
theorem Dk.keepTo_length (d : Dk) (on : Nat → Bool) : ∀ k, (d.keepTo on k).length = d.blocks.length
 | 0 => rfl
 | k + 1 => by
  show (if on k = true then _ else _ : List (List UInt8)).length = _;split
  ·rw [List.length_set]; exact keepTo_length d on k
  ·exact keepTo_length d on k
theorem Dk.keepTo_none (d : Dk) (on : Nat → Bool) (h : ∀ k, on k = false) : ∀ k, d.keepTo on k = d.blocks
 | 0 => rfl
 | k + 1 => by
  show (if on k = true then _ else _) = _;rw [h k, if_neg (by decide)]; exact keepTo_none d on h k
theorem Zpc (k : Nat) : Qr 0 k = false := by
 unfold Qr;have : ((0 : Int) % 18446744073709551616).toNat = 0 := by decide
 rw [this, Nat.zero_div]; simp
theorem Dk.keep_none (d : Dk) : (d.keep 0).blocks = d.blocks := d.keepTo_none _ Zpc _
end Go.Proofs.YtpdnapbchcdhladGreatDoor
namespace Go.Proofs.YtpdnapbchcdhladGreatDoor
set_option maxRecDepth 100000
open Go.RowKit
open Plain Reg
variable {B base : Nat} {S0 : Nat → Prop} {v : Value} {w : World}
def InS (S0 : Nat → Prop) (B : Nat) (w : World) (b : Nat) : Prop := S0 b ∨ (B ≤ b ∧ ∃ c f, w.heap[b]? = some (.cells c 5 f))
theorem InS.grow {w' : World} (hg : Zj w w') (b : Nat) (h : InS S0 B w b) : InS S0 B w' b :=
 Xh h (fun x => x) fun ⟨h1, c, f, h2⟩ => ⟨h1, c, f, (hg.block _ (Za h2)).trans h2⟩
theorem InS.upon (b : Nat) (h : InS S0 B w b) : Z7 S0 B b := Xh h (fun x => x) fun h => h.1
theorem Zga {l : List UInt8} (S0 : Nat → Prop) (hb : B ≤ base) (h : w.ownsRow base 5 1 v l.length (l.map bv)) : Z0 (InS S0 B w) w v l := by
 rcases h.2 with ⟨rfl, h0⟩ | ⟨q, cap, cur, rfl, hq, hh, h1, h2, h3, h4⟩
 ·exact .inl ⟨none, 0, rfl, List.eq_nil_of_length_eq_zero h0, fun _ => rfl⟩
 ·refine .inr ⟨q, 0, cap, .inr ⟨by omega, _, _, hh⟩, rfl, h1, fun i hi => ?_⟩;have := h.cellAt i (by omega);rw [Nat.zero_add, this];simp [hi, bv]
theorem Zos : (Tryz.prog.info? 38).map (fun i => (i.zero, i.size, i.bytes)) = some (some (.slice none 0 0), 1, 24) := by kernel_rfl
theorem Zej {g n i : Nat} {e T : TypeId} {c f} {x : Value} {xs : List Value} (h : w.ownsRow base e 1 v n xs) (hg : w.heap[g]? = some (.cells c T f)) (hT : e ≠ T) : (w.setCell ⟨g, i, none⟩ x).ownsRow base e 1 v n xs := by
 refine ⟨h.1, Xh h.2 (fun x => x) fun ⟨q, cap, cur, h1, h2, h3, r⟩ => ⟨q, cap, cur, h1, h2, ?_, r⟩⟩;rw [Below.heap_setCell _ _ _ _ (by rintro rfl; rw [hg] at h3; cases h3; exact hT rfl)];exact h3
variable {B b cap n size : Nat} {S S0 : Nat → Prop} {ao : Option Addr} {css : List (List Value)} {e : TypeId} {o : Obj} {us : List Value} {v : Value} {w w' w3 : World} {α : Type}
structure Xz (α : Type) where
 T : TypeId
 size : Nat
 enc : (Nat → Prop) → World → α → List Value → Prop
 len : ∀ {S : Nat → Prop} {w : World} {x : α} {cs : List Value}, enc S w x cs → cs.length = size
 keep : ∀ {S : Nat → Prop} {w w' : World} {x : α} {cs : List Value}, enc S w x cs → (∀ b, S b → b < w.heap.size → w'.heap[b]? = w.heap[b]?) → enc S w' x cs
 mono : ∀ {S S' : Nat → Prop} {w : World} {x : α} {cs : List Value}, enc S w x cs → (∀ b, S b → S' b) → enc S' w x cs
 cap : ∀ {S : Nat → Prop} {w : World} {x : α} {cs : List Value}, enc S w x cs → enc (fun b => S b ∧ b < w.heap.size) w x cs
 one : ∀ {S : Nat → Prop} {w : World} {x : α} {cs : List Value}, enc S w x cs → ∀ u ∈ cs, u.oneCell' = true
theorem Z0.keeps {l : List UInt8} (h : Z0 S w v l) (hk : ∀ b, S b → b < w.heap.size → w'.heap[b]? = w.heap[b]?) : Z0 S w' v l := by
 rcases h with h | ⟨b, off, cap, hS, rfl, h1, hc⟩
 ·exact .inl h
 ·refine .inr ⟨b, off, cap, hS, rfl, h1, fun i hi => ?_⟩;have h2 := hc i hi;rw [← h2];simp only [World.cell?, hk b hS (Zr h2)]
theorem Z0.caps {l : List UInt8} (h : Z0 S w v l) : Z0 (fun b => S b ∧ b < w.heap.size) w v l := by
 by_cases h0 : l = []
 ·subst h0;rcases h with h | ⟨b, off, cap, hS, rfl, h1, hc⟩
  ·exact .inl h
  ·exact .inl ⟨_, cap, rfl, rfl, fun h => by cases h⟩
 ·rcases h with ⟨_, _, _, h1, _⟩ | ⟨b, off, cap, hS, h2, h1, hc⟩
  ·exact absurd h1 h0
  ·exact .inr ⟨b, off, cap, ⟨hS, Zr (hc 0 (List.length_pos_iff.2 h0))⟩, h2, h1, hc⟩
theorem Z0.form {l : List UInt8} (h : Z0 S w v l) : ∃ ao cap, v = .slice ao l.length cap := by
 rcases h with ⟨ao, cap, rfl, rfl, _⟩ | ⟨b, off, cap, _, rfl, _⟩
 ·exact ⟨ao, cap, rfl⟩
 ·exact ⟨_, cap, rfl⟩
theorem Z0.one {l : List UInt8} (h : Z0 S w v l) : v.oneCell' = true := by
 obtain ⟨ao, cap, rfl⟩ := h.form; rfl
def Zv (sh : Xz α) (S : Nat → Prop) (w : World) (v : Value) (xs : List α) : Prop :=
 (∃ ao cap, v = .slice ao 0 cap ∧ xs = [] ∧ (ao = none → cap = 0)) ∨
 (∃ b off cap, S b ∧ v = .slice (some ⟨b, off, none⟩) xs.length cap ∧ xs.length ≤ cap ∧ ∀ (i : Nat) (h : i < xs.length), ∃ cs, sh.enc S w xs[i] cs ∧ ∀ (j : Nat) (u : Value), cs[j]? = some u → w.cell? ⟨b, off + i * sh.size + j, none⟩ = some u)
theorem Zv.keep {sh : Xz α} {xs : List α} (h : Zv sh S w v xs) (hk : ∀ b, S b → b < w.heap.size → w'.heap[b]? = w.heap[b]?) : Zv sh S w' v xs := by
 rcases h with h | ⟨b, off, cap, hS, rfl, h1, hc⟩
 ·exact .inl h
 ·refine .inr ⟨b, off, cap, hS, rfl, h1, fun i hi => ?_⟩;obtain ⟨cs, h2, h3⟩ := hc i hi;refine ⟨cs, sh.keep h2 hk, fun j u hj => ?_⟩;have h4 := h3 j u hj;rw [← h4];simp only [World.cell?, hk b hS (Zr h4)]
theorem Zv.grow {sh : Xz α} {xs : List α} (h : Zv sh S w v xs) (hg : Zj w w') : Zv sh S w' v xs := h.keep fun b _ hb => hg.block b hb
theorem Zv.but {sh : Xz α} {g : Nat} {xs : List α} (h : Zv sh S w v xs) (hg : Zo g w w') (hn : ¬ S g) : Zv sh S w' v xs := h.keep fun b hS hb => hg.block b hb (by rintro rfl; exact hn hS)
theorem Zv.mono {sh : Xz α} {S' : Nat → Prop} {xs : List α} (h : Zv sh S w v xs) (hS : ∀ b, S b → S' b) : Zv sh S' w v xs := by
 rcases h with h | ⟨b, off, cap, hb, rfl, h1, hc⟩
 ·exact .inl h
 ·exact .inr ⟨b, off, cap, hS b hb, rfl, h1, fun i hi => (hc i hi).imp fun _ x => ⟨sh.mono x.1 hS, x.2⟩⟩
theorem Zv.form {sh : Xz α} {xs : List α} (h : Zv sh S w v xs) : ∃ ao cap, v = .slice ao xs.length cap := by
 rcases h with ⟨ao, cap, rfl, rfl, _⟩ | ⟨b, off, cap, _, rfl, _⟩
 ·exact ⟨ao, cap, rfl⟩
 ·exact ⟨_, cap, rfl⟩
theorem Zv.at {sh : Xz α} {xs : List α} (h : Zv sh S w (.slice ao n cap) xs) (i : Nat) (hi : i < xs.length) :
  ∃ b off, ao = some ⟨b, off, none⟩ ∧ S b ∧ ∃ cs, sh.enc S w xs[i] cs ∧ ∀ (j : Nat) (u : Value), cs[j]? = some u → w.cell? ⟨b, off + i * sh.size + j, none⟩ = some u := by
 rcases h with ⟨_, _, _, rfl, _⟩ | ⟨b, off, cp, hS, h2, h3, h4⟩
 ·simp at hi
 ·cases h2;exact ⟨b, off, rfl, hS, h4 i hi⟩
theorem Zv.caps {sh : Xz α} {xs : List α} (h : Zv sh S w v xs) (hs : 0 < sh.size) : Zv sh (fun b => S b ∧ b < w.heap.size) w v xs := by
 by_cases h0 : xs = []
 ·subst h0;rcases h with h | ⟨b, off, cap, hS, rfl, h1, hc⟩
  ·exact .inl h
  ·exact .inl ⟨_, cap, rfl, rfl, fun h => by cases h⟩
 ·rcases h with ⟨_, _, _, h1, _⟩ | ⟨b, off, cap, hS, h2, h1, hc⟩
  ·exact absurd h1 h0
  ·refine .inr ⟨b, off, cap, ⟨hS, ?_⟩, h2, h1, fun i hi => (hc i hi).imp fun _ x => ⟨sh.cap x.1, x.2⟩⟩;obtain ⟨cs, k1, k2⟩ := hc 0 (List.length_pos_iff.2 h0);have hl := sh.len k1;have := k2 0 cs[0] (List.getElem?_eq_getElem (by omega));exact Zr this
theorem K9 {k : Nat} : ∀ (css : List (List α)) (i j : Nat) (cs : List α), (∀ c ∈ css, c.length = k) → css[i]? = some cs → j < k → css.flatten[i * k + j]? = cs[j]?
 | [], i, j, cs, _, h, _ => by simp at h
 | c :: css, 0, j, cs, hl, h, hj => by
  simp only [List.getElem?_cons_zero, Option.some.injEq] at h;subst h;have := hl c (by simp);rw [List.flatten_cons, Nat.zero_mul, Nat.zero_add, List.getElem?_append_left (by omega)]
 | c :: css, i + 1, j, cs, hl, h, hj => by
  have h1 := hl c (by simp);have ih := K9 css i j cs (fun c hc => hl c (by simp [hc])) (by simpa using h) hj;rw [List.flatten_cons, List.getElem?_append_right (by rw [h1, Nat.add_mul]; omega), h1, ← ih]
  congr 1
  rw [Nat.add_mul]; omega
structure Yo {α : Type} (sh : Xz α) (S0 : Nat → Prop) (B : Nat) (v : Value) (xs : List α) (css : List (List Value)) (w : World) : Prop where
 len : css.length = xs.length
 each : ∀ i (hi : i < xs.length), ∃ cs, css[i]? = some cs ∧ sh.enc (InS S0 B w) w xs[i] cs
 row : w.ownsRow B sh.T sh.size v xs.length css.flatten
theorem Yo.nil (sh : Xz α) (S0 : Nat → Prop) (B : Nat) (w : World) : Yo sh S0 B (.slice none 0 0) [] [] w := ⟨rfl, fun i hi => by simp at hi, World.ownsRow_nil _ _ _ _⟩
theorem Yo.grow {sh : Xz α} {xs : List α} (h : Yo sh S0 B v xs css w) (hg : Zj w w') : Yo sh S0 B v xs css w' :=
 ⟨h.len, fun i hi => (h.each i hi).imp fun _ x => ⟨x.1, sh.mono (sh.keep x.2 fun b _ hb => hg.block b hb) (InS.grow hg)⟩, Z5 h.row hg⟩
theorem Yo.form {sh : Xz α} {xs : List α} (h : Yo sh S0 B v xs css w) : ∃ ao cap, v = .slice ao xs.length cap := Qf h.row
theorem Yo.slice {sh : Xz α} {xs : List α} (h : Yo sh S0 B v xs css w) : Zv sh (Z7 S0 B) w v xs := by
 have hlen : ∀ c ∈ css, c.length = sh.size := by
  intro c hc;obtain ⟨i, hi, rfl⟩ := List.mem_iff_getElem.1 hc;obtain ⟨cs, k1, k2⟩ := h.each i (by rw [← h.len]; exact hi);rw [List.getElem?_eq_getElem hi] at k1;cases k1;exact sh.len k2
 rcases h.row.2 with ⟨rfl, h0⟩ | ⟨q, cap, cur, rfl, hb, hh, k1, k2, k3, k4⟩
 ·exact .inl ⟨none, 0, rfl, List.eq_nil_of_length_eq_zero h0, fun _ => rfl⟩
 ·refine .inr ⟨q, 0, cap, .inr hb, rfl, k1, fun i hi => ?_⟩;obtain ⟨cs, e1, e2⟩ := h.each i hi;refine ⟨cs, sh.mono e2 InS.upon, fun j u hj => ?_⟩;have hjl : j < sh.size := by rw [← sh.len e2]; exact (List.getElem?_eq_some_iff.1 hj).1
  have hij : i * sh.size + j < xs.length * sh.size := by
   have : (i + 1) * sh.size ≤ xs.length * sh.size := Nat.mul_le_mul_right _ hi;rw [Nat.add_mul] at this; omega
  have c0 := h.row.cellAt (i * sh.size + j) hij;rw [Nat.zero_add, c0, K9 css i j cs hlen e1 hjl, hj]
theorem Zap (_hown : w.ownsRow B e size v n us) (hg : (w.alloc o).grownBy w3 v.ownBlock) (hne : some b ≠ v.ownBlock) (hb : b < w.heap.size) : w3.heap[b]? = w.heap[b]? :=
 (hg.block _ (by simp; omega) hne).trans ((Zd w o).block _ hb)
theorem Zul {T : TypeId} {c f} (h : w.ownsRow B e size v n us) (hne : e ≠ T) (hb : w.heap[b]? = some (.cells c T f)) : some b ≠ v.ownBlock := by
 rcases h.2 with ⟨rfl, _⟩ | ⟨q, cap, cur, rfl, _, hq, _⟩
 ·simp [Value.ownBlock]
 ·intro e1;simp [Value.ownBlock] at e1;subst e1;rw [hb] at hq; cases hq; exact hne rfl
theorem Zf1 (h : w.ownsRow B e size v n us) (hb : b < B) : some b ≠ v.ownBlock := fun e1 => by
 have := (h.lt b e1.symm).1; omega
theorem Zp7 (hown : w.ownsRow B e size v n us) (hT : e ≠ 5) (hS0 : ∀ b, S0 b → b < B) (hg : (w.alloc o).grownBy w3 v.ownBlock) : ∀ b, InS S0 B w b → b < w.heap.size → w3.heap[b]? = w.heap[b]? := by
 intro b hb hlt;refine Zap hown hg ?_ hlt;rcases hb with h | ⟨_, c, f, h⟩
 ·exact Zf1 hown (hS0 b h)
 ·exact Zul hown hT h
theorem Z0z (hown : w.ownsRow B e size v n us) (hT : e ≠ 5) (hS0 : ∀ b, S0 b → b < B) (hg : (w.alloc o).grownBy w3 v.ownBlock) : ∀ b, InS S0 B w b → InS S0 B w3 b := fun b h =>
 Xh h (fun x => x) fun ⟨k1, c, f, k2⟩ => ⟨k1, c, f, (Zp7 hown hT hS0 hg b h (Za k2)).trans k2⟩
theorem Yo.step {sh : Xz α} {v' : Value} {xs : List α} {x : α} {cs : List Value} {w3 : World} {o : Obj} (h : Yo sh S0 B v xs css w) (hT : sh.T ≠ 5) (hS0 : ∀ b, S0 b → b < B) (hx : sh.enc (InS S0 B w) w x cs)
  (hg : (w.alloc o).grownBy w3 v.ownBlock) (hown : w3.ownsRow B sh.T sh.size v' (xs.length + 1) (css.flatten ++ cs)) : Yo sh S0 B v' (xs ++ [x]) (css ++ [cs]) w3 := by
 have hk := Zp7 (S0 := S0) h.row hT hS0 hg;have hm := Z0z (S0 := S0) h.row hT hS0 hg;refine ⟨by simp [h.len], fun i hi => ?_, by simpa using hown⟩;by_cases hi2 : i < xs.length
 ·obtain ⟨y, h1, h2⟩ := h.each i hi2;refine ⟨y, by rw [List.getElem?_append_left (by rw [h.len]; exact hi2)]; exact h1, ?_⟩;rw [List.getElem_append_left hi2]; exact sh.mono (sh.keep h2 hk) hm
 ·have e : i = xs.length := by simp at hi; omega
  subst e;refine ⟨cs, by rw [← h.len]; simp, ?_⟩;have := sh.mono (sh.keep hx hk) hm;simpa using this
structure Ent where
 rc : Rec
 pair : Int
def Yg : Xz Rec where
 T := 49
 size := 4
 enc S w r cs := ∃ u, cs = [.int .i64 r.kind, .int .i64 r.key, .int .i64 r.ver, u] ∧ Z0 S w u r.data
 len := by rintro S w x cs ⟨u, rfl, _⟩; rfl
 keep := by rintro S w w' x cs ⟨u, rfl, h⟩ hk; exact ⟨u, rfl, h.keeps hk⟩
 mono := by rintro S S' w x cs ⟨u, rfl, h⟩ hS; exact ⟨u, rfl, h.mono hS⟩
 cap := by rintro S w x cs ⟨u, rfl, h⟩; exact ⟨u, rfl, h.caps⟩
 one := by
  rintro S w x cs ⟨u, rfl, h⟩ c hc;simp only [List.mem_cons, List.not_mem_nil, or_false] at hc;rcases hc with rfl | rfl | rfl | rfl
  ·rfl
  ·rfl
  ·rfl
  ·exact h.one
def Ys : Xz Ent where
 T := 66
 size := 5
 enc S w e cs := ∃ u, cs = [.int .i64 e.rc.kind, .int .i64 e.rc.key, .int .i64 e.rc.ver, u, .int .i64 e.pair] ∧ Z0 S w u e.rc.data
 len := by rintro S w x cs ⟨u, rfl, _⟩; rfl
 keep := by rintro S w w' x cs ⟨u, rfl, h⟩ hk; exact ⟨u, rfl, h.keeps hk⟩
 mono := by rintro S S' w x cs ⟨u, rfl, h⟩ hS; exact ⟨u, rfl, h.mono hS⟩
 cap := by rintro S w x cs ⟨u, rfl, h⟩; exact ⟨u, rfl, h.caps⟩
 one := by
  rintro S w x cs ⟨u, rfl, h⟩ c hc;simp only [List.mem_cons, List.not_mem_nil, or_false] at hc;rcases hc with rfl | rfl | rfl | rfl | rfl
  ·rfl
  ·rfl
  ·rfl
  ·exact h.one
  ·rfl
abbrev Yn := Zv Ys
abbrev Yz := Zv Yg
theorem Zb3 {l : List Ent} (h : Yn S w (.slice ao n cap) l) (i : Nat) (hi : i < l.length) :
  ∃ b off a c, ao = some ⟨b, off, none⟩ ∧ w.cell? ⟨b, off + i * 5, none⟩ = some (.int .i64 l[i].rc.kind) ∧ w.cell? ⟨b, off + i * 5 + 1, none⟩ = some (.int .i64 l[i].rc.key) ∧ w.cell? ⟨b, off + i * 5 + 2, none⟩ = some (.int .i64 l[i].rc.ver) ∧
   w.cell? ⟨b, off + i * 5 + 3, none⟩ = some (.slice a l[i].rc.data.length c) ∧ w.cell? ⟨b, off + i * 5 + 4, none⟩ = some (.int .i64 l[i].pair) ∧ Z0 S w (.slice a l[i].rc.data.length c) l[i].rc.data := by
 obtain ⟨b, off, rfl, _, cs, ⟨u, rfl, hu⟩, hc⟩ := h.at i hi;obtain ⟨a, c, rfl⟩ := hu.form;exact ⟨b, off, a, c, rfl, hc 0 _ rfl, hc 1 _ rfl, hc 2 _ rfl, hc 3 _ rfl, hc 4 _ rfl, hu⟩
theorem Jn {l : List Rec} (h : Yz S w (.slice ao n cap) l) (i : Nat) (hi : i < l.length) :
  ∃ b off a c, ao = some ⟨b, off, none⟩ ∧ w.cell? ⟨b, off + i * 4, none⟩ = some (.int .i64 l[i].kind) ∧ w.cell? ⟨b, off + i * 4 + 1, none⟩ = some (.int .i64 l[i].key) ∧ w.cell? ⟨b, off + i * 4 + 2, none⟩ = some (.int .i64 l[i].ver) ∧
   w.cell? ⟨b, off + i * 4 + 3, none⟩ = some (.slice a l[i].data.length c) ∧ Z0 S w (.slice a l[i].data.length c) l[i].data := by
 obtain ⟨b, off, rfl, _, cs, ⟨u, rfl, hu⟩, hc⟩ := h.at i hi;obtain ⟨a, c, rfl⟩ := hu.form;exact ⟨b, off, a, c, rfl, hc 0 _ rfl, hc 1 _ rfl, hc 2 _ rfl, hc 3 _ rfl, hu⟩
theorem Zdq : (Tryz.prog.info? 66).map (fun i => (i.zero, i.size, i.bytes)) = some (some (.agg #[.int .i64 0, .int .i64 0, .int .i64 0, .slice none 0 0, .int .i64 0]), 5, 56) := by kernel_rfl
theorem Zig (w : World) (x y z u t : Value) (e : TypeId) (j : Nat) (c : Value) (h : [x, y, z, u, t][j]? = some c) : (w.alloc (.cells #[x, y, z, u, t] e)).cell? ((⟨w.heap.size, 0, none⟩ : Addr).add j) = some c := by
 match j, h with
 | 0, h => simp at h; subst h; simp [Addr.add]
 | 1, h => simp at h; subst h; simp [Addr.add]
 | 2, h => simp at h; subst h; simp [Addr.add]
 | 3, h => simp at h; subst h; simp [Addr.add]
 | 4, h => simp at h; subst h; simp [Addr.add]
 | j + 5, h => simp at h
end Go.Proofs.YtpdnapbchcdhladGreatDoor
