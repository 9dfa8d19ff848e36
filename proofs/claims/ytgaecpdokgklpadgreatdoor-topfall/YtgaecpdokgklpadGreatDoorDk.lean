import Derived.Test.YtgaecpdokgklpadGreatDoorBRead
set_option maxHeartbeats 8000000
namespace Go.Proofs.YtgaecpdokgklpadGreatDoor
set_option maxRecDepth 100000
open Go.RowKit
open Plain Reg
abbrev Wr := Int × List UInt8
structure Dk where
 blocks : List (List UInt8)
 late : List Wr
def Xm (w : World) (v : Value) (bs : List (List UInt8)) : Prop :=
 (∃ ao cap, v = .slice ao 0 cap ∧ bs = [] ∧ (ao = none → cap = 0)) ∨
 (∃ b off cap, v = .slice (some ⟨b, off, none⟩) bs.length cap ∧ bs.length ≤ cap ∧ ∀ (i : Nat) (h : i < bs.length), ∃ u, w.cell? ⟨b, off + i, none⟩ = some u ∧ Bytes w u bs[i])
def Q4 (w : World) (v : Value) (ws : List Wr) : Prop :=
 (∃ ao cap, v = .slice ao 0 cap ∧ ws = [] ∧ (ao = none → cap = 0)) ∨
 (∃ b off cap, v = .slice (some ⟨b, off, none⟩) ws.length cap ∧ ws.length ≤ cap ∧ ∀ (i : Nat) (h : i < ws.length), w.cell? ⟨b, off + i * 2, none⟩ = some (.int .i64 ws[i].1) ∧ ∃ u, w.cell? ⟨b, off + i * 2 + 1, none⟩ = some u ∧ Bytes w u ws[i].2)
theorem Xm.grow {w w' : World} {v : Value} {bs : List (List UInt8)} (h : Xm w v bs) (hg : Zj w w') : Xm w' v bs := by
 rcases h with h | ⟨b, off, cap, rfl, h1, hc⟩
 ·exact .inl h
 ·refine .inr ⟨b, off, cap, rfl, h1, fun i hi => ?_⟩;obtain ⟨u, h2, h3⟩ := hc i hi;exact ⟨u, (Below.cell hg (Zs h2)).trans h2, Z0 h3 hg⟩
theorem Q4.grow {w w' : World} {v : Value} {ws : List Wr} (h : Q4 w v ws) (hg : Zj w w') : Q4 w' v ws := by
 rcases h with h | ⟨b, off, cap, rfl, h1, hc⟩
 ·exact .inl h
 ·refine .inr ⟨b, off, cap, rfl, h1, fun i hi => ?_⟩;obtain ⟨h0, u, h2, h3⟩ := hc i hi;exact ⟨(Below.cell hg (Zs h0)).trans h0, u, (Below.cell hg (Zs h2)).trans h2, Z0 h3 hg⟩
theorem Xm.form {w : World} {v : Value} {bs : List (List UInt8)} (h : Xm w v bs) : ∃ ao cap, v = .slice ao bs.length cap := by
 rcases h with ⟨ao, cap, rfl, rfl, _⟩ | ⟨b, off, cap, rfl, _⟩
 ·exact ⟨ao, cap, rfl⟩
 ·exact ⟨_, cap, rfl⟩
theorem Q4.form {w : World} {v : Value} {ws : List Wr} (h : Q4 w v ws) : ∃ ao cap, v = .slice ao ws.length cap := by
 rcases h with ⟨ao, cap, rfl, rfl, _⟩ | ⟨b, off, cap, rfl, _⟩
 ·exact ⟨ao, cap, rfl⟩
 ·exact ⟨_, cap, rfl⟩
theorem Xm.at {w : World} {ao : Option Addr} {n cap : Nat} {bs : List (List UInt8)} (h : Xm w (.slice ao n cap) bs) (i : Nat) (hi : i < bs.length) :
  ∃ b off, ao = some ⟨b, off, none⟩ ∧ ∃ u, w.cell? ⟨b, off + i, none⟩ = some u ∧ Bytes w u bs[i] := by
 rcases h with ⟨_, _, _, rfl, _⟩ | ⟨b, off, cp, h2, h3, h4⟩
 ·simp at hi
 ·cases h2;exact ⟨b, off, rfl, h4 i hi⟩
theorem Q4.at {w : World} {ao : Option Addr} {n cap : Nat} {ws : List Wr} (h : Q4 w (.slice ao n cap) ws) (i : Nat) (hi : i < ws.length) :
  ∃ b off, ao = some ⟨b, off, none⟩ ∧ w.cell? ⟨b, off + i * 2, none⟩ = some (.int .i64 ws[i].1) ∧ ∃ u, w.cell? ⟨b, off + i * 2 + 1, none⟩ = some u ∧ Bytes w u ws[i].2 := by
 rcases h with ⟨_, _, _, rfl, _⟩ | ⟨b, off, cp, h2, h3, h4⟩
 ·simp at hi
 ·cases h2;exact ⟨b, off, rfl, h4 i hi⟩
def Z3 (S : Nat → Prop) (w : World) (v : Value) (l : List UInt8) : Prop :=
 (∃ ao cap, v = .slice ao 0 cap ∧ l = [] ∧ (ao = none → cap = 0)) ∨
 (∃ b off cap, S b ∧ v = .slice (some ⟨b, off, none⟩) l.length cap ∧ l.length ≤ cap ∧ ∀ (i : Nat) (h : i < l.length), w.cell? ⟨b, off + i, none⟩ = some (.int .u8 (l[i].toNat : Int)))
def Xc (S : Nat → Prop) (w : World) (v : Value) (bs : List (List UInt8)) : Prop :=
 (∃ ao cap, v = .slice ao 0 cap ∧ bs = [] ∧ (ao = none → cap = 0)) ∨
 (∃ b off cap, S b ∧ v = .slice (some ⟨b, off, none⟩) bs.length cap ∧ bs.length ≤ cap ∧ ∀ (i : Nat) (h : i < bs.length), ∃ u, w.cell? ⟨b, off + i, none⟩ = some u ∧ Z3 S w u bs[i])
def Q3 (S : Nat → Prop) (w : World) (v : Value) (ws : List Wr) : Prop :=
 (∃ ao cap, v = .slice ao 0 cap ∧ ws = [] ∧ (ao = none → cap = 0)) ∨
 (∃ b off cap, S b ∧ v = .slice (some ⟨b, off, none⟩) ws.length cap ∧ ws.length ≤ cap ∧ ∀ (i : Nat) (h : i < ws.length), w.cell? ⟨b, off + i * 2, none⟩ = some (.int .i64 ws[i].1) ∧ ∃ u, w.cell? ⟨b, off + i * 2 + 1, none⟩ = some u ∧ Z3 S w u ws[i].2)
def Z7 (S : Nat → Prop) (B : Nat) : Nat → Prop := fun b => S b ∨ B ≤ b
theorem Zrr {S : Nat → Prop} {B : Nat} : ∀ b, S b → Z7 S B b := fun _ h => .inl h
theorem Yd {S : Nat → Prop} {B B' : Nat} (h : B ≤ B') : ∀ b, Z7 S B' b → Z7 S B b := fun _ hb => Xh hb (fun x => x) (fun x => Nat.le_trans h x)
theorem Z3.p {S : Nat → Prop} {w : World} {v : Value} {l : List UInt8} (h : Z3 S w v l) : Bytes w v l := by
 rcases h with h | ⟨b, off, cap, _, h⟩
 ·exact .inl h
 ·exact .inr ⟨b, off, cap, h⟩
theorem Zdf {w : World} {v : Value} {l : List UInt8} (h : Bytes w v l) : Z3 (fun b => b < w.heap.size) w v l := by
 by_cases h0 : l = []
 ·subst h0;rcases h with h | ⟨b, off, cap, rfl, h1, hc⟩
  ·exact .inl h
  ·exact .inl ⟨_, cap, rfl, rfl, fun h => by cases h⟩
 ·rcases h with ⟨_, _, _, h1, _⟩ | ⟨b, off, cap, h2, h1, hc⟩
  ·exact absurd h1 h0
  ·exact .inr ⟨b, off, cap, Zs (hc 0 (List.length_pos_iff.2 h0)), h2, h1, hc⟩
theorem Zfh {w : World} {base : Nat} {v : Value} {l : List UInt8} (S : Nat → Prop) (h : w.ownsRow base 5 1 v l.length (l.map bv)) : Z3 (Z7 S base) w v l := by
 rcases h.2 with ⟨rfl, h0⟩ | ⟨g, cap, cur, rfl, hb, hh, h1, h2, h3, h4⟩
 ·exact .inl ⟨none, 0, rfl, List.eq_nil_of_length_eq_zero h0, fun _ => rfl⟩
 ·refine .inr ⟨g, 0, cap, .inr hb, rfl, h1, fun i hi => ?_⟩;have := h.cellAt i (by omega);rw [Nat.zero_add, this];simp [hi, bv]
theorem Z3.mono {S S' : Nat → Prop} {w : World} {v : Value} {l : List UInt8} (h : Z3 S w v l) (hS : ∀ b, S b → S' b) : Z3 S' w v l := by
 rcases h with h | ⟨b, off, cap, hb, h⟩
 ·exact .inl h
 ·exact .inr ⟨b, off, cap, hS b hb, h⟩
theorem Z3.but {S : Nat → Prop} {g : Nat} {w w' : World} {v : Value} {l : List UInt8} (h : Z3 S w v l) (hg : Zp g w w') (hn : ¬ S g) : Z3 S w' v l := by
 rcases h with h | ⟨b, off, cap, hb, h1, h2, hc⟩
 ·exact .inl h
 ·refine .inr ⟨b, off, cap, hb, h1, h2, fun i hi => ?_⟩;have h3 := hc i hi;exact (hg.cell (Zs h3) (fun e => hn (by rw [← e]; exact hb))).trans h3
theorem Z3.grow {S : Nat → Prop} {w w' : World} {v : Value} {l : List UInt8} (h : Z3 S w v l) (hg : Zj w w') : Z3 S w' v l := by
 rcases h with h | ⟨b, off, cap, hb, h1, h2, hc⟩
 ·exact .inl h
 ·exact .inr ⟨b, off, cap, hb, h1, h2, fun i hi => (Below.cell hg (Zs (hc i hi))).trans (hc i hi)⟩
theorem Xc.p {S : Nat → Prop} {w : World} {v : Value} {bs : List (List UInt8)} (h : Xc S w v bs) : Xm w v bs := by
 rcases h with h | ⟨b, off, cap, _, h1, h2, h⟩
 ·exact .inl h
 ·refine .inr ⟨b, off, cap, h1, h2, fun i hi => ?_⟩;obtain ⟨u, h3, h4⟩ := h i hi;exact ⟨u, h3, h4.p⟩
theorem Xm.s {w : World} {v : Value} {bs : List (List UInt8)} (h : Xm w v bs) : Xc (fun b => b < w.heap.size) w v bs := by
 by_cases h0 : bs = []
 ·subst h0;rcases h with h | ⟨b, off, cap, rfl, h1, hc⟩
  ·exact .inl h
  ·exact .inl ⟨_, cap, rfl, rfl, fun h => by cases h⟩
 ·rcases h with ⟨_, _, _, h1, _⟩ | ⟨b, off, cap, h2, h1, hc⟩
  ·exact absurd h1 h0
  ·refine .inr ⟨b, off, cap, ?_, h2, h1, fun i hi => ?_⟩
   ·obtain ⟨u, h3, _⟩ := hc 0 (List.length_pos_iff.2 h0);exact Zs h3
   ·obtain ⟨u, h3, h4⟩ := hc i hi;exact ⟨u, h3, Zdf h4⟩
theorem Xc.mono {S S' : Nat → Prop} {w : World} {v : Value} {bs : List (List UInt8)} (h : Xc S w v bs) (hS : ∀ b, S b → S' b) : Xc S' w v bs := by
 rcases h with h | ⟨b, off, cap, hb, h1, h2, h⟩
 ·exact .inl h
 ·refine .inr ⟨b, off, cap, hS b hb, h1, h2, fun i hi => ?_⟩;obtain ⟨u, h3, h4⟩ := h i hi;exact ⟨u, h3, h4.mono hS⟩
theorem Xc.but {S : Nat → Prop} {g : Nat} {w w' : World} {v : Value} {bs : List (List UInt8)} (h : Xc S w v bs) (hg : Zp g w w') (hn : ¬ S g) : Xc S w' v bs := by
 rcases h with h | ⟨b, off, cap, hb, h1, h2, hc⟩
 ·exact .inl h
 ·refine .inr ⟨b, off, cap, hb, h1, h2, fun i hi => ?_⟩;obtain ⟨u, h3, h4⟩ := hc i hi;exact ⟨u, (hg.cell (Zs h3) (fun e => hn (by rw [← e]; exact hb))).trans h3, h4.but hg hn⟩
theorem Xc.grow {S : Nat → Prop} {w w' : World} {v : Value} {bs : List (List UInt8)} (h : Xc S w v bs) (hg : Zj w w') : Xc S w' v bs := by
 rcases h with h | ⟨b, off, cap, hb, h1, h2, hc⟩
 ·exact .inl h
 ·refine .inr ⟨b, off, cap, hb, h1, h2, fun i hi => ?_⟩;obtain ⟨u, h3, h4⟩ := hc i hi;exact ⟨u, (Below.cell hg (Zs h3)).trans h3, h4.grow hg⟩
theorem Xc.at {S : Nat → Prop} {w : World} {ao : Option Addr} {n cap : Nat} {bs : List (List UInt8)} (h : Xc S w (.slice ao n cap) bs) (i : Nat) (hi : i < bs.length) :
  ∃ b off, ao = some ⟨b, off, none⟩ ∧ ∃ u, w.cell? ⟨b, off + i, none⟩ = some u ∧ Z3 S w u bs[i] := by
 rcases h with ⟨_, _, _, rfl, _⟩ | ⟨b, off, cp, _, h2, h3, h4⟩
 ·simp at hi
 ·cases h2;exact ⟨b, off, rfl, h4 i hi⟩
theorem Q3.p {S : Nat → Prop} {w : World} {v : Value} {ws : List Wr} (h : Q3 S w v ws) : Q4 w v ws := by
 rcases h with h | ⟨b, off, cap, _, h1, h2, h⟩
 ·exact .inl h
 ·refine .inr ⟨b, off, cap, h1, h2, fun i hi => ?_⟩;obtain ⟨h0, u, h3, h4⟩ := h i hi;exact ⟨h0, u, h3, h4.p⟩
theorem Q4.s {w : World} {v : Value} {ws : List Wr} (h : Q4 w v ws) : Q3 (fun b => b < w.heap.size) w v ws := by
 by_cases h0 : ws = []
 ·subst h0;rcases h with h | ⟨b, off, cap, rfl, h1, hc⟩
  ·exact .inl h
  ·exact .inl ⟨_, cap, rfl, rfl, fun h => by cases h⟩
 ·rcases h with ⟨_, _, _, h1, _⟩ | ⟨b, off, cap, h2, h1, hc⟩
  ·exact absurd h1 h0
  ·refine .inr ⟨b, off, cap, Zs (hc 0 (List.length_pos_iff.2 h0)).1, h2, h1, fun i hi => ?_⟩;obtain ⟨hq, u, h3, h4⟩ := hc i hi;exact ⟨hq, u, h3, Zdf h4⟩
theorem Q3.mono {S S' : Nat → Prop} {w : World} {v : Value} {ws : List Wr} (h : Q3 S w v ws) (hS : ∀ b, S b → S' b) : Q3 S' w v ws := by
 rcases h with h | ⟨b, off, cap, hb, h1, h2, h⟩
 ·exact .inl h
 ·refine .inr ⟨b, off, cap, hS b hb, h1, h2, fun i hi => ?_⟩;obtain ⟨h0, u, h3, h4⟩ := h i hi;exact ⟨h0, u, h3, h4.mono hS⟩
theorem Q3.but {S : Nat → Prop} {g : Nat} {w w' : World} {v : Value} {ws : List Wr} (h : Q3 S w v ws) (hg : Zp g w w') (hn : ¬ S g) : Q3 S w' v ws := by
 rcases h with h | ⟨b, off, cap, hb, h1, h2, hc⟩
 ·exact .inl h
 ·refine .inr ⟨b, off, cap, hb, h1, h2, fun i hi => ?_⟩;obtain ⟨h0, u, h3, h4⟩ := hc i hi;exact ⟨(hg.cell (Zs h0) (fun e => hn (by rw [← e]; exact hb))).trans h0, u, (hg.cell (Zs h3) (fun e => hn (by rw [← e]; exact hb))).trans h3, h4.but hg hn⟩
theorem Q3.grow {S : Nat → Prop} {w w' : World} {v : Value} {ws : List Wr} (h : Q3 S w v ws) (hg : Zj w w') : Q3 S w' v ws := by
 rcases h with h | ⟨b, off, cap, hb, h1, h2, hc⟩
 ·exact .inl h
 ·refine .inr ⟨b, off, cap, hb, h1, h2, fun i hi => ?_⟩;obtain ⟨h0, u, h3, h4⟩ := hc i hi;exact ⟨(Below.cell hg (Zs h0)).trans h0, u, (Below.cell hg (Zs h3)).trans h3, h4.grow hg⟩
theorem Qs {α : Type} [BEq α] [LawfulBEq α] {a b : α} (h : a ≠ b) : (a == b) = false := by simpa using h
def Vp (ws : List Wr) (a : Int) : Option (List UInt8) := ws.foldl (fun r x => if x.1 = a then some x.2 else r) none
theorem Zm3 (ws : List Wr) (x : Wr) (a : Int) : Vp (ws ++ [x]) a = if x.1 = a then some x.2 else Vp ws a := by simp [Vp, List.foldl_append]
theorem Zm2 (ws : List Wr) (a : Int) (k : Nat) (h : k < ws.length) : Vp (ws.take (k + 1)) a = if ws[k].1 = a then some ws[k].2 else Vp (ws.take k) a := by
 rw [List.take_succ_eq_append_getElem h, Zm3]
def Dk.get (d : Dk) (a : Int) : Option (List UInt8) := if a < 0 ∨ (d.blocks.length : Int) ≤ a then none else some ((Vp d.late a).getD (d.blocks.getD a.toNat []))
def Dk.getE (d : Dk) (a : Int) : Int := if a < 0 ∨ (d.blocks.length : Int) ≤ a then 3 else 0
def Dk.put (d : Dk) (a : Int) (b : List UInt8) : Dk := ⟨d.blocks, d.late ++ [(a, b)]⟩
def Jr : List Wr → List Value → List Value
 | x :: ws, u :: us => .int .i64 x.1 :: u :: Jr ws us
 | _, _ => []
theorem Zhq : ∀ (ws : List Wr) (us : List Value) (i : Nat), us.length = ws.length → (h : i < ws.length) → (Jr ws us)[i * 2]? = some (.int .i64 ws[i].1)
 | [], us, i, _, h => by simp at h
 | x :: ws, [], i, h, _ => by simp at h
 | x :: ws, u :: us, 0, _, _ => by simp [Jr]
 | x :: ws, u :: us, i + 1, h, hi => by
  have := Zhq ws us i (by simpa using h) (by simpa using hi);rw [show (i + 1) * 2 = i * 2 + 1 + 1 from by omega];simpa [Jr] using this
theorem Zk0 : ∀ (ws : List Wr) (us : List Value) (i : Nat), us.length = ws.length → i < ws.length → (Jr ws us)[i * 2 + 1]? = us[i]?
 | [], us, i, _, h => by simp at h
 | x :: ws, [], i, h, _ => by simp at h
 | x :: ws, u :: us, 0, _, _ => by simp [Jr]
 | x :: ws, u :: us, i + 1, h, hi => by
  have := Zk0 ws us i (by simpa using h) (by simpa using hi);rw [show (i + 1) * 2 + 1 = i * 2 + 1 + 1 + 1 from by omega];simpa [Jr] using this
theorem Zk1 : ∀ (ws : List Wr) (us : List Value) (x : Wr) (u : Value), us.length = ws.length → Jr (ws ++ [x]) (us ++ [u]) = Jr ws us ++ [.int .i64 x.1, u]
 | [], [], x, u, _ => by simp [Jr]
 | [], _ :: _, x, u, h => by simp at h
 | _ :: _, [], x, u, h => by simp at h
 | y :: ws, v :: us, x, u, h => by simp [Jr, Zk1 ws us x u (by simpa using h)]
theorem Zkn {S : Nat → Prop} {w : World} {base : Nat} {v : Value} {ws : List Wr} {us : List Value} (h : w.ownsRow base 118 2 v ws.length (Jr ws us)) (hl : us.length = ws.length) (hu : ∀ i (hi : i < ws.length), ∃ u, us[i]? = some u ∧ Z3 S w u ws[i].2) : Q3 (Z7 S base) w v ws := by
 rcases h.2 with ⟨rfl, h0⟩ | ⟨g, cap, cur, rfl, hb, hh, h1, h2, h3, h4⟩
 ·exact .inl ⟨none, 0, rfl, List.eq_nil_of_length_eq_zero h0, fun _ => rfl⟩
 ·refine .inr ⟨g, 0, cap, .inr hb, rfl, h1, fun i hi => ?_⟩;have k0 := h.cellAt (i * 2) (by omega);have k1 := h.cellAt (i * 2 + 1) (by omega);rw [Zhq ws us i hl hi] at k0;rw [Zk0 ws us i hl hi] at k1;obtain ⟨u, hu1, hu2⟩ := hu i hi;rw [hu1] at k1;refine ⟨by rw [Nat.zero_add]; exact k0, u, by rw [Nat.zero_add]; exact k1, hu2.mono Zrr⟩
theorem Zcf : (Tryz.prog.info? 118).map (fun i => (i.zero, i.size, i.bytes)) = some (some (.agg #[.int .i64 0, .slice none 0 0]), 2, 32) := by kernel_rfl
theorem hx1 (w : World) (c e : Array Value) : ((w.alloc (.cells c 27)).alloc (.cells e 27)).heap[w.heap.size]? = some (.cells c 27 (0, 0)) :=
 ((Zd (w.alloc (.cells c 27)) _).block _ (by simp)).trans (Zk _ _ _)
theorem hy1 (w : World) (c e : Array Value) : ((w.alloc (.cells c 27)).alloc (.cells e 27)).heap[w.heap.size + 1]? = some (.cells e 27 (0, 0)) := by
 have h := Zk (w.alloc (.cells c 27)) e 27;rw [World.size_alloc] at h;exact h
theorem Qo {w : World} {base n size : Nat} {e : TypeId} {v : Value} {xs : List Value} (h : w.ownsRow base e size v n xs) : ∃ ao cap, v = .slice ao n cap := by
 rcases h.2 with ⟨h1, h0⟩ | ⟨g, cap, cur, rfl, hb, _⟩
 ·subst h0; exact ⟨none, 0, h1⟩
 ·exact ⟨_, cap, rfl⟩
def Dk.pairE (d : Dk) (p : Int) (r : Rec) : Int := if p < 0 ∨ ((d.blocks.length / 2 : Nat) : Int) ≤ p then 3 else Z6 r
def Dk.pairW (d : Dk) (p : Int) (r : Rec) : Dk := ⟨d.blocks, d.late ++ [(2 * p, blk r (2 * p)), (2 * p + 1, blk r (2 * p + 1))]⟩
def Dk.pairD (d : Dk) (p : Int) (r : Rec) : Dk := if d.pairE p r = 0 then d.pairW p r else d
theorem Xv {w : World} {g : Nat} {T : TypeId} {f} {c0 c1 : Value} (h : w.heap[g]? = some (.cells #[c0, c1] T f)) (x0 x1 : Value) :
  ((w.setCell ⟨g, 0, none⟩ x0).setCell ⟨g, 1, none⟩ x1).heap[g]? = some (.cells #[x0, x1] T f) ∧ Zp g w ((w.setCell ⟨g, 0, none⟩ x0).setCell ⟨g, 1, none⟩ x1) := by
 refine ⟨?_, ((Zp.refl g w).set _ _ _).set _ _ _⟩;have h1 := heap_set (heap_set h 0 x0) 1 x1;simpa using h1
end Go.Proofs.YtgaecpdokgklpadGreatDoor
namespace Go.Proofs.YtgaecpdokgklpadGreatDoor
set_option maxRecDepth 100000
open Plain
def Dk.keepTo (d : Dk) (on : Nat → Bool) : Nat → List (List UInt8)
 | 0 => d.blocks
 | k + 1 => if on k = true then (d.keepTo on k).set (d.late.getD k (0, [])).1.toNat (d.late.getD k (0, [])).2 else d.keepTo on k
def Qh (bits : Int) (k : Nat) : Bool := decide (k < 60) && ((bits % 18446744073709551616).toNat / 2 ^ k % 2 == 1)
def Dk.keep (d : Dk) (bits : Int) : Dk := ⟨d.keepTo (Qh bits) d.late.length, []⟩
def Dk.flush (d : Dk) : Dk := ⟨d.keepTo (fun _ => true) d.late.length, []⟩
def turned (b : List UInt8) (n : Int) (y : Int) : List UInt8 := if 0 ≤ n ∧ n < (b.length : Int) then b.set n.toNat (b.getD n.toNat 0 ^^^ lo y) else b
def Dk.spoil (d : Dk) (a n y : Int) : Dk := if 0 ≤ a ∧ a < (d.blocks.length : Int) then ⟨d.blocks.set a.toNat (turned (d.blocks.getD a.toNat []) n y), d.late⟩ else d
def Dk.new : Dk := ⟨(List.range 12).map fun (i : Nat) => blk ⟨1, 0, 0, []⟩ (i : Int), []⟩
theorem Kj {α : Type} (l : List α) (i : Nat) (x : α) (h : i < l.length) : l.getD i x = l[i] := by
 rw [List.getD_eq_getElem?_getD, List.getElem?_eq_getElem h]; rfl
theorem Qc {α : Type} (l : List α) (i j : Nat) (y x : α) (h : i < l.length) : (l.set j y).getD i x = if j = i then y else l.getD i x := by
 rw [List.getD_eq_getElem?_getD, List.getD_eq_getElem?_getD, List.getElem?_set];by_cases hj : j = i
 ·subst hj; simp [h]
 ·simp [hj]
theorem Dk.keepTo_length (d : Dk) (on : Nat → Bool) : ∀ k, (d.keepTo on k).length = d.blocks.length
 | 0 => rfl
 | k + 1 => by
  show (if on k = true then _ else _ : List (List UInt8)).length = _;split
  ·rw [List.length_set]; exact keepTo_length d on k
  ·exact keepTo_length d on k
theorem Dk.keepTo_none (d : Dk) (on : Nat → Bool) (h : ∀ k, on k = false) : ∀ k, d.keepTo on k = d.blocks
 | 0 => rfl
 | k + 1 => by
  show (if on k = true then _ else _) = _;rw [h k, if_neg (by decide)]; exact keepTo_none d on h k
theorem Zno (k : Nat) : Qh 0 k = false := by
 unfold Qh;have : ((0 : Int) % 18446744073709551616).toNat = 0 := by decide
 rw [this, Nat.zero_div]; simp
theorem Dk.keep_none (d : Dk) : (d.keep 0).blocks = d.blocks := d.keepTo_none _ Zno _
end Go.Proofs.YtgaecpdokgklpadGreatDoor
namespace Go.Proofs.YtgaecpdokgklpadGreatDoor
set_option maxRecDepth 100000
open Go.RowKit
open Plain Reg
def InS (S0 : Nat → Prop) (B : Nat) (w : World) (b : Nat) : Prop := S0 b ∨ (B ≤ b ∧ ∃ c f, w.heap[b]? = some (.cells c 5 f))
theorem InS.grow {S0 : Nat → Prop} {B : Nat} {w w' : World} (hg : Zj w w') (b : Nat) (h : InS S0 B w b) : InS S0 B w' b :=
 Xh h (fun x => x) fun ⟨h1, c, f, h2⟩ => ⟨h1, c, f, (hg.block _ (Zb h2)).trans h2⟩
theorem InS.upon {S0 : Nat → Prop} {B : Nat} {w : World} (b : Nat) (h : InS S0 B w b) : Z7 S0 B b := Xh h (fun x => x) fun h => h.1
theorem Zfj {w : World} {base B : Nat} {v : Value} {l : List UInt8} (S0 : Nat → Prop) (hb : B ≤ base) (h : w.ownsRow base 5 1 v l.length (l.map bv)) : Z3 (InS S0 B w) w v l := by
 rcases h.2 with ⟨rfl, h0⟩ | ⟨q, cap, cur, rfl, hq, hh, h1, h2, h3, h4⟩
 ·exact .inl ⟨none, 0, rfl, List.eq_nil_of_length_eq_zero h0, fun _ => rfl⟩
 ·refine .inr ⟨q, 0, cap, .inr ⟨by omega, _, _, hh⟩, rfl, h1, fun i hi => ?_⟩;have := h.cellAt i (by omega);rw [Nat.zero_add, this];simp [hi, bv]
theorem Zm5 : (Tryz.prog.info? 38).map (fun i => (i.zero, i.size, i.bytes)) = some (some (.slice none 0 0), 1, 24) := by kernel_rfl
theorem Zd0 {w : World} {base g n i : Nat} {e T : TypeId} {c f} {v x : Value} {xs : List Value} (h : w.ownsRow base e 1 v n xs) (hg : w.heap[g]? = some (.cells c T f)) (hT : e ≠ T) : (w.setCell ⟨g, i, none⟩ x).ownsRow base e 1 v n xs := by
 refine ⟨h.1, Xh h.2 (fun x => x) fun ⟨q, cap, cur, h1, h2, h3, r⟩ => ⟨q, cap, cur, h1, h2, ?_, r⟩⟩;rw [Below.heap_setCell _ _ _ _ (by rintro rfl; rw [hg] at h3; cases h3; exact hT rfl)];exact h3
end Go.Proofs.YtgaecpdokgklpadGreatDoor
