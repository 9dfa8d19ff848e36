/-
  What the document's GetBlock and PutBlock tell of any disk.
  Condition: the disk lies in memory.
-/
import Derived.Test.YtgaecpdokgklpabDoorRDisk
namespace Go.Proofs.YtgaecpdokgklpabDoor
set_option maxRecDepth 100000
open Go.RowKit
open Go.Proofs.YtgaecpdokgklpabDoor.Plain Go.Proofs.YtgaecpdokgklpabDoor.Reg

/-- What was written last of a block. -/
def lastW (ws : List Wr) (a : Int) : Option (List UInt8) := ws.foldl (fun r x => if x.1 = a then some x.2 else r) none
theorem lastW_snoc (ws : List Wr) (x : Wr) (a : Int) : lastW (ws ++ [x]) a = if x.1 = a then some x.2 else lastW ws a := by simp [lastW, List.foldl_append]
theorem lastW_take (ws : List Wr) (a : Int) (k : Nat) (h : k < ws.length) : lastW (ws.take (k + 1)) a = if ws[k].1 = a then some ws[k].2 else lastW (ws.take k) a := by
 rw [List.take_succ_eq_append_getElem h, lastW_snoc]
/-- What is read of a block: none, where there is no such block. -/
def Dk.get (d : Dk) (a : Int) : Option (List UInt8) := if a < 0 ∨ (d.blocks.length : Int) ≤ a then none else some ((lastW d.late a).getD (d.blocks.getD a.toNat []))
def Dk.getE (d : Dk) (a : Int) : Int := if a < 0 ∨ (d.blocks.length : Int) ≤ a then 3 else 0
def Dk.put (d : Dk) (a : Int) (b : List UInt8) : Dk := ⟨d.blocks, d.late ++ [(a, b)]⟩
def Dk.putE (d : Dk) (a : Int) (b : List UInt8) : Int := if a < 0 ∨ (d.blocks.length : Int) ≤ a then 3 else if b.length ≠ 16 then 2 else 0
def Dk.putD (d : Dk) (a : Int) (b : List UInt8) : Dk := if d.putE a b = 0 then d.put a b else d

theorem ret_two {v u v' u' : Value} (h1 : v = v') (h2 : u = u') : Ending.returned (.tuple #[v, u]) = .returned (.tuple #[v', u']) := by rw [h1, h2]

/-- Writes' cells: each one's place, and its slice. -/
def flat : List Wr → List Value → List Value
 | x :: ws, u :: us => .int .i64 x.1 :: u :: flat ws us
 | _, _ => []
theorem flat_length : ∀ (ws : List Wr) (us : List Value), us.length = ws.length → (flat ws us).length = ws.length * 2
 | [], us, _ => by simp [flat]
 | x :: ws, [], h => by simp at h
 | x :: ws, u :: us, h => by simp [flat, flat_length ws us (by simpa using h)]; omega
theorem flat_even : ∀ (ws : List Wr) (us : List Value) (i : Nat), us.length = ws.length → (h : i < ws.length) → (flat ws us)[i * 2]? = some (.int .i64 ws[i].1)
 | [], us, i, _, h => by simp at h
 | x :: ws, [], i, h, _ => by simp at h
 | x :: ws, u :: us, 0, _, _ => by simp [flat]
 | x :: ws, u :: us, i + 1, h, hi => by
  have := flat_even ws us i (by simpa using h) (by simpa using hi)
  rw [show (i + 1) * 2 = i * 2 + 1 + 1 from by omega]
  simpa [flat] using this
theorem flat_odd : ∀ (ws : List Wr) (us : List Value) (i : Nat), us.length = ws.length → i < ws.length → (flat ws us)[i * 2 + 1]? = us[i]?
 | [], us, i, _, h => by simp at h
 | x :: ws, [], i, h, _ => by simp at h
 | x :: ws, u :: us, 0, _, _ => by simp [flat]
 | x :: ws, u :: us, i + 1, h, hi => by
  have := flat_odd ws us i (by simpa using h) (by simpa using hi)
  rw [show (i + 1) * 2 + 1 = i * 2 + 1 + 1 + 1 from by omega]
  simpa [flat] using this
theorem flat_app : ∀ (ws : List Wr) (us : List Value) (x : Wr) (u : Value), us.length = ws.length → flat (ws ++ [x]) (us ++ [u]) = flat ws us ++ [.int .i64 x.1, u]
 | [], [], x, u, _ => by simp [flat]
 | [], _ :: _, x, u, h => by simp at h
 | _ :: _, [], x, u, h => by simp at h
 | y :: ws, v :: us, x, u, h => by simp [flat, flat_app ws us x u (by simpa using h)]
theorem flat_mem : ∀ (ws : List Wr) (us : List Value) (c : Value), c ∈ flat ws us → (∃ n, c = .int .i64 n) ∨ c ∈ us
 | [], us, c, h => by simp [flat] at h
 | x :: ws, [], c, h => by simp [flat] at h
 | x :: ws, u :: us, c, h => by
  simp only [flat, List.mem_cons] at h
  rcases h with h | h | h
  ·exact .inl ⟨_, h⟩
  ·exact .inr (by simp [h])
  ·rcases flat_mem ws us c h with h | h
   ·exact .inl h
   ·exact .inr (by simp [h])

/-- A slice of writes as append wants its source. -/
theorem late_src {S : Nat → Prop} {w : World} {v : Value} {ws : List Wr} (h : LateS S w v ws) :
  ∃ ao cap us, v = .slice ao ws.length cap ∧ us.length = ws.length ∧ (ao = none → ws.length = 0 ∧ cap = 0) ∧ (∀ ad, ao = some ad → ∀ (j : Nat) u, (flat ws us)[j]? = some u → w.cell? (ad.add j) = some u) ∧ (∀ i (hi : i < ws.length), ∃ u, us[i]? = some u ∧ BytesS S w u ws[i].2) := by
 rcases h with ⟨ao, cap, rfl, rfl, h0⟩ | ⟨b, off, cap, hSb, rfl, h1, hc⟩
 ·exact ⟨ao, cap, [], rfl, rfl, fun h => ⟨rfl, h0 h⟩, fun ad _ j u hj => by simp [flat] at hj, fun i hi => by simp at hi⟩
 ·have hex : ∃ f : Nat → Value, ∀ i (hi : i < ws.length), w.cell? ⟨b, off + i * 2 + 1, none⟩ = some (f i) ∧ BytesS S w (f i) ws[i].2 := by
   refine ⟨fun i => if hi : i < ws.length then (hc i hi).2.choose else undef, fun i hi => ?_⟩
   simp only [hi, dif_pos]
   exact (hc i hi).2.choose_spec
  obtain ⟨f, hf⟩ := hex
  have hul : ((List.range ws.length).map f).length = ws.length := by simp
  refine ⟨_, cap, (List.range ws.length).map f, rfl, hul, fun h => (by cases h), fun ad had j u hj => ?_, fun i hi => ⟨f i, by simp [hi], (hf i hi).2⟩⟩
  cases had
  have hjl : j < ws.length * 2 := by
   rw [← flat_length ws _ hul]
   rcases Nat.lt_or_ge j (flat ws ((List.range ws.length).map f)).length with h | h
   ·exact h
   ·rw [List.getElem?_eq_none h] at hj; cases hj
  have e : ∀ m, (⟨b, off, none⟩ : Addr).add m = ⟨b, off + m, none⟩ := fun m => by simp [Addr.add]
  rcases Nat.mod_two_eq_zero_or_one j with hm | hm
  ·obtain ⟨i, rfl⟩ : ∃ i, j = i * 2 := ⟨j / 2, by omega⟩
   rw [flat_even ws _ i hul (by omega)] at hj
   cases hj
   rw [e]
   exact (hc i (by omega)).1
  ·obtain ⟨i, rfl⟩ : ∃ i, j = i * 2 + 1 := ⟨j / 2, by omega⟩
   rw [flat_odd ws _ i hul (by omega)] at hj
   have : u = f i := by simp [show i < ws.length from by omega] at hj; exact hj.symm
   subst this
   rw [e]
   exact (hf i (by omega)).1

theorem bytes_one {w : World} {v : Value} {l : List UInt8} (h : Bytes w v l) : v.oneCell' = true := by
 obtain ⟨ao, cap, rfl, -, -⟩ := bytes_src h; rfl

theorem own_slice2 {w : World} {base n size : Nat} {e : TypeId} {v : Value} {xs : List Value} (h : w.ownsRow base e size v n xs) : ∃ ao cap, v = .slice ao n cap := by
 rcases h.2 with ⟨h1, h0⟩ | ⟨g, cap, cur, rfl, hb, _⟩
 ·subst h0; exact ⟨none, 0, h1⟩
 ·exact ⟨_, cap, rfl⟩
theorem put_grow {W w2 w3 : World} {o p : Obj} {r : Option Nat} {v : Value} {e : TypeId} {size n B : Nat} {xs : List Value} (hB : W.heap.size = B) (h2 : (W.alloc o).grownBy w2 r) (h3 : (w2.alloc p).grownBy w3 v.ownBlock) (hr : r = some B) (hown : w2.ownsRow B e size v n xs) : Grow W w3 := by
 have g2 : Grow W w2 := grow_of_grown (grow_alloc W _) h2 (fun k hk => by rw [hr] at hk; cases hk; omega)
 exact grow_of_grown (g2.trans (grow_alloc w2 _)) h3 (fun k hk => by have := (hown.lt k hk).1; omega)

theorem put_grow2 {W w3 : World} {o p : Obj} {r : Option Nat} {B : Nat} (hB : W.heap.size = B) (h3 : ((W.alloc o).alloc p).grownBy w3 r) (hr : r = some B) : Grow W w3 :=
 grow_of_grown ((grow_alloc W _).trans (grow_alloc _ _)) h3 (fun k hk => by rw [hr] at hk; cases hk; omega)
end Go.Proofs.YtgaecpdokgklpabDoor
