/-
  What the document's Read tells of any bytes at a place: the record that stands in them, or why they are no block of it.
  Condition: the slice holds those bytes.
-/
import Derived.Test.YtgaecpdokgklpabDoorBRead
import Derived.Test.YtgaecpdokgklpabDoorJReg
namespace Go.Proofs.YtgaecpdokgklpabDoor
set_option maxRecDepth 100000
open Go.RowKit
open Go.Proofs.YtgaecpdokgklpabDoor.Plain Go.Proofs.YtgaecpdokgklpabDoor.Reg

/-- What Read answers. -/
def ReadQ (w : World) (l : List UInt8) (at_ : Int) (e : Ending) (w' : World) : Prop :=
 ∃ d, e = .returned (.tuple #[.agg #[.int .i64 (readR l at_).kind, .int .i64 (readR l at_).key, .int .i64 (readR l at_).ver, d], .int .i64 (readE l at_)]) ∧ w'.ownsRow w.heap.size 5 1 d (readR l at_).data.length ((readR l at_).data.map bv) ∧ Grow w w'
theorem readQ_no {w w' : World} {l : List UInt8} {at_ e : Int} (h : readE l at_ = e) (h0 : e ≠ 0) (hg : Grow w w') : ReadQ w l at_ (.returned (.tuple #[.agg #[.int .i64 0, .int .i64 0, .int .i64 0, .slice none 0 0], .int .i64 e])) w' := by
 have hr : readR l at_ = Rec.none := by unfold readR; rw [h, if_neg h0]
 unfold ReadQ
 rw [hr, h]
 exact ⟨_, rfl, World.ownsRow_nil _ _ _ _, hg⟩

theorem readE_spoilt {l : List UInt8} {at_ e : Int} (h : spoilt l at_ = e) (h0 : e ≠ 0) : readE l at_ = e := by unfold readE; rw [h, if_neg h0]

/-- What stands in a block, its data up to a place. -/
def dataTo (l : List UInt8) (j : Nat) : List UInt8 := (l.drop 6).take (min (j - 6) (at' l 5).toNat)
/-- Behind the data there are noughts up to a place. -/
def cleanTo (l : List UInt8) (j : Nat) : Prop := ∀ i, 6 + (at' l 5).toNat ≤ i → i < j → at' l i = 0
theorem at_eq (l : List UInt8) (i : Nat) (h : i < l.length) : at' l i = l[i] := by unfold at'; rw [List.getD_eq_getElem?_getD, List.getElem?_eq_getElem h]; rfl
theorem dataTo_succ (l : List UInt8) (j : Nat) (hl : l.length = 16) (h6 : 6 ≤ j) (hj : j < 6 + (at' l 5).toNat) (h8 : (at' l 5).toNat ≤ 8) : dataTo l (j + 1) = dataTo l j ++ [at' l j] := by
 unfold dataTo
 rw [show min (j + 1 - 6) (at' l 5).toNat = (j - 6) + 1 from by omega, show min (j - 6) (at' l 5).toNat = j - 6 from by omega, List.take_succ_eq_append_getElem (by simp; omega)]
 congr 2
 rw [at_eq l j (by omega), List.getElem_drop]
 congr 1
 omega
theorem dataTo_same (l : List UInt8) (j : Nat) (hj : 6 + (at' l 5).toNat ≤ j) : dataTo l (j + 1) = dataTo l j := by
 unfold dataTo
 rw [show min (j + 1 - 6) (at' l 5).toNat = (at' l 5).toNat from by omega, show min (j - 6) (at' l 5).toNat = (at' l 5).toNat from by omega]
theorem dataTo_len (l : List UInt8) (j : Nat) (hl : l.length = 16) (h8 : (at' l 5).toNat ≤ 8) : (dataTo l j).length = min (j - 6) (at' l 5).toNat := by
 unfold dataTo; simp; omega
theorem dataTo_last (l : List UInt8) (h8 : (at' l 5).toNat ≤ 8) : dataTo l 14 = (recOf l).data := by
 unfold dataTo recOf
 rw [show min (14 - 6) (at' l 5).toNat = (at' l 5).toNat from by omega]
theorem rest_get (l : List UInt8) (hl : l.length = 16) (h8 : (at' l 5).toNat ≤ 8) (c : UInt8) : c ∈ restOf l ↔ ∃ i, 6 + (at' l 5).toNat ≤ i ∧ i < 14 ∧ at' l i = c := by
 unfold restOf
 rw [List.mem_iff_getElem]
 constructor
 ·rintro ⟨i, hi, rfl⟩
  simp only [List.length_take, List.length_drop] at hi
  refine ⟨6 + (at' l 5).toNat + i, by omega, by omega, ?_⟩
  rw [at_eq l _ (by omega)]
  simp
 ·rintro ⟨i, h1, h2, rfl⟩
  refine ⟨i - (6 + (at' l 5).toNat), by simp; omega, ?_⟩
  rw [at_eq l i (by omega), List.getElem_take, List.getElem_drop]
  congr 1
  omega
theorem clean_last (l : List UInt8) (hl : l.length = 16) (h8 : (at' l 5).toNat ≤ 8) (h : cleanTo l 14) : noughtsB (restOf l) = true := by
 unfold noughtsB
 rw [List.all_eq_true]
 intro c hc
 obtain ⟨i, h1, h2, rfl⟩ := (rest_get l hl h8 c).1 hc
 simp [h i h1 h2]
theorem clean_not (l : List UInt8) (j : Nat) (hl : l.length = 16) (h8 : (at' l 5).toNat ≤ 8) (h1 : 6 + (at' l 5).toNat ≤ j) (h2 : j < 14) (h : at' l j ≠ 0) : noughtsB (restOf l) = false := by
 unfold noughtsB
 rw [List.all_eq_false]
 exact ⟨at' l j, (rest_get l hl h8 _).2 ⟨j, h1, h2, rfl⟩, by simpa using h⟩

/-- A row of one byte, another one than d's. -/
def OneQ (d : Value) (x : UInt8) (v : Value) (w : World) : Prop := ∃ b0, v = .slice (some ⟨b0, 0, none⟩) 1 1 ∧ w.heap[b0]? = some (.cells #[bv x] 5 (0, 0)) ∧ ∀ q, d.ownBlock = some q → b0 ≠ q
theorem st_one (d : Value) (x : UInt8) : Stable (OneQ d x) := by
 rintro v w w' hg ⟨b0, h1, h2, h3⟩
 exact ⟨b0, h1, (hg.block _ (heap_lt h2)).trans h2, h3⟩
/-- d's row grew, or nothing was done. -/
def AppStep (d : Value) (w w' : World) : Prop := w' = w ∨ w.grownBy w' d.ownBlock
theorem sp_one_app {d : Value} {x : UInt8} {v : Value} {w w' : World} (hs : AppStep d w w') (h : OneQ d x v w) : OneQ d x v w' := by
 rcases hs with rfl | hs
 ·exact h
 ·obtain ⟨b0, h1, h2, h3⟩ := h
  exact ⟨b0, h1, (hs.block _ (heap_lt h2) (fun e => h3 b0 e.symm rfl)).trans h2, h3⟩
theorem own_ne {w : World} {base n g : Nat} {e T : TypeId} {d : Value} {xs c f} (h : w.ownsRow base e 1 d n xs) (hne : e ≠ T) (hg : w.heap[g]? = some (.cells c T f)) : some g ≠ d.ownBlock := by
 rcases h.2 with ⟨rfl, _⟩ | ⟨q, cap, cur, rfl, _, hq, _⟩
 ·simp [Value.ownBlock]
 ·intro e1
  simp [Value.ownBlock] at e1
  subst e1
  rw [hg] at hq; cases hq; exact hne rfl
theorem own_ge {w : World} {base n : Nat} {e : TypeId} {d : Value} {xs} (h : w.ownsRow base e 1 d n xs) (k : Nat) (hk : d.ownBlock = some k) : base ≤ k := (h.lt k hk).1
theorem app_bytes (w : World) (B : Nat) (d : Value) (xs : List UInt8) (b0 : Nat) (x : UInt8) (ty : TypeId) (hown : w.ownsRow B 5 1 d xs.length (xs.map bv)) (hx : w.heap[b0]? = some (.cells #[bv x] 5 (0, 0))) (hm : xs.length < 140737488355328) (hB : B ≤ w.heap.size) :
  ∃ v' w', (Builtin.append_ #[22, 22] ty #[d, .slice (some ⟨b0, 0, none⟩) 1 1]).run Tryd.prog w = .ok v' w' ∧ w'.ownsRow B 5 1 v' (xs ++ [x]).length ((xs ++ [x]).map bv) ∧ w.grownBy w' d.ownBlock := by
 obtain ⟨i0, hif, hz0, hz1, hz2⟩ := info_parts info_byte
 obtain ⟨v', w', h1, h2, h3, _⟩ := run_append_own (P := Tryd.prog) w B 22 ty 5 i0 (.int .u8 0) 1 1 Tryd.underlying22 hif hz0 hz1 hz2 rfl (by decide) d xs.length (xs.map bv) hown ⟨b0, 0, none⟩ 1 1 [bv x] rfl
  (fun j u hj => by
   match j, hj with
   | 0, hj => simp at hj; subst hj; simp [Addr.add, World.cell?, hx]
   | j + 1, hj => simp at hj) (by intro u hu; simp at hu; subst hu; rfl) (by unfold maxLen; omega) (by omega) hB
 exact ⟨v', w', h1, by simpa using h2, h3⟩
theorem exec_append {P : Program} {w w2 : World} {o : Oper} {ev : Operand → Value} {v' : Value} (s x : Operand) (t : TypeId) (ho : o.op = .call { callee := .builtin .append, args := #[s, x], argTypes := #[t, t] }) (v u : Value) (hs : ev s = v) (hx : ev x = u)
  (hr : (Builtin.append_ #[t, t] o.type #[v, u]).run P w = .ok v' w2) : (execOp ev o).run P w = .ok (.value v') w2 := by
 unfold execOp
 simp only [ho, resolve, invoke, builtin, Sem.run_bind, Sem.run_pure, Result.andThen_ok, List.map_toArray, List.map_cons, List.map_nil, hs, hx, hr]
end Go.Proofs.YtgaecpdokgklpabDoor
