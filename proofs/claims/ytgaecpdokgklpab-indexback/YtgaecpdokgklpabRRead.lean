/-
  What the document's Read tells of any bytes at a place: the record that stands in them, or why they are no block of it.
  Condition: the slice holds those bytes.
-/
import Derived.Test.YtgaecpdokgklpabBRead
import Derived.Test.YtgaecpdokgklpabJReg
namespace Go.Proofs.Ytgaecpdokgklpab
set_option maxRecDepth 100000
open Go.RowKit
open Go.Proofs.Ytgaecpdokgklpab.Plain Go.Proofs.Ytgaecpdokgklpab.Reg

set_option maxHeartbeats 400000 in
theorem no_any (e : Int) (w : World) :
  Calls Try.prog 78 #[.int .i64 e] w fun x w' => x = .returned (.tuple #[.agg #[.int .i64 0, .int .i64 0, .int .i64 0, .slice none 0 0], .int .i64 e]) ∧ Grow w w' := by
 go_enter Try.func78, Try.ntmps78
 go_wp2
 exact bodyPost_ret (v := .tuple #[.agg #[.int .i64 0, .int .i64 0, .int .i64 0, .slice none 0 0], .int .i64 e]) (by simp [results, Try.results78, go_sem]) rfl ⟨rfl, grow_alloc _ _⟩

/-- What Read answers. -/
def ReadQ (w : World) (l : List UInt8) (at_ : Int) (e : Ending) (w' : World) : Prop :=
 ∃ d, e = .returned (.tuple #[.agg #[.int .i64 (readR l at_).kind, .int .i64 (readR l at_).key, .int .i64 (readR l at_).ver, d], .int .i64 (readE l at_)]) ∧ w'.ownsRow w.heap.size 5 1 d (readR l at_).data.length ((readR l at_).data.map bv) ∧ Grow w w'
theorem readQ_no {w w' : World} {l : List UInt8} {at_ e : Int} (h : readE l at_ = e) (h0 : e ≠ 0) (hg : Grow w w') : ReadQ w l at_ (.returned (.tuple #[.agg #[.int .i64 0, .int .i64 0, .int .i64 0, .slice none 0 0], .int .i64 e])) w' := by
 have hr : readR l at_ = Rec.none := by unfold readR; rw [h, if_neg h0]
 unfold ReadQ
 rw [hr, h]
 exact ⟨_, rfl, World.ownsRow_nil _ _ _ _, hg⟩

set_option maxHeartbeats 1000000 in
theorem rread_size (l : List UInt8) (at_ : Int) (ao : Option Addr) (cap : Nat) (w : World) (hl : l.length ≠ 16) :
  Calls Try.prog 44 #[.slice ao l.length cap, .int .i64 at_] w (ReadQ w l at_) := by
 have HE : Hid (readE l at_ = 2) := by
  have : spoilt l at_ = 2 := by unfold spoilt; rw [if_pos hl]
  show readE _ _ = 2; unfold readE; rw [this]; rfl
 have d : ((l.length : Int) != 16) = true := by simp; omega
 have hbx := heap_new w #[.int .i64 0, .int .i64 0, .int .i64 0, .slice none 0 0] 33
 have gx := grow_alloc w (.cells #[.int .i64 0, .int .i64 0, .int .i64 0, .slice none 0 0] 33)
 go_enter Try.func44, Try.ntmps44
 go_wp2_with fail
 refine (no_any _ _).mono ?_
 rintro e w9 ⟨rfl, g9⟩
 have hb9 := (g9.block _ (heap_lt hbx)).trans hbx
 have gz := gx.trans g9
 obtain ⟨z0, z1, z2, z3⟩ := box4 hb9 rfl rfl rfl rfl
 obtain ⟨f0, f1, f2, f3⟩ := boxf4 hb9
 have cs := cell_set
 clear g9 hb9 hbx gx
 go_wp2_with fail
 refine bodyPost_ret (v := .tuple #[.agg #[.int .i64 0, .int .i64 0, .int .i64 0, .slice none 0 0], .int .i64 _]) (by simp [results, Try.results44, go_sem, z0, z1, z2, z3, cs]) rfl (readQ_no HE.out (by omega) ?_)
 exact grow_set (grow_set (grow_set (grow_set gz (by simp) _) (by simp) _) (by simp) _) (by simp) _

theorem readE_spoilt {l : List UInt8} {at_ e : Int} (h : spoilt l at_ = e) (h0 : e ≠ 0) : readE l at_ = e := by unfold readE; rw [h, if_neg h0]

set_option maxHeartbeats 1000000 in
theorem rread_sum (l : List UInt8) (at_ : Int) (b off cap : Nat) (w : World) (hl : l.length = 16) (hcap : 16 ≤ cap) (hc : Cells w b off l) (hs : sealedB l = false) :
  Calls Try.prog 44 #[.slice (some ⟨b, off, none⟩) 16 cap, .int .i64 at_] w (ReadQ w l at_) := by
 have HE : Hid (readE l at_ = 7) := readE_spoilt (by unfold spoilt; rw [if_neg (by omega), if_pos hs]) (by omega)
 have HS : Hid (sealedB l = false) := hs
 clear hs
 have hB : Bytes w (.slice (some ⟨b, off, none⟩) 16 cap) l := .inr ⟨b, off, cap, by rw [hl], by omega, hc⟩
 have HL : Hid (l.length = 16) := hl
 clear hl
 go_enter Try.func44, Try.ntmps44
 go_wp2_with fail
 refine (rsealed_any l _ _ (by rw [HL.out]; omega) (by exact bytes_grow hB (grow_alloc _ _))).mono ?_
 rw [HS.out]
 rintro e w1 ⟨rfl, g1⟩
 have gx : Grow w w1 := (grow_alloc _ _).trans g1
 have hbx : w1.heap[w.heap.size]? = some (.cells #[.int .i64 0, .int .i64 0, .int .i64 0, .slice none 0 0] 33 (0, 0)) := (g1.block _ (by simp)).trans (heap_new _ _ _)
 have hc1 := hc.grow gx
 clear g1 hc1 hc hB
 go_wp2_with fail
 refine (no_any _ _).mono ?_
 rintro e w9 ⟨rfl, g9⟩
 have hb9 := (g9.block _ (heap_lt hbx)).trans hbx
 have gz := gx.trans g9
 obtain ⟨z0, z1, z2, z3⟩ := box4 hb9 rfl rfl rfl rfl
 obtain ⟨f0, f1, f2, f3⟩ := boxf4 hb9
 have cs := cell_set
 clear g9 hb9 hbx gx
 go_wp2_with fail
 refine bodyPost_ret (v := .tuple #[.agg #[.int .i64 0, .int .i64 0, .int .i64 0, .slice none 0 0], .int .i64 _]) (by simp [results, Try.results44, go_sem, z0, z1, z2, z3, cs]) rfl (readQ_no HE.out (by omega) ?_)
 exact grow_set (grow_set (grow_set (grow_set gz (by simp) _) (by simp) _) (by simp) _) (by simp) _

set_option maxHeartbeats 1000000 in
theorem rread_place (l : List UInt8) (at_ : Int) (b off cap : Nat) (w : World) (hl : l.length = 16) (hcap : 16 ≤ cap) (hc : Cells w b off l) (hs : sealedB l = true) (hp : ((at' l 1).toNat : Int) ≠ at_) :
  Calls Try.prog 44 #[.slice (some ⟨b, off, none⟩) 16 cap, .int .i64 at_] w (ReadQ w l at_) := by
 have HE : Hid (readE l at_ = 8) := readE_spoilt (by unfold spoilt; rw [if_neg (by omega), if_neg (by rw [hs]; simp), if_pos hp]) (by omega)
 have HS : Hid (sealedB l = true) := hs
 have d1 : (((at' l 1).toNat : Int) != at_) = true := by simp [hp]
 clear hs hp
 have hB : Bytes w (.slice (some ⟨b, off, none⟩) 16 cap) l := .inr ⟨b, off, cap, by rw [hl], by omega, hc⟩
 have HL : Hid (l.length = 16) := hl
 clear hl
 go_enter Try.func44, Try.ntmps44
 go_wp2_with fail
 refine (rsealed_any l _ _ (by rw [HL.out]; omega) (by exact bytes_grow hB (grow_alloc _ _))).mono ?_
 rw [HS.out]
 rintro e w1 ⟨rfl, g1⟩
 have gx : Grow w w1 := (grow_alloc _ _).trans g1
 have hbx : w1.heap[w.heap.size]? = some (.cells #[.int .i64 0, .int .i64 0, .int .i64 0, .slice none 0 0] 33 (0, 0)) := (g1.block _ (by simp)).trans (heap_new _ _ _)
 have hc1 := hc.grow gx
 have h1 := hc1.at' 1 (by rw [HL.out]; omega)
 have b1 : (at' l 1).toNat < 256 := UInt8.toNat_lt _
 clear g1 hc1 hc hB
 generalize (at' l 1).toNat = x1 at *
 go_wp2_with fail
 refine (no_any _ _).mono ?_
 rintro e w9 ⟨rfl, g9⟩
 have hb9 := (g9.block _ (heap_lt hbx)).trans hbx
 have gz := gx.trans g9
 obtain ⟨z0, z1, z2, z3⟩ := box4 hb9 rfl rfl rfl rfl
 obtain ⟨f0, f1, f2, f3⟩ := boxf4 hb9
 have cs := cell_set
 clear g9 hb9 hbx gx
 go_wp2_with fail
 refine bodyPost_ret (v := .tuple #[.agg #[.int .i64 0, .int .i64 0, .int .i64 0, .slice none 0 0], .int .i64 _]) (by simp [results, Try.results44, go_sem, z0, z1, z2, z3, cs]) rfl (readQ_no HE.out (by omega) ?_)
 exact grow_set (grow_set (grow_set (grow_set gz (by simp) _) (by simp) _) (by simp) _) (by simp) _

set_option maxHeartbeats 1000000 in
theorem rread_much (l : List UInt8) (at_ : Int) (b off cap : Nat) (w : World) (hl : l.length = 16) (hcap : 16 ≤ cap) (hc : Cells w b off l) (hs : sealedB l = true) (hp : ((at' l 1).toNat : Int) = at_) (h8 : 8 < (at' l 5).toNat) :
  Calls Try.prog 44 #[.slice (some ⟨b, off, none⟩) 16 cap, .int .i64 at_] w (ReadQ w l at_) := by
 have HE : Hid (readE l at_ = 4) := readE_spoilt (by unfold spoilt; rw [if_neg (by omega), if_neg (by rw [hs]; simp), if_neg (by simpa using hp), if_pos h8]) (by omega)
 have HS : Hid (sealedB l = true) := hs
 have d1 : (((at' l 1).toNat : Int) != at_) = false := by simp [hp]
 clear hs hp
 have hB : Bytes w (.slice (some ⟨b, off, none⟩) 16 cap) l := .inr ⟨b, off, cap, by rw [hl], by omega, hc⟩
 have HL : Hid (l.length = 16) := hl
 clear hl
 go_enter Try.func44, Try.ntmps44
 go_wp2_with fail
 refine (rsealed_any l _ _ (by rw [HL.out]; omega) (by exact bytes_grow hB (grow_alloc _ _))).mono ?_
 rw [HS.out]
 rintro e w1 ⟨rfl, g1⟩
 have gx : Grow w w1 := (grow_alloc _ _).trans g1
 have hbx : w1.heap[w.heap.size]? = some (.cells #[.int .i64 0, .int .i64 0, .int .i64 0, .slice none 0 0] 33 (0, 0)) := (g1.block _ (by simp)).trans (heap_new _ _ _)
 have hc1 := hc.grow gx
 have h1 := hc1.at' 1 (by rw [HL.out]; omega)
 have h5 := hc1.at' 5 (by rw [HL.out]; omega)
 have b1 : (at' l 1).toNat < 256 := UInt8.toNat_lt _
 have b5 : (at' l 5).toNat < 256 := UInt8.toNat_lt _
 clear g1 hc1 hc hB
 generalize (at' l 1).toNat = x1 at *
 generalize (at' l 5).toNat = x5 at *
 go_wp2_with fail
 refine (no_any _ _).mono ?_
 rintro e w9 ⟨rfl, g9⟩
 have hb9 := (g9.block _ (heap_lt hbx)).trans hbx
 have gz := gx.trans g9
 obtain ⟨z0, z1, z2, z3⟩ := box4 hb9 rfl rfl rfl rfl
 obtain ⟨f0, f1, f2, f3⟩ := boxf4 hb9
 have cs := cell_set
 clear g9 hb9 hbx gx
 go_wp2_with fail
 refine bodyPost_ret (v := .tuple #[.agg #[.int .i64 0, .int .i64 0, .int .i64 0, .slice none 0 0], .int .i64 _]) (by simp [results, Try.results44, go_sem, z0, z1, z2, z3, cs]) rfl (readQ_no HE.out (by omega) ?_)
 exact grow_set (grow_set (grow_set (grow_set gz (by simp) _) (by simp) _) (by simp) _) (by simp) _

/-- What stands in a block, its data up to a place. -/
def dataTo (l : List UInt8) (j : Nat) : List UInt8 := (l.drop 6).take (min (j - 6) (at' l 5).toNat)
/-- Behind the data there are noughts up to a place. -/
def cleanTo (l : List UInt8) (j : Nat) : Prop := ∀ i, 6 + (at' l 5).toNat ≤ i → i < j → at' l i = 0
theorem at_eq (l : List UInt8) (i : Nat) (h : i < l.length) : at' l i = l[i] := by unfold at'; rw [List.getD_eq_getElem?_getD, List.getElem?_eq_getElem h]; rfl
theorem dataTo_succ (l : List UInt8) (j : Nat) (hl : l.length = 16) (h6 : 6 ≤ j) (hj : j < 6 + (at' l 5).toNat) (h8 : (at' l 5).toNat ≤ 8) : dataTo l (j + 1) = dataTo l j ++ [at' l j] := by
 unfold dataTo
 rw [show min (j + 1 - 6) (at' l 5).toNat = (j - 6) + 1 from by omega, show min (j - 6) (at' l 5).toNat = j - 6 from by omega, List.take_succ_eq_append_getElem (by simp; omega)]
 congr 2
 rw [at_eq l j (by omega), List.getElem_drop]
 congr 1
 omega
theorem dataTo_same (l : List UInt8) (j : Nat) (hj : 6 + (at' l 5).toNat ≤ j) : dataTo l (j + 1) = dataTo l j := by
 unfold dataTo
 rw [show min (j + 1 - 6) (at' l 5).toNat = (at' l 5).toNat from by omega, show min (j - 6) (at' l 5).toNat = (at' l 5).toNat from by omega]
theorem dataTo_len (l : List UInt8) (j : Nat) (hl : l.length = 16) (h8 : (at' l 5).toNat ≤ 8) : (dataTo l j).length = min (j - 6) (at' l 5).toNat := by
 unfold dataTo; simp; omega
theorem dataTo_last (l : List UInt8) (h8 : (at' l 5).toNat ≤ 8) : dataTo l 14 = (recOf l).data := by
 unfold dataTo recOf
 rw [show min (14 - 6) (at' l 5).toNat = (at' l 5).toNat from by omega]
theorem rest_get (l : List UInt8) (hl : l.length = 16) (h8 : (at' l 5).toNat ≤ 8) (c : UInt8) : c ∈ restOf l ↔ ∃ i, 6 + (at' l 5).toNat ≤ i ∧ i < 14 ∧ at' l i = c := by
 unfold restOf
 rw [List.mem_iff_getElem]
 constructor
 ·rintro ⟨i, hi, rfl⟩
  simp only [List.length_take, List.length_drop] at hi
  refine ⟨6 + (at' l 5).toNat + i, by omega, by omega, ?_⟩
  rw [at_eq l _ (by omega)]
  simp
 ·rintro ⟨i, h1, h2, rfl⟩
  refine ⟨i - (6 + (at' l 5).toNat), by simp; omega, ?_⟩
  rw [at_eq l i (by omega), List.getElem_take, List.getElem_drop]
  congr 1
  omega
theorem clean_last (l : List UInt8) (hl : l.length = 16) (h8 : (at' l 5).toNat ≤ 8) (h : cleanTo l 14) : noughtsB (restOf l) = true := by
 unfold noughtsB
 rw [List.all_eq_true]
 intro c hc
 obtain ⟨i, h1, h2, rfl⟩ := (rest_get l hl h8 c).1 hc
 simp [h i h1 h2]
theorem clean_not (l : List UInt8) (j : Nat) (hl : l.length = 16) (h8 : (at' l 5).toNat ≤ 8) (h1 : 6 + (at' l 5).toNat ≤ j) (h2 : j < 14) (h : at' l j ≠ 0) : noughtsB (restOf l) = false := by
 unfold noughtsB
 rw [List.all_eq_false]
 exact ⟨at' l j, (rest_get l hl h8 _).2 ⟨j, h1, h2, rfl⟩, by simpa using h⟩

/-- Three numbers and a slice, in a block of a record's type. -/
def boxOf (r : Rec) (d : Value) : Obj := .cells #[.int .i64 r.kind, .int .i64 r.key, .int .i64 r.ver, d] 33 (0, 0)
/-- What holds while a byte is appended to the record's data: which of it hangs on what is done. -/
def AppJ (w : World) (g : Nat) (r : Rec) (d : Value) (xs : List UInt8) (dn : Nat → Bool) (w' : World) : Prop :=
 Grow w w' ∧ w'.heap[w.heap.size]? = some (boxOf Rec.none (.slice none 0 0)) ∧ (dn 9 = false → w'.heap[g]? = some (boxOf r d)) ∧ (dn 7 = false → w'.ownsRow (w.heap.size + 1) 5 1 d xs.length (xs.map bv))
theorem AppJ.grow {w : World} {g : Nat} {r : Rec} {d : Value} {xs : List UInt8} {dn : Nat → Bool} {w' w'' : World} (h : AppJ w g r d xs dn w') (hg : Grow w' w'') : AppJ w g r d xs dn w'' :=
 ⟨h.1.trans hg, (hg.block _ (heap_lt h.2.1)).trans h.2.1, fun h9 => (hg.block _ (heap_lt (h.2.2.1 h9))).trans (h.2.2.1 h9), fun h7 => own_grow (h.2.2.2 h7) hg⟩
/-- A row of one byte, another one than d's. -/
def OneQ (d : Value) (x : UInt8) (v : Value) (w : World) : Prop := ∃ b0, v = .slice (some ⟨b0, 0, none⟩) 1 1 ∧ w.heap[b0]? = some (.cells #[bv x] 5 (0, 0)) ∧ ∀ q, d.ownBlock = some q → b0 ≠ q
theorem st_one (d : Value) (x : UInt8) : Stable (OneQ d x) := by
 rintro v w w' hg ⟨b0, h1, h2, h3⟩
 exact ⟨b0, h1, (hg.block _ (heap_lt h2)).trans h2, h3⟩
theorem sp_one_box {d : Value} {x : UInt8} {v : Value} {w w' : World} (hs : BoxStep 33 w w') (h : OneQ d x v w) : OneQ d x v w' := by
 rcases hs with rfl | ⟨g', c1, c2, hb, h5, h6, h7⟩
 ·exact h
 ·obtain ⟨b0, h1, h2, h3⟩ := h
  refine ⟨b0, h1, (hb.block _ (heap_lt h2) ?_).trans h2, h3⟩
  rintro rfl
  rw [h5] at h2; cases h2
/-- d's row grew, or nothing was done. -/
def AppStep (d : Value) (w w' : World) : Prop := w' = w ∨ w.grownBy w' d.ownBlock
theorem sp_one_app {d : Value} {x : UInt8} {v : Value} {w w' : World} (hs : AppStep d w w') (h : OneQ d x v w) : OneQ d x v w' := by
 rcases hs with rfl | hs
 ·exact h
 ·obtain ⟨b0, h1, h2, h3⟩ := h
  exact ⟨b0, h1, (hs.block _ (heap_lt h2) (fun e => h3 b0 e.symm rfl)).trans h2, h3⟩
theorem own_ne {w : World} {base n g : Nat} {e T : TypeId} {d : Value} {xs c f} (h : w.ownsRow base e 1 d n xs) (hne : e ≠ T) (hg : w.heap[g]? = some (.cells c T f)) : some g ≠ d.ownBlock := by
 rcases h.2 with ⟨rfl, _⟩ | ⟨q, cap, cur, rfl, _, hq, _⟩
 ·simp [Value.ownBlock]
 ·intro e1
  simp [Value.ownBlock] at e1
  subst e1
  rw [hg] at hq; cases hq; exact hne rfl
theorem own_ge {w : World} {base n : Nat} {e : TypeId} {d : Value} {xs} (h : w.ownsRow base e 1 d n xs) (k : Nat) (hk : d.ownBlock = some k) : base ≤ k := (h.lt k hk).1
theorem app_bytes (w : World) (B : Nat) (d : Value) (xs : List UInt8) (b0 : Nat) (x : UInt8) (ty : TypeId) (hown : w.ownsRow B 5 1 d xs.length (xs.map bv)) (hx : w.heap[b0]? = some (.cells #[bv x] 5 (0, 0))) (hm : xs.length < 140737488355328) (hB : B ≤ w.heap.size) :
  ∃ v' w', (Builtin.append_ #[31, 31] ty #[d, .slice (some ⟨b0, 0, none⟩) 1 1]).run Try.prog w = .ok v' w' ∧ w'.ownsRow B 5 1 v' (xs ++ [x]).length ((xs ++ [x]).map bv) ∧ w.grownBy w' d.ownBlock := by
 obtain ⟨i0, hif, hz0, hz1, hz2⟩ := info_parts info_byte
 obtain ⟨v', w', h1, h2, h3, _⟩ := run_append_own (P := Try.prog) w B 31 ty 5 i0 (.int .u8 0) 1 1 Try.underlying31 hif hz0 hz1 hz2 rfl (by decide) d xs.length (xs.map bv) hown ⟨b0, 0, none⟩ 1 1 [bv x] rfl
  (fun j u hj => by
   match j, hj with
   | 0, hj => simp at hj; subst hj; simp [Addr.add, World.cell?, hx]
   | j + 1, hj => simp at hj) (by intro u hu; simp at hu; subst hu; rfl) (by unfold maxLen; omega) (by omega) hB
 exact ⟨v', w', h1, by simpa using h2, h3⟩
theorem exec_append {P : Program} {w w2 : World} {o : Oper} {ev : Operand → Value} {v' : Value} (s x : Operand) (t : TypeId) (ho : o.op = .call { callee := .builtin .append, args := #[s, x], argTypes := #[t, t] }) (v u : Value) (hs : ev s = v) (hx : ev x = u)
  (hr : (Builtin.append_ #[t, t] o.type #[v, u]).run P w = .ok v' w2) : (execOp ev o).run P w = .ok (.value v') w2 := by
 unfold execOp
 simp only [ho, resolve, invoke, builtin, Sem.run_bind, Sem.run_pure, Result.andThen_ok, List.map_toArray, List.map_cons, List.map_nil, hs, hx, hr]
/-- The record's variable holds the row that v is. -/
def PutP (B g : Nat) (r : Rec) (xs : List UInt8) (v : Value) (w : World) : Prop := w.heap[g]? = some (boxOf r v) ∧ w.ownsRow B 5 1 v xs.length (xs.map bv)
theorem st_put (B g : Nat) (r : Rec) (xs : List UInt8) (i : Nat) : StableW (pl1 i (fun _ v w => PutP B g r xs v w)) := by
 rintro v ds w w' hg ⟨h1, h2⟩
 exact ⟨(hg.block _ (heap_lt h1)).trans h1, own_grow h2 hg⟩
/-- What holds at the head of the loop. -/
def LoopS (w : World) (g : Nat) (l : List UInt8) (j : Nat) (wr : World) : Prop :=
 Grow w wr ∧ wr.heap[w.heap.size]? = some (boxOf Rec.none (.slice none 0 0)) ∧ cleanTo l j ∧ ∃ d, wr.heap[g]? = some (boxOf (recOf l) d) ∧ wr.ownsRow (w.heap.size + 1) 5 1 d (dataTo l j).length ((dataTo l j).map bv)

set_option maxHeartbeats 4000000 in
theorem rread_main (l : List UInt8) (at_ : Int) (b off cap : Nat) (w : World) (hl : l.length = 16) (hcap : 16 ≤ cap) (hc : Cells w b off l) (hs : sealedB l = true) (hp : ((at' l 1).toNat : Int) = at_) (h8 : (at' l 5).toNat ≤ 8) :
  Calls Try.prog 44 #[.slice (some ⟨b, off, none⟩) 16 cap, .int .i64 at_] w (ReadQ w l at_) := by
 have HW : Hid (spoilt l at_ = if noughtsB (restOf l) = false then 2 else 0) := by show spoilt _ _ = _; unfold spoilt; rw [if_neg (by omega), if_neg (by rw [hs]; simp), if_neg (by simpa using hp), if_neg (by omega)]
 have HS : Hid (sealedB l = true) := hs
 have d1 : (((at' l 1).toNat : Int) != at_) = false := by simp [hp]
 clear hs hp
 have hB : Bytes w (.slice (some ⟨b, off, none⟩) 16 cap) l := .inr ⟨b, off, cap, by rw [hl], by omega, hc⟩
 have HL : Hid (l.length = 16) := hl
 clear hl
 go_enter Try.func44, Try.ntmps44
 go_wp2_with fail
 refine (rsealed_any l _ _ (by rw [HL.out]; omega) (by exact bytes_grow hB (grow_alloc _ _))).mono ?_
 rw [HS.out]
 rintro e w1 ⟨rfl, g1⟩
 have gx : Grow w w1 := (grow_alloc _ _).trans g1
 have hbx : w1.heap[w.heap.size]? = some (.cells #[.int .i64 0, .int .i64 0, .int .i64 0, .slice none 0 0] 33 (0, 0)) := (g1.block _ (by simp)).trans (heap_new _ _ _)
 have hc1 := hc.grow gx
 have k1 := hc1.at' 1 (by rw [HL.out]; omega)
 have k5 := hc1.at' 5 (by rw [HL.out]; omega)
 have k0 := hc1.at' 0 (by rw [HL.out]; omega)
 rw [Nat.add_zero] at k0
 have k2 := hc1.at' 2 (by rw [HL.out]; omega)
 have k3 := hc1.at' 3 (by rw [HL.out]; omega)
 have k4 := hc1.at' 4 (by rw [HL.out]; omega)
 have b0 : (at' l 0).toNat < 256 := UInt8.toNat_lt _
 have b1 : (at' l 1).toNat < 256 := UInt8.toNat_lt _
 have b2 : (at' l 2).toNat < 256 := UInt8.toNat_lt _
 have b3 : (at' l 3).toNat < 256 := UInt8.toNat_lt _
 have b4 : (at' l 4).toNat < 256 := UInt8.toNat_lt _
 have hbs : w.heap.size < w1.heap.size := by have := g1.size; simp at this; omega
 have h8i : ((at' l 5).toNat : Int) ≤ 8 := by omega
 have hlt8 : ¬ (8 : Int) < ((at' l 5).toNat : Int) := by omega
 clear g1 hB
 go_wp2_with fail
 clear hlt8 k1
 refine wp_region_w [pl (ex (.slice (some ⟨b, off, none⟩) 16 cap)), pl (ex (.pointer (some ⟨b, off, none⟩))), pl (ex (.int .u8 ((at' l 0).toNat : Int))), pl (ex (.int .i64 ((at' l 0).toNat : Int))), pl (ex (.slice (some ⟨b, off, none⟩) 16 cap)), pl (ex (.pointer (some ⟨b, off + 2, none⟩))), pl (ex (.int .u8 ((at' l 2).toNat : Int))), pl (ex (.int .i64 ((at' l 2).toNat : Int))), pl (ex (.slice (some ⟨b, off, none⟩) 16 cap)), pl (ex (.pointer (some ⟨b, off + 3, none⟩))), pl (ex (.int .u8 ((at' l 3).toNat : Int))), pl (ex (.int .i64 ((at' l 3).toNat : Int))), pl (ex (.int .i64 (256 * ((at' l 3).toNat : Int)))), pl (ex (.slice (some ⟨b, off, none⟩) 16 cap)), pl (ex (.pointer (some ⟨b, off + 4, none⟩))), pl (ex (.int .u8 ((at' l 4).toNat : Int))), pl (ex (.int .i64 ((at' l 4).toNat : Int))), pl (ex (.int .i64 (((at' l 3).toNat : Int) * 256 + ((at' l 4).toNat : Int)))), pl (ex (.agg #[.int .i64 (recOf l).kind, .int .i64 (recOf l).key, .int .i64 (recOf l).ver, .slice none 0 0])), pl (BoxP 33 4 w1.heap.size), pl1 19 ((fun _ p w => HeldP w1.heap.size ⟨(recOf l).kind, (recOf l).key, (recOf l).ver, []⟩ p w))] [none, none, none, none, none, none, none, none, none, none, none, none, none, none, none, none, none, none, none, none, some ((BoxStep 33))] (fun w' => Grow w1 w') (by kernel_rfl) (by kernel_rfl) ⟨st_pl (st_ex _), st_pl (st_ex _), st_pl (st_ex _), st_pl (st_ex _), st_pl (st_ex _), st_pl (st_ex _), st_pl (st_ex _), st_pl (st_ex _), st_pl (st_ex _), st_pl (st_ex _), st_pl (st_ex _), st_pl (st_ex _), st_pl (st_ex _), st_pl (st_ex _), st_pl (st_ex _), st_pl (st_ex _), st_pl (st_ex _), st_pl (st_ex _), st_pl (st_ex _), st_pl (st_box _ _ _), st_held _ _ _, trivial⟩ ⟨⟨(fun w => .inl rfl), ⟨.inr (fun _ _ _ _ _ h => h), .inr (fun _ _ _ _ _ h => h), .inr (fun _ _ _ _ _ h => h), .inr (fun _ _ _ _ _ h => h), .inr (fun _ _ _ _ _ h => h), .inr (fun _ _ _ _ _ h => h), .inr (fun _ _ _ _ _ h => h), .inr (fun _ _ _ _ _ h => h), .inr (fun _ _ _ _ _ h => h), .inr (fun _ _ _ _ _ h => h), .inr (fun _ _ _ _ _ h => h), .inr (fun _ _ _ _ _ h => h), .inr (fun _ _ _ _ _ h => h), .inr (fun _ _ _ _ _ h => h), .inr (fun _ _ _ _ _ h => h), .inr (fun _ _ _ _ _ h => h), .inr (fun _ _ _ _ _ h => h), .inr (fun _ _ _ _ _ h => h), .inr (fun _ _ _ _ _ h => h), .inr ((fun v _ w w' hs hq => sp_box _ _ _ v w w' hs hq)), .inl (by kernel_rfl), trivial⟩⟩, trivial⟩ ⟨(fun h => by cases h), (fun h => by cases h), (fun h => by cases h), (fun h => by cases h), (fun h => by cases h), (fun h => by cases h), (fun h => by cases h), (fun h => by cases h), (fun h => by cases h), (fun h => by cases h), (fun h => by cases h), (fun h => by cases h), (fun h => by cases h), (fun h => by cases h), (fun h => by cases h), (fun h => by cases h), (fun h => by cases h), (fun h => by cases h), (fun h => by cases h), (fun h => by cases h), fun _ _ _ _ h => h, trivial⟩ ?_ ?_ ?_
 ·exact (Grow.refl _).drew
 ·refine ⟨?_, ?_, ?_, ?_, ?_, ?_, ?_, ?_, ?_, ?_, ?_, ?_, ?_, ?_, ?_, ?_, ?_, ?_, ?_, ?_, ?_, trivial⟩
  ·refine needw_plain rfl (fun a w' hg hin => ?_)
   have e : a.eval (.tmp 0) = .slice (some ⟨b, off, none⟩) 16 cap := insw_ext hin 0 (by kernel_rfl)
   exact uponw_move rfl hg e
  ·refine needw_plain rfl (fun a w' hg hin => ?_)
   have e42 : a.eval (.tmp 42) = _ := insw_on hin 0 (by kernel_rfl)
   refine uponw_val ?_ hg rfl
   clear hin hg
   obtain ⟨ek, ef⟩ := evs a
   generalize a.eval = ev at *
   go_simp
   all_goals first | omega | (intro _; omega) | go_arith
  ·refine needw_plain rfl (fun a w' hg hin => ?_)
   have e43 : a.eval (.tmp 43) = _ := insw_on hin 1 (by kernel_rfl)
   have h1 := (Below.cell hg (cell_lt k0)).trans k0
   refine uponw_val ?_ hg rfl
   clear hin hg
   obtain ⟨ek, ef⟩ := evs a
   generalize a.eval = ev at *
   go_simp
   all_goals first | omega | (intro _; omega) | go_arith
  ·refine needw_plain rfl (fun a w' hg hin => ?_)
   have e44 : a.eval (.tmp 44) = _ := insw_on hin 2 (by kernel_rfl)
   refine uponw_val ?_ hg rfl
   clear hin hg
   obtain ⟨ek, ef⟩ := evs a
   generalize a.eval = ev at *
   go_simp
   all_goals first | omega | (intro _; omega) | go_arith
  ·refine needw_plain rfl (fun a w' hg hin => ?_)
   have e : a.eval (.tmp 0) = .slice (some ⟨b, off, none⟩) 16 cap := insw_ext hin 0 (by kernel_rfl)
   exact uponw_move rfl hg e
  ·refine needw_plain rfl (fun a w' hg hin => ?_)
   have e46 : a.eval (.tmp 46) = _ := insw_on hin 4 (by kernel_rfl)
   refine uponw_val ?_ hg rfl
   clear hin hg
   obtain ⟨ek, ef⟩ := evs a
   generalize a.eval = ev at *
   go_simp
   all_goals first | omega | (intro _; omega) | go_arith
  ·refine needw_plain rfl (fun a w' hg hin => ?_)
   have e47 : a.eval (.tmp 47) = _ := insw_on hin 5 (by kernel_rfl)
   have h1 := (Below.cell hg (cell_lt k2)).trans k2
   refine uponw_val ?_ hg rfl
   clear hin hg
   obtain ⟨ek, ef⟩ := evs a
   generalize a.eval = ev at *
   go_simp
   all_goals first | omega | (intro _; omega) | go_arith
  ·refine needw_plain rfl (fun a w' hg hin => ?_)
   have e48 : a.eval (.tmp 48) = _ := insw_on hin 6 (by kernel_rfl)
   refine uponw_val ?_ hg rfl
   clear hin hg
   obtain ⟨ek, ef⟩ := evs a
   generalize a.eval = ev at *
   go_simp
   all_goals first | omega | (intro _; omega) | go_arith
  ·refine needw_plain rfl (fun a w' hg hin => ?_)
   have e : a.eval (.tmp 0) = .slice (some ⟨b, off, none⟩) 16 cap := insw_ext hin 0 (by kernel_rfl)
   exact uponw_move rfl hg e
  ·refine needw_plain rfl (fun a w' hg hin => ?_)
   have e50 : a.eval (.tmp 50) = _ := insw_on hin 8 (by kernel_rfl)
   refine uponw_val ?_ hg rfl
   clear hin hg
   obtain ⟨ek, ef⟩ := evs a
   generalize a.eval = ev at *
   go_simp
   all_goals first | omega | (intro _; omega) | go_arith
  ·refine needw_plain rfl (fun a w' hg hin => ?_)
   have e51 : a.eval (.tmp 51) = _ := insw_on hin 9 (by kernel_rfl)
   have h1 := (Below.cell hg (cell_lt k3)).trans k3
   refine uponw_val ?_ hg rfl
   clear hin hg
   obtain ⟨ek, ef⟩ := evs a
   generalize a.eval = ev at *
   go_simp
   all_goals first | omega | (intro _; omega) | go_arith
  ·refine needw_plain rfl (fun a w' hg hin => ?_)
   have e52 : a.eval (.tmp 52) = _ := insw_on hin 10 (by kernel_rfl)
   refine uponw_val ?_ hg rfl
   clear hin hg
   obtain ⟨ek, ef⟩ := evs a
   generalize a.eval = ev at *
   go_simp
   all_goals first | omega | (intro _; omega) | go_arith
  ·refine needw_plain rfl (fun a w' hg hin => ?_)
   have e53 : a.eval (.tmp 53) = _ := insw_on hin 11 (by kernel_rfl)
   refine uponw_val ?_ hg rfl
   clear hin hg
   obtain ⟨ek, ef⟩ := evs a
   generalize a.eval = ev at *
   go_simp
   all_goals first | omega | (intro _; omega) | go_arith
  ·refine needw_plain rfl (fun a w' hg hin => ?_)
   have e : a.eval (.tmp 0) = .slice (some ⟨b, off, none⟩) 16 cap := insw_ext hin 0 (by kernel_rfl)
   exact uponw_move rfl hg e
  ·refine needw_plain rfl (fun a w' hg hin => ?_)
   have e55 : a.eval (.tmp 55) = _ := insw_on hin 13 (by kernel_rfl)
   refine uponw_val ?_ hg rfl
   clear hin hg
   obtain ⟨ek, ef⟩ := evs a
   generalize a.eval = ev at *
   go_simp
   all_goals first | omega | (intro _; omega) | go_arith
  ·refine needw_plain rfl (fun a w' hg hin => ?_)
   have e56 : a.eval (.tmp 56) = _ := insw_on hin 14 (by kernel_rfl)
   have h1 := (Below.cell hg (cell_lt k4)).trans k4
   refine uponw_val ?_ hg rfl
   clear hin hg
   obtain ⟨ek, ef⟩ := evs a
   generalize a.eval = ev at *
   go_simp
   all_goals first | omega | (intro _; omega) | go_arith
  ·refine needw_plain rfl (fun a w' hg hin => ?_)
   have e57 : a.eval (.tmp 57) = _ := insw_on hin 15 (by kernel_rfl)
   refine uponw_val ?_ hg rfl
   clear hin hg
   obtain ⟨ek, ef⟩ := evs a
   generalize a.eval = ev at *
   go_simp
   all_goals first | omega | (intro _; omega) | go_arith
  ·refine needw_plain rfl (fun a w' hg hin => ?_)
   have e54 : a.eval (.tmp 54) = _ := insw_on hin 12 (by kernel_rfl)
   have e58 : a.eval (.tmp 58) = _ := insw_on hin 16 (by kernel_rfl)
   rw [Int.mul_comm] at e54
   refine uponw_val ?_ hg rfl
   clear hin hg
   obtain ⟨ek, ef⟩ := evs a
   generalize a.eval = ev at *
   go_simp
   all_goals first | omega | (intro _; omega) | go_arith
  ·refine needw_plain rfl (fun a w' hg hin => ?_)
   have e45 : a.eval (.tmp 45) = _ := insw_on hin 3 (by kernel_rfl)
   have e49 : a.eval (.tmp 49) = _ := insw_on hin 7 (by kernel_rfl)
   have e59 : a.eval (.tmp 59) = _ := insw_on hin 17 (by kernel_rfl)
   refine uponw_val (v := .agg #[.int .i64 ((at' l 0).toNat : Int), .int .i64 ((at' l 2).toNat : Int), .int .i64 (((at' l 3).toNat : Int) * 256 + ((at' l 4).toNat : Int)), .slice none 0 0]) ?_ hg rfl
   clear hin hg
   obtain ⟨ek, ef⟩ := evs a
   generalize a.eval = ev at *
   go_simp
   all_goals first | omega | (intro _; omega) | go_arith
  ·refine needw_plain rfl (fun a w' hg hin => ?_)
   refine uponw_step (v := .pointer (some ⟨w'.heap.size, 0, none⟩)) (w' := w'.alloc (.cells #[.int .i64 0, .int .i64 0, .int .i64 0, .slice none 0 0] 33)) ?_ (grow_alloc _ _) (hg.trans (grow_alloc _ _)) ⟨_, _, rfl, hg.size, heap_new _ _ _, rfl⟩
   clear hin hg
   obtain ⟨ek, ef⟩ := evs a
   generalize a.eval = ev at *
   go_simp
   all_goals first | omega | (intro _; omega) | go_arith
  ·refine needw_plain rfl (fun a w' hg hin => ?_)
   have e7 : (BoxP 33 4 w1.heap.size) (a.eval (.tmp 7)) w' := insw_on hin 19 (by kernel_rfl)
   have e60 : a.eval (.tmp 60) = _ := insw_on hin 18 (by kernel_rfl)
   obtain ⟨g, c, h7, hgB, hh, hsz⟩ := e7
   obtain ⟨x0, x1, x2, x3, rfl⟩ := arr4 hsz
   obtain ⟨hp1, hp2⟩ := box_put hh (.int .i64 (recOf l).kind) (.int .i64 (recOf l).key) (.int .i64 (recOf l).ver) (.slice none 0 0)
   have hstep : BoxStep 33 w' _ := .inr ⟨g, _, _, hp2, hh, hp1, rfl⟩
   refine uponw_skip (w' := _) ?_ hstep (grow_set (grow_set (grow_set (grow_set hg (by exact hgB) _) (by exact hgB) _) (by exact hgB) _) (by exact hgB) _) ⟨g, _, h7, hgB, hp1, World.ownsRow_nil _ _ _ _⟩
   have y0 := box_cell hh 0 x0 rfl
   have y1 := box_cell hh 1 x1 rfl
   have y2 := box_cell hh 2 x2 rfl
   have y3 := box_cell hh 3 x3 rfl
   obtain ⟨f0, f1, f2, f3⟩ := boxf4 hh
   have cs := cell_set
   clear hin hg hp1 hp2 hstep hh
   generalize recOf l = rr at *
   obtain ⟨ek, ef⟩ := evs a
   generalize a.eval = ev at *
   go_simp
   all_goals first | omega | (intro _; omega) | go_arith
 ·intro vs w' hg ht
  obtain ⟨q42, q43, q44, q45, q46, q47, q48, q49, q50, q51, q52, q53, q54, q55, q56, q57, q58, q59, q60, q7, qo20, -⟩ := ht
  have r42 : vs 0 = .slice (some ⟨b, off, none⟩) 16 cap := q42
  have r43 : vs 1 = .pointer (some ⟨b, off, none⟩) := q43
  have r44 : vs 2 = .int .u8 ((at' l 0).toNat : Int) := q44
  have r45 : vs 3 = .int .i64 ((at' l 0).toNat : Int) := q45
  have r46 : vs 4 = .slice (some ⟨b, off, none⟩) 16 cap := q46
  have r47 : vs 5 = .pointer (some ⟨b, off + 2, none⟩) := q47
  have r48 : vs 6 = .int .u8 ((at' l 2).toNat : Int) := q48
  have r49 : vs 7 = .int .i64 ((at' l 2).toNat : Int) := q49
  have r50 : vs 8 = .slice (some ⟨b, off, none⟩) 16 cap := q50
  have r51 : vs 9 = .pointer (some ⟨b, off + 3, none⟩) := q51
  have r52 : vs 10 = .int .u8 ((at' l 3).toNat : Int) := q52
  have r53 : vs 11 = .int .i64 ((at' l 3).toNat : Int) := q53
  have r54 : vs 12 = .int .i64 (256 * ((at' l 3).toNat : Int)) := q54
  have r55 : vs 13 = .slice (some ⟨b, off, none⟩) 16 cap := q55
  have r56 : vs 14 = .pointer (some ⟨b, off + 4, none⟩) := q56
  have r57 : vs 15 = .int .u8 ((at' l 4).toNat : Int) := q57
  have r58 : vs 16 = .int .i64 ((at' l 4).toNat : Int) := q58
  have r59 : vs 17 = .int .i64 (((at' l 3).toNat : Int) * 256 + ((at' l 4).toNat : Int)) := q59
  have r60 : vs 18 = .agg #[.int .i64 (recOf l).kind, .int .i64 (recOf l).key, .int .i64 (recOf l).ver, .slice none 0 0] := q60
  replace q7 : (BoxP 33 4 w1.heap.size) (vs 19) w' := q7
  replace qo20 : ((fun _ p w => HeldP w1.heap.size ⟨(recOf l).kind, (recOf l).key, (recOf l).ver, []⟩ p w)) (vs 20) (vs 19) w' := qo20
  clear q42 q43 q44 q45 q46 q47 q48 q49 q50 q51 q52 q53 q54 q55 q56 q57 q58 q59 q60
  simp only [putAll, Act.put, List.setIfInBounds_toArray, List.set_cons_zero, List.set_cons_succ, Nat.reduceAdd, r42, r43, r44, r45, r46, r47, r48, r49, r50, r51, r52, r53, r54, r55, r56, r57, r58, r59, r60]
  clear r42 r43 r44 r45 r46 r47 r48 r49 r50 r51 r52 r53 r54 r55 r56 r57 r58 r59 r60
  obtain ⟨g, d, h7, hgB, hh, hown⟩ := qo20
  rw [h7]
  have hz : w.heap.size < g := by omega
  have gw' := gx.trans hg
  have hbx' : w'.heap[w.heap.size]? = some (boxOf Rec.none (.slice none 0 0)) := (hg.block _ (heap_lt hbx)).trans hbx
  have hstart : LoopS w g l 6 w' := ⟨gw', hbx', fun i h1 h2 => by omega, d, hh, own_mono (by simpa [dataTo] using hown) (by omega)⟩
  clear q7 hg hbx gx k0 k2 k3 k4 k5 hc1 h7 b0 b1 b2 b3 b4 hbx' gw' hh hown
  clear hgB
  go_wp2_with fail
  go_loopw [8] (fun i wr => ∃ j : Nat, 6 ≤ j ∧ j ≤ 14 ∧ i = .int .i64 j ∧ LoopS w g l j wr) (fun i _ => 14 - (intOf i).toNat)
  case atStart => exact ⟨6, by omega, by omega, rfl, hstart⟩
  case round =>
   obtain ⟨j, hj6, hj14, rfl, hgr, hbr, hcl, d, hh, hown⟩ := hrel
   by_cases hlt : j < 14
   ·have hcr := hc.grow hgr
    have k5 := hcr.at' 5 (by rw [HL.out]; omega)
    have kj := hcr.at' j (by rw [HL.out]; omega)
    have bj : (at' l j).toNat < 256 := UInt8.toNat_lt _
    by_cases hin : j < 6 + (at' l 5).toNat
    ·obtain ⟨ao', cp', rfl⟩ := own_slice hown
     have hdl : (dataTo l j).length ≤ 8 := by rw [dataTo_len l j HL.out h8]; omega
     go_wp2_with fail
     refine wp_region_v [pl (ex (.pointer (some ⟨g, 3, none⟩))), pl (ex (.slice ao' (dataTo l j).length cp')), pl (ex (.slice (some ⟨b, off, none⟩) 16 cap)), pl (ex (.int .i64 j)), pl (ex (.pointer (some ⟨b, off + j, none⟩))), pl (ex (.int .u8 ((at' l j).toNat : Int))), pl (OneQ (.slice ao' (dataTo l j).length cp') (at' l j)), pl (OwnP (w.heap.size + 1) (dataTo l j ++ [at' l j])), pl (ex (.pointer (some ⟨g, 3, none⟩))), pl1 7 ((fun _ v w' => PutP (w.heap.size + 1) g (recOf l) (dataTo l j ++ [at' l j]) v w'))] [none, none, none, none, none, none, none, some ((AppStep (.slice ao' (dataTo l j).length cp'))), none, some ((BoxStep 33))] (AppJ w g (recOf l) (.slice ao' (dataTo l j).length cp') (dataTo l j)) (by kernel_rfl) (by kernel_rfl) ⟨st_pl (st_ex _), st_pl (st_ex _), st_pl (st_ex _), st_pl (st_ex _), st_pl (st_ex _), st_pl (st_ex _), st_pl (st_one _ _), st_pl (st_own _ _), st_pl (st_ex _), st_put _ _ _ _ _, trivial⟩ ⟨⟨(fun w => .inl rfl), ⟨.inr (fun _ _ _ _ _ h => h), .inr (fun _ _ _ _ _ h => h), .inr (fun _ _ _ _ _ h => h), .inr (fun _ _ _ _ _ h => h), .inr (fun _ _ _ _ _ h => h), .inr (fun _ _ _ _ _ h => h), .inr ((fun v _ w w' hs hq => sp_one_app hs hq)), .inl (by kernel_rfl), .inl (by kernel_rfl), .inl (by kernel_rfl), trivial⟩⟩, ⟨(fun w => .inl rfl), ⟨.inr (fun _ _ _ _ _ h => h), .inr (fun _ _ _ _ _ h => h), .inr (fun _ _ _ _ _ h => h), .inr (fun _ _ _ _ _ h => h), .inr (fun _ _ _ _ _ h => h), .inr (fun _ _ _ _ _ h => h), .inr ((fun v _ w w' hs hq => sp_one_box hs hq)), .inr ((fun v _ w w' hs hq => sp_own _ _ v w w' hs hq)), .inr (fun _ _ _ _ _ h => h), .inl (by kernel_rfl), trivial⟩⟩, trivial⟩ ⟨(fun h => by cases h), (fun h => by cases h), (fun h => by cases h), (fun h => by cases h), (fun h => by cases h), (fun h => by cases h), (fun h => by cases h), (fun h => by cases h), (fun h => by cases h), fun _ _ _ _ h => h, trivial⟩ ⟨hgr.drew, hbr, fun _ => hh, fun _ => hown⟩ ?_ ?_
     ·refine ⟨?_, ?_, ?_, ?_, ?_, ?_, ?_, ?_, ?_, ?_, trivial⟩
      ·refine needv_plain rfl (fun a w' dn hr hg hin => ?_)
       have e7 : a.eval (.tmp 7) = .pointer (some ⟨g, 0, none⟩) := insw_ext hin 7 (by kernel_rfl)
       refine uponw_val ?_ hg rfl
       clear hin hg
       obtain ⟨ek, ef⟩ := evs a
       generalize a.eval = ev at *
       go_simp
       all_goals first | omega | (intro _; omega) | go_arith
      ·refine needv_plain rfl (fun a w' dn hr hg hin => ?_)
       have e72 : a.eval (.tmp 72) = _ := insw_on hin 0 (by kernel_rfl)
       have n7 := hr.not1 7 (by kernel_rfl)
       have n9 := hr.notBy 9 7 n7 (by kernel_rfl)
       have y3 := box_cell (hg.2.2.1 n9) 3 _ rfl
       refine uponw_val ?_ hg rfl
       clear hin hg hr
       obtain ⟨ek, ef⟩ := evs a
       generalize a.eval = ev at *
       go_simp
       all_goals first | omega | (intro _; omega) | go_arith
      ·refine needv_plain rfl (fun a w' dn hr hg hin => ?_)
       have e : a.eval (.tmp 0) = .slice (some ⟨b, off, none⟩) 16 cap := insw_ext hin 0 (by kernel_rfl)
       exact uponw_move rfl hg e
      ·refine needv_plain rfl (fun a w' dn hr hg hin => ?_)
       have e : a.eval (.tmp 8) = .int .i64 j := insw_ext hin 8 (by kernel_rfl)
       exact uponw_move rfl hg e
      ·refine needv_plain rfl (fun a w' dn hr hg hin => ?_)
       have e74 : a.eval (.tmp 74) = _ := insw_on hin 2 (by kernel_rfl)
       have e75 : a.eval (.tmp 75) = _ := insw_on hin 3 (by kernel_rfl)
       refine uponw_val ?_ hg rfl
       clear hin hg
       obtain ⟨ek, ef⟩ := evs a
       generalize a.eval = ev at *
       go_simp
       all_goals first | omega | (intro _; omega) | go_arith
      ·refine needv_plain rfl (fun a w' dn hr hg hin => ?_)
       have e76 : a.eval (.tmp 76) = _ := insw_on hin 4 (by kernel_rfl)
       have h1 := (hc.grow hg.1).at' j (by rw [HL.out]; omega)
       refine uponw_val ?_ hg rfl
       clear hin hg hr
       obtain ⟨ek, ef⟩ := evs a
       generalize a.eval = ev at *
       go_simp
       all_goals first | omega | (intro _; omega) | go_arith
      ·refine needv_plain rfl (fun a w' dn hr hg hin => ?_)
       have e77 : a.eval (.tmp 77) = _ := insw_on hin 5 (by kernel_rfl)
       have n7 := hr.not1 7 (by kernel_rfl)
       refine uponw_step (v := .slice (some ⟨w'.heap.size, 0, none⟩) 1 1) (w' := w'.alloc (.cells #[.int .u8 ((at' l j).toNat : Int)] 5)) ?_ (grow_alloc _ _) (AppJ.grow hg (grow_alloc _ _)) ⟨_, rfl, heap_new _ _ _, fun q hq => by have := ((hg.2.2.2 n7).lt q hq).2; omega⟩
       clear hin hg hr
       obtain ⟨ek, ef⟩ := evs a
       generalize a.eval = ev at *
       go_simp
       all_goals first | omega | (intro _; omega) | go_arith
      ·refine needv_plain rfl (fun a w' dn hr hg hin => ?_)
       have e73 : a.eval (.tmp 73) = _ := insw_on hin 1 (by kernel_rfl)
       have e78 : (OneQ (.slice ao' (dataTo l j).length cp') (at' l j)) (a.eval (.tmp 78)) w' := insw_on hin 6 (by kernel_rfl)
       obtain ⟨b0, hb1, hb2, hb3⟩ := e78
       have ho7 := hg.2.2.2 hr.un
       obtain ⟨v', w2, hrun, ho2, hg2⟩ := app_bytes w' (w.heap.size + 1) _ (dataTo l j) b0 (at' l j) 31 ho7 hb2 (by omega) (by have := heap_lt hg.2.1; omega)
       have hgrow : Grow w w2 := grow_of_grown hg.1 hg2 (fun k hk => by have := own_ge ho7 k hk; omega)
       have hbx2 : w2.heap[w.heap.size]? = some (boxOf Rec.none (.slice none 0 0)) := (hg2.block _ (heap_lt hg.2.1) (own_ne ho7 (by decide) hg.2.1)).trans hg.2.1
       refine uponw_step (v := v') (w' := w2) ?_ (.inr hg2) ⟨hgrow, hbx2, fun h9 => ?_, fun h => by simp [upd] at h⟩ ho2
       ·exact exec_append (.tmp 73) (.tmp 78) 31 rfl _ _ e73 hb1 hrun
       ·have h9' := hg.2.2.1 h9
        exact (hg2.block _ (heap_lt h9') (own_ne ho7 (by decide) h9')).trans h9'
      ·refine needv_plain rfl (fun a w' dn hr hg hin => ?_)
       have e7 : a.eval (.tmp 7) = .pointer (some ⟨g, 0, none⟩) := insw_ext hin 7 (by kernel_rfl)
       refine uponw_val ?_ hg rfl
       clear hin hg
       obtain ⟨ek, ef⟩ := evs a
       generalize a.eval = ev at *
       go_simp
       all_goals first | omega | (intro _; omega) | go_arith
      ·refine needv_plain rfl (fun a w' dn hr hg hin => ?_)
       have e80 : a.eval (.tmp 80) = _ := insw_on hin 8 (by kernel_rfl)
       have e79 : (OwnP (w.heap.size + 1) (dataTo l j ++ [at' l j])) (a.eval (.tmp 79)) w' := insw_on hin 7 (by kernel_rfl)
       obtain ⟨ao2, cp2, h79⟩ := own_slice e79
       have hh9 := hg.2.2.1 hr.un
       have y3 := box_cell hh9 3 _ rfl
       have f3 := box_frozen hh9 3
       have hp1 := heap_set hh9 3 (a.eval (.tmp 79))
       have hstep : BoxStep 33 w' (w'.setCell ⟨g, 3, none⟩ (a.eval (.tmp 79))) := .inr ⟨g, _, _, (GrowBut.refl _ _).set _ _ _, hh9, hp1, by simp⟩
       refine uponw_skip (w' := w'.setCell ⟨g, 3, none⟩ (a.eval (.tmp 79))) ?_ hstep ⟨grow_set hg.1 (by show w.heap.size ≤ g; omega) _, ?_, fun h => by simp [upd] at h, fun h => ?_⟩ ⟨hp1, own_box (by decide) hstep e79⟩
       ·clear hin hg hh9 hp1 hstep e79 hr
        obtain ⟨ek, ef⟩ := evs a
        generalize a.eval = ev at *
        go_simp
        all_goals first | omega | (intro _; omega) | go_arith
       ·rw [Below.heap_setCell _ _ _ _ (by show w.heap.size ≠ g; omega)]; exact hg.2.1
       ·have := hr.rd 7 (by kernel_rfl)
        have h' : dn 7 = false := h
        rw [this] at h'; cases h'
     ·intro vs w' dn hdn hg ht
      obtain ⟨q72, q73, q74, q75, q76, q77, q78, q79, q80, qo9, -⟩ := ht
      have r72 : vs 0 = .pointer (some ⟨g, 3, none⟩) := q72
      have r73 : vs 1 = .slice ao' (dataTo l j).length cp' := q73
      have r74 : vs 2 = .slice (some ⟨b, off, none⟩) 16 cap := q74
      have r75 : vs 3 = .int .i64 j := q75
      have r76 : vs 4 = .pointer (some ⟨b, off + j, none⟩) := q76
      have r77 : vs 5 = .int .u8 ((at' l j).toNat : Int) := q77
      replace q78 : (OneQ (.slice ao' (dataTo l j).length cp') (at' l j)) (vs 6) w' := q78
      replace q79 : (OwnP (w.heap.size + 1) (dataTo l j ++ [at' l j])) (vs 7) w' := q79
      have r80 : vs 8 = .pointer (some ⟨g, 3, none⟩) := q80
      replace qo9 : ((fun _ v w' => PutP (w.heap.size + 1) g (recOf l) (dataTo l j ++ [at' l j]) v w')) (vs 9) (vs 7) w' := qo9
      clear q72 q73 q74 q75 q76 q77 q80
      simp only [putAll, Act.put, List.setIfInBounds_toArray, List.set_cons_zero, List.set_cons_succ, Nat.reduceAdd, r72, r73, r74, r75, r76, r77, r80]
      clear r72 r73 r74 r75 r76 r77 r80
      obtain ⟨hp1, hp2⟩ := qo9
      rw [← dataTo_succ l j HL.out hj6 hin h8] at hp2
      have hL : LoopS w g l (j + 1) w' := ⟨hg.1, hg.2.1, fun i h1 h2 => by omega, _, hp1, hp2⟩
      clear hp1 hp2 hg q78 q79 hdn
      generalize vs 6 = u6
      generalize vs 7 = u7
      go_wp2
      go_roundw
      case rel => exact ⟨j + 1, by omega, by omega, by go_num, hL⟩
      case measure => simp [intOf]; omega
    ·have HK : Hid (6 + (at' l 5).toNat ≤ j) := by show _ ≤ _; omega
     by_cases h0 : at' l j = 0
     ·have d0 : (((at' l j).toNat : Int) != 0) = false := by simp [h0]
      have hL : LoopS w g l (j + 1) wr := ⟨hgr, hbr, fun i h1 h2 => by
       by_cases e : i = j
       ·subst e; exact h0
       ·exact hcl i h1 (by omega), d, hh, by rw [dataTo_same l j HK.out]; exact hown⟩
      clear h0
      go_wp2
      go_roundw
      case rel => exact ⟨j + 1, by omega, by omega, by go_num, hL⟩
      case measure => simp [intOf]; omega
     ·have hne : (at' l j).toNat ≠ 0 := fun e => h0 (UInt8.toNat_inj.1 e)
      have d0 : (((at' l j).toNat : Int) != 0) = true := by simp [hne]
      have HE : Hid (readE l at_ = 2) := readE_spoilt (by rw [HW.out, if_pos (clean_not l j HL.out h8 HK.out hlt h0)]) (by omega)
      have hbx := hbr
      have gx := hgr
      clear h0 hne hcl hown hh hgr hbr
      go_wp2_with fail
      refine (no_any _ _).mono ?_
      rintro e w9 ⟨rfl, g9⟩
      have hb9 := (g9.block _ (heap_lt hbx)).trans hbx
      have gz := gx.trans g9
      obtain ⟨z0, z1, z2, z3⟩ := box4 hb9 rfl rfl rfl rfl
      obtain ⟨f0, f1, f2, f3⟩ := boxf4 hb9
      have cs := cell_set
      clear g9 hb9 hbx gx
      go_wp2_with fail
      refine bodyPost_ret (v := .tuple #[.agg #[.int .i64 0, .int .i64 0, .int .i64 0, .slice none 0 0], .int .i64 _]) (by simp [results, Try.results44, go_sem, z0, z1, z2, z3, cs]) rfl (readQ_no HE.out (by omega) ?_)
      exact grow_set (grow_set (grow_set (grow_set gz (by simp) _) (by simp) _) (by simp) _) (by simp) _
   ·have ej : j = 14 := by omega
    subst ej
    have HE0 : Hid (spoilt l at_ = 0) := by show spoilt _ _ = 0; rw [HW.out, if_neg (by rw [clean_last l HL.out h8 hcl]; simp)]
    have HE1 : Hid (readE l at_ = wrong (recOf l)) := by show readE _ _ = _; unfold readE; rw [if_pos HE0.out]
    rw [dataTo_last l h8] at hown
    obtain ⟨ao', cp', rfl⟩ := own_slice hown
    obtain ⟨y0, y1, y2, y3⟩ := box4 hh rfl rfl rfl rfl
    clear hcl hc
    go_wp2_with fail
    refine (rwrong_any _ _ _ (recOf l).data _ _ (bytes_own hown)).mono ?_
    rintro e w2 ⟨rfl, g2⟩
    have hh2 := (g2.block _ (heap_lt hh)).trans hh
    have hbx := (g2.block _ (heap_lt hbr)).trans hbr
    have hown2 := own_grow hown g2
    have gx := hgr.trans g2
    clear y0 y1 y2 y3 hown hgr hbr hh g2
    by_cases hw0 : wrong (recOf l) = 0
    ·have HQ : Hid (readR l at_ = recOf l) := by show readR _ _ = _; unfold readR; rw [HE1.out, if_pos hw0]
     have HW0 : Hid (wrong (recOf l) = 0) := hw0
     have d0 : (wrong (recOf l) != 0) = false := by rw [hw0]; rfl
     clear hw0
     obtain ⟨y0, y1, y2, y3⟩ := box4 hh2 rfl rfl rfl rfl
     obtain ⟨z0, z1, z2, z3⟩ := box4 hbx rfl rfl rfl rfl
     obtain ⟨f0, f1, f2, f3⟩ := boxf4 hbx
     have cs := cell_set
     clear hbx hh2
     go_wp2_with fail
     refine bodyPost_ret (v := .tuple #[.agg #[.int .i64 (recOf l).kind, .int .i64 (recOf l).key, .int .i64 (recOf l).ver, .slice ao' (recOf l).data.length cp'], .int .i64 0]) (by simp [results, Try.results44, go_sem, z0, z1, z2, z3, cs]) rfl ⟨.slice ao' (recOf l).data.length cp', ?_, ?_, ?_⟩
     ·rw [HQ.out, HE1.out, HW0.out]
     ·rw [HQ.out]
      exact own_mono (own_set (own_set (own_set (own_set hown2 (by simp) _) (by simp) _) (by simp) _) (by simp) _) (by omega)
     ·exact grow_set (grow_set (grow_set (grow_set gx (by simp) _) (by simp) _) (by simp) _) (by simp) _
    ·have d0 : (wrong (recOf l) != 0) = true := by simpa using hw0
     have HE : Hid (readE l at_ = wrong (recOf l)) := HE1
     have HN : Hid (wrong (recOf l) ≠ 0) := hw0
     clear hh2 hown2 hw0
     go_wp2_with fail
     refine (no_any _ _).mono ?_
     rintro e w9 ⟨rfl, g9⟩
     have hb9 := (g9.block _ (heap_lt hbx)).trans hbx
     have gz := gx.trans g9
     obtain ⟨z0, z1, z2, z3⟩ := box4 hb9 rfl rfl rfl rfl
     obtain ⟨f0, f1, f2, f3⟩ := boxf4 hb9
     have cs := cell_set
     clear g9 hb9 hbx gx
     go_wp2_with fail
     refine bodyPost_ret (v := .tuple #[.agg #[.int .i64 0, .int .i64 0, .int .i64 0, .slice none 0 0], .int .i64 (wrong (recOf l))]) (by simp [results, Try.results44, go_sem, z0, z1, z2, z3, cs]) rfl (readQ_no HE.out HN.out ?_)
     exact grow_set (grow_set (grow_set (grow_set gz (by simp) _) (by simp) _) (by simp) _) (by simp) _

theorem rread_any (l : List UInt8) (at_ : Int) (v : Value) (w : World) (h : Bytes w v l) : Calls Try.prog 44 #[v, .int .i64 at_] w (ReadQ w l at_) := by
 by_cases hl : l.length = 16
 ·rcases h with ⟨ao, cap, rfl, rfl, _⟩ | ⟨b, off, cap, rfl, h1, hc⟩
  ·simp at hl
  ·rw [show (Value.slice (some ⟨b, off, none⟩) l.length cap) = .slice (some ⟨b, off, none⟩) 16 cap from by rw [hl]]
   cases hs : sealedB l with
   | false => exact rread_sum l at_ b off cap w hl (by omega) hc hs
   | true =>
    by_cases hp : ((at' l 1).toNat : Int) = at_
    ·by_cases h8 : 8 < (at' l 5).toNat
     ·exact rread_much l at_ b off cap w hl (by omega) hc hs hp h8
     ·exact rread_main l at_ b off cap w hl (by omega) hc hs hp (by omega)
    ·exact rread_place l at_ b off cap w hl (by omega) hc hs hp
 ·obtain ⟨ao, cap, rfl, -, -⟩ := bytes_src h
  exact rread_size l at_ ao cap w hl
end Go.Proofs.Ytgaecpdokgklpab
