/-
  What the document's GetBlock and PutBlock tell of any disk.
  Condition: the disk lies in memory.
-/
import Derived.Test.YtgaecpdokgklpabRDisk
namespace Go.Proofs.Ytgaecpdokgklpab
set_option maxRecDepth 100000
open Go.RowKit
open Go.Proofs.Ytgaecpdokgklpab.Plain Go.Proofs.Ytgaecpdokgklpab.Reg

/-- What was written last of a block. -/
def lastW (ws : List Wr) (a : Int) : Option (List UInt8) := ws.foldl (fun r x => if x.1 = a then some x.2 else r) none
theorem lastW_snoc (ws : List Wr) (x : Wr) (a : Int) : lastW (ws ++ [x]) a = if x.1 = a then some x.2 else lastW ws a := by simp [lastW, List.foldl_append]
theorem lastW_take (ws : List Wr) (a : Int) (k : Nat) (h : k < ws.length) : lastW (ws.take (k + 1)) a = if ws[k].1 = a then some ws[k].2 else lastW (ws.take k) a := by
 rw [List.take_succ_eq_append_getElem h, lastW_snoc]
/-- What is read of a block: none, where there is no such block. -/
def Dk.get (d : Dk) (a : Int) : Option (List UInt8) := if a < 0 ∨ (d.blocks.length : Int) ≤ a then none else some ((lastW d.late a).getD (d.blocks.getD a.toNat []))
def Dk.getE (d : Dk) (a : Int) : Int := if a < 0 ∨ (d.blocks.length : Int) ≤ a then 3 else 0
def Dk.put (d : Dk) (a : Int) (b : List UInt8) : Dk := ⟨d.blocks, d.late ++ [(a, b)]⟩
def Dk.putE (d : Dk) (a : Int) (b : List UInt8) : Int := if a < 0 ∨ (d.blocks.length : Int) ≤ a then 3 else if b.length ≠ 16 then 2 else 0
def Dk.putD (d : Dk) (a : Int) (b : List UInt8) : Dk := if d.putE a b = 0 then d.put a b else d

theorem ret_two {v u v' u' : Value} (h1 : v = v') (h2 : u = u') : Ending.returned (.tuple #[v, u]) = .returned (.tuple #[v', u']) := by rw [h1, h2]

set_option maxHeartbeats 2000000 in
theorem getBlock_any (S : Nat → Prop) (d : Dk) (a : Int) (vb vl : Value) (w : World) (hb : BlocksS S w vb d.blocks) (hl : LateS S w vl d.late) (hm2 : d.late.length ≤ 140737488355328) :
  Calls Try.prog 43 #[.agg #[vb, vl], .int .i64 a] w fun e w' => ∃ v, e = .returned (.tuple #[v, .int .i64 (d.getE a)]) ∧ BytesS S w' v ((d.get a).getD []) ∧ Grow w w' := by
 obtain ⟨ab, cb, rfl⟩ := hb.p.form
 obtain ⟨al, cl, rfl⟩ := hl.p.form
 by_cases hout : a < 0 ∨ (d.blocks.length : Int) ≤ a
 ·have HE : Hid (d.getE a = 3) := by show d.getE a = 3; unfold Dk.getE; rw [if_pos hout]
  have HG : Hid (d.get a = none) := by show d.get a = none; unfold Dk.get; rw [if_pos hout]
  rw [HE.out, HG.out]
  by_cases h0 : a < 0
  ·go_enter Try.func43, Try.ntmps43
   go_wp2_with fail
   go_ret2
   exact ⟨_, rfl, .inl ⟨none, 0, rfl, rfl, fun _ => rfl⟩, grow_alloc _ _⟩
  ·have h1 : (d.blocks.length : Int) ≤ a := by omega
   clear hout
   go_enter Try.func43, Try.ntmps43
   go_wp2_with fail
   go_ret2
   exact ⟨_, rfl, .inl ⟨none, 0, rfl, rfl, fun _ => rfl⟩, grow_alloc _ _⟩
 ·have HE : Hid (d.getE a = 0) := by show d.getE a = 0; unfold Dk.getE; rw [if_neg hout]
  have HG : Hid (d.get a = some ((lastW d.late a).getD (d.blocks.getD a.toNat []))) := by show d.get a = _; unfold Dk.get; rw [if_neg hout]
  rw [HE.out, HG.out, Option.getD_some]
  obtain ⟨p, rfl⟩ := Int.eq_ofNat_of_zero_le (by omega : 0 ≤ a)
  have hp : p < d.blocks.length := by omega
  clear hout
  rw [Int.toNat_natCast]
  have gW := grow_alloc w (.cells #[.slice ab d.blocks.length cb, .slice al d.late.length cl] 25)
  have hx := heap_new w #[.slice ab d.blocks.length cb, .slice al d.late.length cl] 25
  have hbW := hb.grow gW
  have hlW := hl.grow gW
  clear hb hl
  go_enter Try.func43, Try.ntmps43
  go_wp2_with fail
  generalize World.alloc w _ = W at *
  obtain ⟨x0, x1⟩ := box2 hx rfl rfl
  go_loop [6] (fun i => ∃ k : Nat, k ≤ d.late.length ∧ i = .int .i64 ((k : Int) - 1) ∧ lastW d.late p = lastW (d.late.take k) p) (fun i => (intOf i + 1).toNat)
  case atStart => exact ⟨d.late.length, Nat.le_refl _, rfl, by rw [List.take_length]⟩
  case round =>
   obtain ⟨k, hk, rfl, hla⟩ := hrel
   have HLA : Hid (lastW d.late p = lastW (d.late.take k) p) := hla
   clear hla
   match k, hk, HLA with
   | 0, hk, HLA =>
    have HB : Hid (lastW d.late p = none) := HLA
    obtain ⟨b, off, rfl, u, hu, hub⟩ := hbW.at p hp
    obtain ⟨au, cu, rfl, -, -⟩ := bytes_src hub.p
    clear HLA
    go_wp2_with fail
    go_ret2
    refine ⟨_, rfl, ?_, gW⟩
    rw [HB.out, Option.getD_none]
    exact hub
   | k + 1, hk, HLA =>
    have hkl : k < d.late.length := by omega
    obtain ⟨b, off, rfl, hc0, u, hu, hub⟩ := hlW.at k hkl
    obtain ⟨au, cu, rfl, -, -⟩ := bytes_src hub.p
    have hst := lastW_take d.late p k hkl
    by_cases he : d.late[k].1 = (p : Int)
    ·rw [he] at hc0
     rw [if_pos he] at hst
     have HV : Hid (lastW d.late p = some d.late[k].2) := HLA.out.trans hst
     clear HLA hst he
     have e1 : ((k + 1 : Nat) : Int) - 1 = (k : Int) := by omega
     rw [e1]
     clear e1
     go_wp2_with fail
     go_ret2
     refine ⟨_, rfl, ?_, gW⟩
     rw [HV.out, Option.getD_some]
     exact hub
    ·rw [if_neg he] at hst
     have HV : Hid (lastW d.late p = lastW (d.late.take k) p) := HLA.out.trans hst
     have d2 : (d.late[k].1 == (p : Int)) = false := beq_false' he
     clear HLA hst he hub
     generalize d.late[k].1 = q at *
     have e1 : ((k + 1 : Nat) : Int) - 1 = (k : Int) := by omega
     rw [e1]
     clear e1
     go_wp2_with fail
     go_round
     case rel => exact ⟨k, by omega, by go_num, HV.out⟩
     case measure => simp [intOf]

/-- Writes' cells: each one's place, and its slice. -/
def flat : List Wr → List Value → List Value
 | x :: ws, u :: us => .int .i64 x.1 :: u :: flat ws us
 | _, _ => []
theorem flat_length : ∀ (ws : List Wr) (us : List Value), us.length = ws.length → (flat ws us).length = ws.length * 2
 | [], us, _ => by simp [flat]
 | x :: ws, [], h => by simp at h
 | x :: ws, u :: us, h => by simp [flat, flat_length ws us (by simpa using h)]; omega
theorem flat_even : ∀ (ws : List Wr) (us : List Value) (i : Nat), us.length = ws.length → (h : i < ws.length) → (flat ws us)[i * 2]? = some (.int .i64 ws[i].1)
 | [], us, i, _, h => by simp at h
 | x :: ws, [], i, h, _ => by simp at h
 | x :: ws, u :: us, 0, _, _ => by simp [flat]
 | x :: ws, u :: us, i + 1, h, hi => by
  have := flat_even ws us i (by simpa using h) (by simpa using hi)
  rw [show (i + 1) * 2 = i * 2 + 1 + 1 from by omega]
  simpa [flat] using this
theorem flat_odd : ∀ (ws : List Wr) (us : List Value) (i : Nat), us.length = ws.length → i < ws.length → (flat ws us)[i * 2 + 1]? = us[i]?
 | [], us, i, _, h => by simp at h
 | x :: ws, [], i, h, _ => by simp at h
 | x :: ws, u :: us, 0, _, _ => by simp [flat]
 | x :: ws, u :: us, i + 1, h, hi => by
  have := flat_odd ws us i (by simpa using h) (by simpa using hi)
  rw [show (i + 1) * 2 + 1 = i * 2 + 1 + 1 + 1 from by omega]
  simpa [flat] using this
theorem flat_app : ∀ (ws : List Wr) (us : List Value) (x : Wr) (u : Value), us.length = ws.length → flat (ws ++ [x]) (us ++ [u]) = flat ws us ++ [.int .i64 x.1, u]
 | [], [], x, u, _ => by simp [flat]
 | [], _ :: _, x, u, h => by simp at h
 | _ :: _, [], x, u, h => by simp at h
 | y :: ws, v :: us, x, u, h => by simp [flat, flat_app ws us x u (by simpa using h)]
theorem flat_mem : ∀ (ws : List Wr) (us : List Value) (c : Value), c ∈ flat ws us → (∃ n, c = .int .i64 n) ∨ c ∈ us
 | [], us, c, h => by simp [flat] at h
 | x :: ws, [], c, h => by simp [flat] at h
 | x :: ws, u :: us, c, h => by
  simp only [flat, List.mem_cons] at h
  rcases h with h | h | h
  ·exact .inl ⟨_, h⟩
  ·exact .inr (by simp [h])
  ·rcases flat_mem ws us c h with h | h
   ·exact .inl h
   ·exact .inr (by simp [h])

/-- A slice of writes as append wants its source. -/
theorem late_src {S : Nat → Prop} {w : World} {v : Value} {ws : List Wr} (h : LateS S w v ws) :
  ∃ ao cap us, v = .slice ao ws.length cap ∧ us.length = ws.length ∧ (ao = none → ws.length = 0 ∧ cap = 0) ∧ (∀ ad, ao = some ad → ∀ (j : Nat) u, (flat ws us)[j]? = some u → w.cell? (ad.add j) = some u) ∧ (∀ i (hi : i < ws.length), ∃ u, us[i]? = some u ∧ BytesS S w u ws[i].2) := by
 rcases h with ⟨ao, cap, rfl, rfl, h0⟩ | ⟨b, off, cap, hSb, rfl, h1, hc⟩
 ·exact ⟨ao, cap, [], rfl, rfl, fun h => ⟨rfl, h0 h⟩, fun ad _ j u hj => by simp [flat] at hj, fun i hi => by simp at hi⟩
 ·have hex : ∃ f : Nat → Value, ∀ i (hi : i < ws.length), w.cell? ⟨b, off + i * 2 + 1, none⟩ = some (f i) ∧ BytesS S w (f i) ws[i].2 := by
   refine ⟨fun i => if hi : i < ws.length then (hc i hi).2.choose else undef, fun i hi => ?_⟩
   simp only [hi, dif_pos]
   exact (hc i hi).2.choose_spec
  obtain ⟨f, hf⟩ := hex
  have hul : ((List.range ws.length).map f).length = ws.length := by simp
  refine ⟨_, cap, (List.range ws.length).map f, rfl, hul, fun h => (by cases h), fun ad had j u hj => ?_, fun i hi => ⟨f i, by simp [hi], (hf i hi).2⟩⟩
  cases had
  have hjl : j < ws.length * 2 := by
   rw [← flat_length ws _ hul]
   rcases Nat.lt_or_ge j (flat ws ((List.range ws.length).map f)).length with h | h
   ·exact h
   ·rw [List.getElem?_eq_none h] at hj; cases hj
  have e : ∀ m, (⟨b, off, none⟩ : Addr).add m = ⟨b, off + m, none⟩ := fun m => by simp [Addr.add]
  rcases Nat.mod_two_eq_zero_or_one j with hm | hm
  ·obtain ⟨i, rfl⟩ : ∃ i, j = i * 2 := ⟨j / 2, by omega⟩
   rw [flat_even ws _ i hul (by omega)] at hj
   cases hj
   rw [e]
   exact (hc i (by omega)).1
  ·obtain ⟨i, rfl⟩ : ∃ i, j = i * 2 + 1 := ⟨j / 2, by omega⟩
   rw [flat_odd ws _ i hul (by omega)] at hj
   have : u = f i := by simp [show i < ws.length from by omega] at hj; exact hj.symm
   subst this
   rw [e]
   exact (hf i (by omega)).1

theorem late_own {S : Nat → Prop} {w : World} {base : Nat} {v : Value} {ws : List Wr} {us : List Value} (h : w.ownsRow base 68 2 v ws.length (flat ws us)) (hl : us.length = ws.length) (hu : ∀ i (hi : i < ws.length), ∃ u, us[i]? = some u ∧ BytesS S w u ws[i].2) : LateS (Upon S base) w v ws := by
 rcases h.2 with ⟨rfl, h0⟩ | ⟨g, cap, cur, rfl, hb, hh, h1, h2, h3, h4⟩
 ·exact .inl ⟨none, 0, rfl, List.eq_nil_of_length_eq_zero h0, fun _ => rfl⟩
 ·refine .inr ⟨g, 0, cap, .inr hb, rfl, h1, fun i hi => ?_⟩
  have k0 := h.cellAt (i * 2) (by omega)
  have k1 := h.cellAt (i * 2 + 1) (by omega)
  rw [flat_even ws us i hl hi] at k0
  rw [flat_odd ws us i hl hi] at k1
  obtain ⟨u, hu1, hu2⟩ := hu i hi
  rw [hu1] at k1
  refine ⟨by rw [Nat.zero_add]; exact k0, u, by rw [Nat.zero_add]; exact k1, hu2.mono upon_l⟩

theorem info_write : (Try.prog.info? 68).map (fun i => (i.zero, i.size, i.bytes)) = some (some (.agg #[.int .i64 0, .slice none 0 0]), 2, 32) := by kernel_rfl
theorem own_emptyW (w : World) : (w.alloc (.cells #[] 68)).ownsRow w.heap.size 68 2 (.slice (some ⟨w.heap.size, 0, none⟩) 0 0) 0 [] :=
 ⟨rfl, .inr ⟨w.heap.size, 0, #[], rfl, Nat.le_refl _, by show (w.heap.push _)[w.heap.size]? = _; simp, Nat.le_refl _, by unfold maxLen; omega, rfl, rfl⟩⟩
theorem bytes_one {w : World} {v : Value} {l : List UInt8} (h : Bytes w v l) : v.oneCell' = true := by
 obtain ⟨ao, cap, rfl, -, -⟩ := bytes_src h; rfl

set_option maxHeartbeats 2000000 in
theorem putBlock_no (d : Dk) (a : Int) (l : List UInt8) (vb vl v : Value) (w : World) (hb : BlocksP w vb d.blocks) (hl : LateP w vl d.late) (hv : Bytes w v l) (hn : a < 0 ∨ (d.blocks.length : Int) ≤ a ∨ l.length ≠ 16) :
  Calls Try.prog 65 #[.agg #[vb, vl], .int .i64 a, v] w fun e w' => e = .returned (.tuple #[.agg #[vb, vl], .int .i64 (d.putE a l)]) ∧ Grow w w' := by
 obtain ⟨ab, cb, rfl⟩ := hb.form
 obtain ⟨al, cl, rfl⟩ := hl.form
 obtain ⟨av, cv, rfl, -, -⟩ := bytes_src hv
 clear hb hl hv
 by_cases hout : a < 0 ∨ (d.blocks.length : Int) ≤ a
 ·have HE : Hid (d.putE a l = 3) := by show d.putE a l = 3; unfold Dk.putE; rw [if_pos hout]
  rw [HE.out]
  clear hn
  by_cases h0 : a < 0
  all_goals
   first | (have h1 : (d.blocks.length : Int) ≤ a := by omega) | skip
   clear hout
   go_enter Try.func65, Try.ntmps65
   go_wp2_with fail
   exact bodyPost_ret (v := .tuple #[.agg #[.slice ab d.blocks.length cb, .slice al d.late.length cl], .int .i64 3]) (by simp [results, Try.results65, go_sem]) rfl ⟨rfl, grow_alloc2 _ _ _⟩
 ·have h16 : l.length ≠ 16 := by omega
  have HE : Hid (d.putE a l = 2) := by show d.putE a l = 2; unfold Dk.putE; rw [if_neg hout, if_pos h16]
  rw [HE.out]
  have h0 : 0 ≤ a := by omega
  have h1 : a < (d.blocks.length : Int) := by omega
  have d0 : ((l.length : Int) != 16) = true := by simp; omega
  clear hn hout h16
  go_enter Try.func65, Try.ntmps65
  go_wp2_with fail
  exact bodyPost_ret (v := .tuple #[.agg #[.slice ab d.blocks.length cb, .slice al d.late.length cl], .int .i64 2]) (by simp [results, Try.results65, go_sem]) rfl ⟨rfl, grow_alloc2 _ _ _⟩

theorem hx1 (w : World) (c e : Array Value) : ((w.alloc (.cells c 25)).alloc (.cells e 25)).heap[w.heap.size]? = some (.cells c 25 (0, 0)) :=
 ((grow_alloc (w.alloc (.cells c 25)) _).block _ (by simp)).trans (heap_new _ _ _)
theorem hy1 (w : World) (c e : Array Value) : ((w.alloc (.cells c 25)).alloc (.cells e 25)).heap[w.heap.size + 1]? = some (.cells e 25 (0, 0)) := by
 have h := heap_new (w.alloc (.cells c 25)) e 25
 rw [World.size_alloc] at h
 exact h

theorem own_slice2 {w : World} {base n size : Nat} {e : TypeId} {v : Value} {xs : List Value} (h : w.ownsRow base e size v n xs) : ∃ ao cap, v = .slice ao n cap := by
 rcases h.2 with ⟨h1, h0⟩ | ⟨g, cap, cur, rfl, hb, _⟩
 ·subst h0; exact ⟨none, 0, h1⟩
 ·exact ⟨_, cap, rfl⟩
theorem put_grow {W w2 w3 : World} {o p : Obj} {r : Option Nat} {v : Value} {e : TypeId} {size n B : Nat} {xs : List Value} (hB : W.heap.size = B) (h2 : (W.alloc o).grownBy w2 r) (h3 : (w2.alloc p).grownBy w3 v.ownBlock) (hr : r = some B) (hown : w2.ownsRow B e size v n xs) : Grow W w3 := by
 have g2 : Grow W w2 := grow_of_grown (grow_alloc W _) h2 (fun k hk => by rw [hr] at hk; cases hk; omega)
 exact grow_of_grown (g2.trans (grow_alloc w2 _)) h3 (fun k hk => by have := (hown.lt k hk).1; omega)

theorem put_grow2 {W w3 : World} {o p : Obj} {r : Option Nat} {B : Nat} (hB : W.heap.size = B) (h3 : ((W.alloc o).alloc p).grownBy w3 r) (hr : r = some B) : Grow W w3 :=
 grow_of_grown ((grow_alloc W _).trans (grow_alloc _ _)) h3 (fun k hk => by rw [hr] at hk; cases hk; omega)
theorem put_late {S : Nat → Prop} {w : World} {base : Nat} {v u : Value} {ws : List Wr} {us : List Value} {a : Int} {l : List UInt8} (hl : us.length = ws.length) (h : w.ownsRow base 68 2 v (ws.length + 1) (flat ws us ++ [.int .i64 a, u])) (hu : ∀ i (hi : i < ws.length), ∃ u, us[i]? = some u ∧ BytesS S w u ws[i].2) (hb : BytesS S w u l) : LateS (Upon S base) w v (ws ++ [(a, l)]) := by
 rw [← flat_app ws us (a, l) u hl] at h
 refine late_own (us := us ++ [u]) (by simpa using h) (by simp [hl]) (fun i hi => ?_)
 by_cases hi2 : i < ws.length
 ·obtain ⟨x, h1, h2⟩ := hu i hi2
  refine ⟨x, by rw [List.getElem?_append_left (by omega)]; exact h1, ?_⟩
  rw [List.getElem_append_left hi2]; exact h2
 ·have e : i = ws.length := by simp at hi; omega
  subst e
  exact ⟨u, by rw [← hl]; simp, by simpa using hb⟩

set_option maxHeartbeats 2000000 in
theorem putBlock_yes (S : Nat → Prop) (d : Dk) (a : Int) (l : List UInt8) (vb vl v : Value) (w : World) (hb : BlocksP w vb d.blocks) (hl : LateS S w vl d.late) (hv : BytesS S w v l) (h0 : 0 ≤ a) (h1 : a < (d.blocks.length : Int)) (h16 : l.length = 16) (hm : d.late.length ≤ 1000000) :
  Calls Try.prog 65 #[.agg #[vb, vl], .int .i64 a, v] w fun e w' => ∃ vl', e = .returned (.tuple #[.agg #[vb, vl'], .int .i64 0]) ∧ LateS (Upon S w.heap.size) w' vl' (d.late ++ [(a, l)]) ∧ Grow w w' := by
 obtain ⟨ab, cb, rfl⟩ := hb.form
 obtain ⟨al, cl, us, rfl, hul, hnone, hcells, hus⟩ := late_src hl
 obtain ⟨av, cv, rfl, -, -⟩ := bytes_src hv.p
 have d0 : ((l.length : Int) != 16) = false := by simp [h16]
 have HL16 : Hid (l.length = 16) := h16
 obtain ⟨i0, hif, hz0, hz1, hz2⟩ := info_parts info_write
 clear hb hl h16
 have hx := hx1 w #[.slice ab d.blocks.length cb, .slice al d.late.length cl] #[.slice none 0 0, .slice none 0 0]
 have hy := hy1 w #[.slice ab d.blocks.length cb, .slice al d.late.length cl] #[.slice none 0 0, .slice none 0 0]
 have gW := grow_alloc2 w (.cells #[.slice ab d.blocks.length cb, .slice al d.late.length cl] 25) (.cells #[.slice none 0 0, .slice none 0 0] 25)
 have ho := own_emptyW ((w.alloc (.cells #[.slice ab d.blocks.length cb, .slice al d.late.length cl] 25)).alloc (.cells #[.slice none 0 0, .slice none 0 0] 25))
 have hone : ∀ u ∈ flat d.late us, u.oneCell' = true := by
  intro u hu
  rcases flat_mem _ _ _ hu with ⟨n, rfl⟩ | hu
  ·rfl
  ·obtain ⟨i, hi, rfl⟩ := List.mem_iff_getElem.1 hu
   obtain ⟨u', h2, h3⟩ := hus i (by omega)
   rw [List.getElem?_eq_getElem hi] at h2
   cases h2
   exact bytes_one h3.p
 simp only [World.size_alloc] at ho
 cases al with
 | some ad =>
  have hc1 : ∀ (j : Nat) u, (flat d.late us)[j]? = some u → (((w.alloc (.cells #[.slice ab d.blocks.length cb, .slice (some ad) d.late.length cl] 25)).alloc (.cells #[.slice none 0 0, .slice none 0 0] 25)).alloc (.cells #[] 68)).cell? (ad.add j) = some u := by
   intro j u hj
   have h2 := hcells ad rfl j u hj
   rw [← h2]
   exact Below.cell (gW.trans (grow_alloc _ _)) (cell_lt h2)
  clear hcells hnone
  go_enter Try.func65, Try.ntmps65
  go_wp2_with (first
   | (at_builtin; refine wpList_append_own _ rfl (.tmp 22) (.tmp 24) 23 rfl (w.heap.size + 1 + 1) 68 i0 (.agg #[.int .i64 0, .slice none 0 0]) 2 32 Try.underlying23 hif hz0 hz1 hz2 rfl (by decide) (.slice (some ⟨w.heap.size + 1 + 1, 0, none⟩) 0 0) 0 [] rfl ho ad d.late.length cl (flat d.late us) rfl (flat_length _ _ hul) hc1 hone (by unfold maxLen; omega) (by omega) (by simp) ?_; intro v2 w2 hown2 hgrow2 _; simp only [Nat.zero_add, List.nil_append] at hown2; clear hc1; have hsl := own_slice2 hown2; obtain ⟨a2, c2, hv2⟩ := hsl; subst hv2)
   | (at_builtin; refine wpList_append_own _ rfl (.tmp 25) (.tmp 29) 23 rfl (w.heap.size + 1 + 1) 68 i0 (.agg #[.int .i64 0, .slice none 0 0]) 2 32 Try.underlying23 hif hz0 hz1 hz2 rfl (by decide) (.slice a2 d.late.length c2) d.late.length (flat d.late us) rfl (hown2.alloc _) ⟨w2.heap.size, 0, none⟩ 1 1 [.int .i64 a, .slice av l.length cv] rfl rfl (fun j u hj => news_two w2 _ _ _ j u hj) (by intro u hu; simp at hu; rcases hu with rfl | rfl <;> rfl) (by unfold maxLen; omega) (by omega) (by have := hgrow2.size; simp at this ⊢; omega) ?_; intro v3 w3 hown3 hgrow3 _; have hsl := own_slice2 hown3; obtain ⟨a3, c3, hv3⟩ := hsl; subst hv3; have gB := put_grow (by simp) hgrow2 hgrow3 rfl hown2; have hbx := (gB.block _ (heap_lt hx)).trans hx; have hby := (gB.block _ (heap_lt hy)).trans hy; have x0 := box_cell hbx 0 _ rfl; have x1 := box_cell hbx 1 _ rfl; have y0 := box_cell hby 0 _ rfl; have y1 := box_cell hby 1 _ rfl; have f0 := box_frozen hby 0; have f1 := box_frozen hby 1; have e1 := box_frozen hbx 1; have cs := cell_set))
  have hown4 := own_set (own_set (own_set hown3 (a := ⟨w.heap.size, 1, none⟩) (by show w.heap.size < _; omega) (.slice a3 (d.late.length + 1) c3)) (a := ⟨w.heap.size + 1, 0, none⟩) (by show w.heap.size + 1 < _; omega) (.slice ab d.blocks.length cb)) (a := ⟨w.heap.size + 1, 1, none⟩) (by show w.heap.size + 1 < _; omega) (.slice a3 (d.late.length + 1) c3)
  have gE := grow_set (grow_set (grow_set (gW.trans gB) (a := ⟨w.heap.size, 1, none⟩) (by simp) (.slice a3 (d.late.length + 1) c3)) (a := ⟨w.heap.size + 1, 0, none⟩) (by simp) (.slice ab d.blocks.length cb)) (a := ⟨w.heap.size + 1, 1, none⟩) (by simp) (.slice a3 (d.late.length + 1) c3)
  refine bodyPost_ret (v := .tuple #[.agg #[.slice ab d.blocks.length cb, .slice a3 (d.late.length + 1) c3], .int .i64 0]) (by simp [results, Try.results65, go_sem, y0, y1, cs]) rfl ⟨_, rfl, (put_late hul hown4 (fun i hi => ?_) (hv.grow gE)).mono (upon_le (by omega)), gE⟩
  obtain ⟨u, hu1, hu2⟩ := hus i hi
  exact ⟨u, hu1, hu2.grow gE⟩
 | none =>
  obtain ⟨hz, rfl⟩ := hnone rfl
  have hle := List.eq_nil_of_length_eq_zero hz
  have hue : us = [] := List.eq_nil_of_length_eq_zero (by omega)
  subst hue
  have HLE : Hid (d.late = []) := hle
  rw [hz] at hx hy gW ho ⊢
  clear hcells hnone hone
  go_enter Try.func65, Try.ntmps65
  go_wp2_with (first
   | (at_builtin; refine wpList_append_own_none rfl (.tmp 22) (.tmp 24) 23 rfl (w.heap.size + 1 + 1) 68 i0 2 Try.underlying23 hif (.slice (some ⟨w.heap.size + 1 + 1, 0, none⟩) 0 0) 0 [] rfl ho rfl ?_)
   | (at_builtin; refine wpList_append_own _ rfl (.tmp 25) (.tmp 29) 23 rfl (w.heap.size + 1 + 1) 68 i0 (.agg #[.int .i64 0, .slice none 0 0]) 2 32 Try.underlying23 hif hz0 hz1 hz2 rfl (by decide) (.slice (some ⟨w.heap.size + 1 + 1, 0, none⟩) 0 0) 0 [] rfl (ho.alloc _) ⟨w.heap.size + 1 + 1 + 1, 0, none⟩ 1 1 [.int .i64 a, .slice av l.length cv] rfl rfl (fun j u hj => by have := news_two (((w.alloc (.cells #[.slice ab d.blocks.length cb, .slice none 0 0] 25)).alloc (.cells #[.slice none 0 0, .slice none 0 0] 25)).alloc (.cells #[] 68)) (.int .i64 a) (.slice av l.length cv) 68 j u hj; simpa using this) (by intro u hu; simp at hu; rcases hu with rfl | rfl <;> rfl) (by unfold maxLen; omega) (by omega) (by simp) ?_; intro v3 w3 hown3 hgrow3 _; have hsl := own_slice2 hown3; obtain ⟨a3, c3, hv3⟩ := hsl; subst hv3; have gB := put_grow2 (by simp) hgrow3 rfl; have hbx := (gB.block _ (heap_lt hx)).trans hx; have hby := (gB.block _ (heap_lt hy)).trans hy; have x0 := box_cell hbx 0 _ rfl; have x1 := box_cell hbx 1 _ rfl; have y0 := box_cell hby 0 _ rfl; have y1 := box_cell hby 1 _ rfl; have f0 := box_frozen hby 0; have f1 := box_frozen hby 1; have e1 := box_frozen hbx 1; have cs := cell_set))
  have hown4 := own_set (own_set (own_set hown3 (a := ⟨w.heap.size, 1, none⟩) (by show w.heap.size < _; omega) (.slice a3 1 c3)) (a := ⟨w.heap.size + 1, 0, none⟩) (by show w.heap.size + 1 < _; omega) (.slice ab d.blocks.length cb)) (a := ⟨w.heap.size + 1, 1, none⟩) (by show w.heap.size + 1 < _; omega) (.slice a3 1 c3)
  have gE := grow_set (grow_set (grow_set (gW.trans gB) (a := ⟨w.heap.size, 1, none⟩) (by simp) (.slice a3 1 c3)) (a := ⟨w.heap.size + 1, 0, none⟩) (by simp) (.slice ab d.blocks.length cb)) (a := ⟨w.heap.size + 1, 1, none⟩) (by simp) (.slice a3 1 c3)
  refine bodyPost_ret (v := .tuple #[.agg #[.slice ab d.blocks.length cb, .slice a3 1 c3], .int .i64 0]) (by simp [results, Try.results65, go_sem, y0, y1, cs]) rfl ⟨_, rfl, ?_, gE⟩
  rw [HLE.out]
  exact (put_late (S := S) (ws := []) (us := []) rfl hown4 (fun i hi => by simp at hi) (hv.grow gE)).mono (upon_le (by omega))

theorem putBlock_any (S : Nat → Prop) (d : Dk) (a : Int) (l : List UInt8) (vb vl v : Value) (w : World) (hb : BlocksP w vb d.blocks) (hl : LateS S w vl d.late) (hv : BytesS S w v l) (hm : d.late.length ≤ 1000000) :
  Calls Try.prog 65 #[.agg #[vb, vl], .int .i64 a, v] w fun e w' => ∃ vl', e = .returned (.tuple #[.agg #[vb, vl'], .int .i64 (d.putE a l)]) ∧ LateS (Upon S w.heap.size) w' vl' (d.putD a l).late ∧ Grow w w' := by
 by_cases h : 0 ≤ a ∧ a < (d.blocks.length : Int) ∧ l.length = 16
 ·obtain ⟨h0, h1, h16⟩ := h
  have he : d.putE a l = 0 := by unfold Dk.putE; rw [if_neg (by omega), if_neg (by omega)]
  have hd : d.putD a l = d.put a l := by unfold Dk.putD; rw [if_pos he]
  rw [he, hd]
  exact putBlock_yes S d a l vb vl v w hb hl hv h0 h1 h16 hm
 ·have he : d.putE a l ≠ 0 := by
   unfold Dk.putE
   by_cases ho : a < 0 ∨ (d.blocks.length : Int) ≤ a
   ·rw [if_pos ho]; omega
   ·rw [if_neg ho, if_pos (by omega)]; omega
  have hd : d.putD a l = d := by unfold Dk.putD; rw [if_neg he]
  rw [hd]
  refine (putBlock_no d a l vb vl v w hb hl.p hv.p (by omega)).mono fun e w' ⟨h1, h2⟩ => ⟨vl, h1, (hl.grow h2).mono upon_l, h2⟩
end Go.Proofs.Ytgaecpdokgklpab
