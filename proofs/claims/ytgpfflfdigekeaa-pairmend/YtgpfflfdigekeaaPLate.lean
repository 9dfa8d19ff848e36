/-
  Late writes whose rows are all their own, and what the program's disk.ownWrites makes of writes.
  Condition: the writes lie in memory, at most 1000 of them, of at most 1000 bytes.
-/
import Derived.Test.YtgpfflfdigekeaaPBlocks
import Derived.Test.YtgpfflfdigekeaaRRead
namespace Go.Proofs.Ytgpfflfdigekeaa
set_option maxRecDepth 100000
open Go.RowKit
open Go.Proofs.Ytgpfflfdigekeaa.Plain Go.Proofs.Ytgpfflfdigekeaa.Reg

/-- The slice v is a row of its own, from block B on, of these writes, the bytes us of each a row of its own. -/
structure OwnL (B : Nat) (v : Value) (ws : List Wr) (us : List Value) (w : World) : Prop where
  len : us.length = ws.length
  row : w.ownsRow B 60 2 v ws.length (flat ws us)
  each : ∀ i (hi : i < ws.length), ∃ u, us[i]? = some u ∧ w.ownsRow B 5 1 u ws[i].2.length (ws[i].2.map bv)
def OwnLt (B : Nat) (v : Value) (ws : List Wr) (w : World) : Prop := ∃ us, OwnL B v ws us w
theorem OwnL.grow {B : Nat} {v : Value} {ws : List Wr} {us : List Value} {w w' : World} (h : OwnL B v ws us w) (hg : Grow w w') : OwnL B v ws us w' :=
  ⟨h.len, own_grow h.row hg, fun i hi => (h.each i hi).imp fun _ hu => ⟨hu.1, own_grow hu.2 hg⟩⟩
theorem OwnL.mono {B B' : Nat} {v : Value} {ws : List Wr} {us : List Value} {w : World} (h : OwnL B v ws us w) (hb : B' ≤ B) : OwnL B' v ws us w :=
  ⟨h.len, own_mono h.row hb, fun i hi => (h.each i hi).imp fun _ hu => ⟨hu.1, own_mono hu.2 hb⟩⟩
theorem OwnL.box {B : Nat} {v : Value} {ws : List Wr} {us : List Value} {w w' : World} (h : OwnL B v ws us w) (hs : BoxStep 46 w w') : OwnL B v ws us w' :=
  ⟨h.len, own_box (by decide) hs h.row, fun i hi => (h.each i hi).imp fun _ hu => ⟨hu.1, own_box (by decide) hs hu.2⟩⟩
theorem OwnL.p {B : Nat} {v : Value} {ws : List Wr} {us : List Value} {w : World} (h : OwnL B v ws us w) : LateP w v ws :=
  (late_own (S := Upon (fun _ => False) B) h.row h.len (fun i hi => (h.each i hi).imp fun _ hu => ⟨hu.1, own_s _ hu.2⟩)).p
theorem OwnLt.grow {B : Nat} {v : Value} {ws : List Wr} {w w' : World} (h : OwnLt B v ws w) (hg : Grow w w') : OwnLt B v ws w' := h.imp fun _ x => x.grow hg
theorem OwnLt.mono {B B' : Nat} {v : Value} {ws : List Wr} {w : World} (h : OwnLt B v ws w) (hb : B' ≤ B) : OwnLt B' v ws w := h.imp fun _ x => x.mono hb
theorem OwnLt.box {B : Nat} {v : Value} {ws : List Wr} {w w' : World} (h : OwnLt B v ws w) (hs : BoxStep 46 w w') : OwnLt B v ws w' := h.imp fun _ x => x.box hs
theorem OwnLt.p {B : Nat} {v : Value} {ws : List Wr} {w : World} (h : OwnLt B v ws w) : LateP w v ws := h.elim fun _ x => x.p
theorem OwnLt.form {B : Nat} {v : Value} {ws : List Wr} {w : World} (h : OwnLt B v ws w) : ∃ ao cap, v = .slice ao ws.length cap := h.p.form
theorem OwnLt.nil (B : Nat) (w : World) : OwnLt B (.slice none 0 0) [] w := ⟨[], rfl, World.ownsRow_nil _ _ _ _, fun i hi => by simp at hi⟩

/-- One write more. -/
theorem OwnL.snoc {B : Nat} {v u : Value} {ws : List Wr} {us : List Value} {w : World} {x : Wr} (hl : us.length = ws.length) (hr : w.ownsRow B 60 2 v (ws.length + 1) (flat ws us ++ [.int .i64 x.1, u]))
    (he : ∀ i (hi : i < ws.length), ∃ u, us[i]? = some u ∧ w.ownsRow B 5 1 u ws[i].2.length (ws[i].2.map bv)) (hu : w.ownsRow B 5 1 u x.2.length (x.2.map bv)) : OwnL B v (ws ++ [x]) (us ++ [u]) w := by
  refine ⟨by simp [hl], ?_, fun i hi => ?_⟩
  · rw [flat_app ws us x u hl]; simpa using hr
  · by_cases hi2 : i < ws.length
    · obtain ⟨y, h1, h2⟩ := he i hi2
      refine ⟨y, by rw [List.getElem?_append_left (by omega)]; exact h1, ?_⟩
      rw [List.getElem_append_left hi2]; exact h2
    · have e : i = ws.length := by simp at hi; omega
      subst e
      exact ⟨u, by rw [← hl]; simp, by simpa using hu⟩

theorem makeWrites (w : World) (n : Nat) (hn : n ≤ 10000) : ∃ c, c.size = n * 2 ∧ (Instr.makeSlice 44 (.int .i64 0) (.int .i64 (n : Int))).run Try.prog w = .ok (.slice (some ⟨w.heap.size, 0, none⟩) 0 n) (w.alloc (.cells c 60)) := by
  obtain ⟨i0, hif, hz0, hz1, hz2⟩ := info_parts info_write
  have h := run_make (P := Try.prog) w 44 60 i0 (.agg #[.int .i64 0, .slice none 0 0]) Try.underlying44 hif hz0 .i64 .i64 0 n (by omega) (by omega) (by rw [hz2]; omega) (by omega)
  rw [h, hz1]
  exact ⟨_, size_madeCells _ _, by rw [Int.toNat_natCast]; rfl⟩

/-- The row in block g grew, or nothing was done. -/
def RowStep (g : Nat) (w w' : World) : Prop := w' = w ∨ w.grownBy w' (some g)
theorem own_past {w w' : World} {base g : Nat} {e : TypeId} {size : Nat} {v : Value} {n : Nat} {xs : List Value} (hs : RowStep g w w') (hg : g < base) (h : w.ownsRow base e size v n xs) : w'.ownsRow base e size v n xs := by
  rcases hs with rfl | hs
  · exact h
  · refine ⟨h.1, or_map h.2 (fun x => x) fun ⟨q, cap, cur, h1, h2, h3, r⟩ => ⟨q, cap, cur, h1, h2, ?_, r⟩⟩
    rw [hs.block _ (heap_lt h3) (by intro e; cases e; omega)]
    exact h3
theorem own_past2 {w w' : World} {base g : Nat} {e T : TypeId} {c f} {size : Nat} {v : Value} {n : Nat} {xs : List Value} (hs : w.grownBy w' (some g)) (hg : w.heap[g]? = some (.cells c T f)) (hT : e ≠ T) (h : w.ownsRow base e size v n xs) : w'.ownsRow base e size v n xs := by
  refine ⟨h.1, or_map h.2 (fun x => x) fun ⟨q, cap, cur, h1, h2, h3, r⟩ => ⟨q, cap, cur, h1, h2, ?_, r⟩⟩
  rw [hs.block _ (heap_lt h3) (by intro e; cases e; rw [hg] at h3; cases h3; exact hT rfl)]
  exact h3

/-- What holds while a write is appended. -/
def LateJ (w : World) (g bx : Nat) (c : Array Value) (v : Value) (ws : List Wr) (us : List Value) (dn : Nat → Bool) (w' : World) : Prop :=
  Grow w w' ∧ w'.heap[bx]? = some (.cells c 60 (0, 0)) ∧ (dn 8 = false → w'.ownsRow g 60 2 v ws.length (flat ws us)) ∧
    (∀ i (hi : i < ws.length), ∃ u, us[i]? = some u ∧ w'.ownsRow g 5 1 u ws[i].2.length (ws[i].2.map bv))
theorem LateJ.grow {w : World} {g bx : Nat} {c : Array Value} {v : Value} {ws : List Wr} {us : List Value} {dn : Nat → Bool} {w' w'' : World} (h : LateJ w g bx c v ws us dn w') (hg : Grow w' w'') : LateJ w g bx c v ws us dn w'' :=
  ⟨h.1.trans hg, (hg.block _ (heap_lt h.2.1)).trans h.2.1, fun h8 => own_grow (h.2.2.1 h8) hg, fun i hi => (h.2.2.2 i hi).imp fun _ hu => ⟨hu.1, own_grow hu.2 hg⟩⟩
def WrP (g : Nat) (x : Wr) (v : Value) (w : World) : Prop := ∃ u, v = .agg #[.int .i64 x.1, u] ∧ w.ownsRow (g + 1) 5 1 u x.2.length (x.2.map bv)
def OneW (g : Nat) (x : Wr) (v : Value) (w : World) : Prop := ∃ b0 u, v = .slice (some ⟨b0, 0, none⟩) 1 1 ∧ g < b0 ∧ w.heap[b0]? = some (.cells #[.int .i64 x.1, u] 60 (0, 0)) ∧ w.ownsRow (g + 1) 5 1 u x.2.length (x.2.map bv)
def AppW (g cap : Nat) (ws : List Wr) (us : List Value) (x : Wr) (v : Value) (w : World) : Prop := v = .slice (some ⟨g, 0, none⟩) (ws.length + 1) cap ∧ ∃ u, w.ownsRow g 60 2 v (ws.length + 1) (flat ws us ++ [.int .i64 x.1, u]) ∧ w.ownsRow (g + 1) 5 1 u x.2.length (x.2.map bv)
theorem st_wrp (g : Nat) (x : Wr) : Stable (WrP g x) := by
  rintro v w w' hg ⟨u, h1, h2⟩; exact ⟨u, h1, own_grow h2 hg⟩
theorem sp_wrp {g : Nat} {x : Wr} {v : Value} {w w' : World} (hs : RowStep g w w') (h : WrP g x v w) : WrP g x v w' := by
  obtain ⟨u, h1, h2⟩ := h; exact ⟨u, h1, own_past hs (by omega) h2⟩
theorem st_onew (g : Nat) (x : Wr) : Stable (OneW g x) := by
  rintro v w w' hg ⟨b0, u, h1, h2, h3, h4⟩; exact ⟨b0, u, h1, h2, (hg.block _ (heap_lt h3)).trans h3, own_grow h4 hg⟩
theorem sp_onew {g : Nat} {x : Wr} {v : Value} {w w' : World} (hs : RowStep g w w') (h : OneW g x v w) : OneW g x v w' := by
  obtain ⟨b0, u, h1, h2, h3, h4⟩ := h
  refine ⟨b0, u, h1, h2, ?_, own_past hs (by omega) h4⟩
  rcases hs with rfl | hs
  · exact h3
  · exact (hs.block _ (heap_lt h3) (by intro e; cases e; omega)).trans h3
theorem st_appw (g cap : Nat) (ws : List Wr) (us : List Value) (x : Wr) : Stable (AppW g cap ws us x) := by
  rintro v w w' hg ⟨h1, u, h2, h3⟩; exact ⟨h1, u, own_grow h2 hg, own_grow h3 hg⟩
theorem st_ownb (B : Nat) (l : List UInt8) : Stable (fun v w => w.ownsRow B 5 1 v l.length (l.map bv)) := fun _ _ _ hg h => own_grow h hg

/-- 'append' of one write that fits. -/
theorem app_write (w : World) (g cap b0 : Nat) (ws : List Wr) (us : List Value) (x : Wr) (u : Value) (ty : TypeId) (hown : w.ownsRow g 60 2 (.slice (some ⟨g, 0, none⟩) ws.length cap) ws.length (flat ws us)) (hx : w.heap[b0]? = some (.cells #[.int .i64 x.1, u] 60 (0, 0))) (hu : u.oneCell' = true) (hm : ws.length < cap) :
    ∃ w', (Builtin.append_ #[44, 44] ty #[.slice (some ⟨g, 0, none⟩) ws.length cap, .slice (some ⟨b0, 0, none⟩) 1 1]).run Try.prog w = .ok (.slice (some ⟨g, 0, none⟩) (ws.length + 1) cap) w' ∧ w'.ownsRow g 60 2 (.slice (some ⟨g, 0, none⟩) (ws.length + 1) cap) (ws.length + 1) (flat ws us ++ [.int .i64 x.1, u]) ∧ w.grownBy w' (some g) := by
  obtain ⟨i0, hif, hz0, hz1, hz2⟩ := info_parts info_write
  exact run_append_fits (P := Try.prog) w g 44 ty 60 i0 2 Try.underlying44 hif hz1 g ws.length cap (flat ws us) hown ⟨b0, 0, none⟩ 1 1 [.int .i64 x.1, u] rfl
    (fun j z hj => by
      match j, hj with
      | 0, hj => simp at hj; subst hj; simp [Addr.add, World.cell?, hx]
      | 1, hj => simp at hj; subst hj; simp [Addr.add, World.cell?, hx]
      | j + 2, hj => simp at hj) (by intro z hz; simp at hz; rcases hz with rfl | rfl; · rfl
                                     · exact hu) (by omega)

set_option maxHeartbeats 4000000 in
theorem ownWrites_any (ws : List Wr) (m : Nat) (mi : Int) (hmi : mi = (m : Int)) (v : Value) (w : World) (hl : LateP w v ws) (hlen : ws.length ≤ 1000) (hm : m ≤ 10) (h16 : ∀ x ∈ ws, x.2.length ≤ 1000) :
    Calls Try.prog 66 #[v, .int .i64 mi] w fun e w' => ∃ v', e = .returned v' ∧ OwnLt w.heap.size v' ws w' ∧ Grow w w' := by
  subst hmi
  obtain ⟨al, cl, rfl⟩ := hl.form
  obtain ⟨c0, hc0, mk0⟩ := makeWrites w (ws.length + m) (by omega)
  have mk : (Instr.makeSlice 44 (.int .i64 0) (.int .i64 ((ws.length : Int) + (m : Int)))).run Try.prog w = .ok (.slice (some ⟨w.heap.size, 0, none⟩) 0 (ws.length + m)) (w.alloc (.cells c0 60)) := mk0
  have hstart : (w.alloc (.cells c0 60)).ownsRow w.heap.size 60 2 (.slice (some ⟨w.heap.size, 0, none⟩) 0 (ws.length + m)) 0 [] := World.ownsRow_made w c0 (ws.length + m) (Nat.le_refl _) (by unfold maxLen; omega) hc0
  have hg0 := grow_alloc w (.cells c0 60)
  clear mk0
  go_enter Try.func66, Try.ntmps66
  go_wp2_with fail
  clear mk hc0
  generalize World.alloc w _ = W at *
  go_loopw [5, 15] (fun o i wr => ∃ k : Nat, k ≤ ws.length ∧ o = .slice (some ⟨w.heap.size, 0, none⟩) k (ws.length + m) ∧ i = .int .i64 k ∧ Grow w wr ∧ ∃ us, OwnL w.heap.size (.slice (some ⟨w.heap.size, 0, none⟩) k (ws.length + m)) (ws.take k) us wr) (fun _ i _ => ws.length - (intOf i).toNat)
  case atStart => exact ⟨0, Nat.zero_le _, rfl, rfl, hg0, [], ⟨rfl, by simpa [flat] using hstart, fun i hi => by simp at hi⟩⟩
  case round =>
    clear hstart hg0
    obtain ⟨k, hk, rfl, rfl, hg, us, hL⟩ := hrel
    by_cases hlt : k < ws.length
    · obtain ⟨b, off, hvl, hq0, u, hq1, hu⟩ := (hl.grow hg).at k hlt
      cases hvl
      have hx16 := h16 ws[k] (List.getElem_mem _)
      have HT : Hid (ws.take (k + 1) = ws.take k ++ [ws[k]]) := List.take_succ_eq_append_getElem hlt
      have hpl : (ws.take k).length = k := by simp; omega
      generalize ws.take k = pre at *
      generalize ws[k] = x at *
      subst hpl
      obtain ⟨au, cu, rfl, -, -⟩ := bytes_src hu
      have g1 := grow_alloc wr (.cells #[.int .i64 x.1, .slice au x.2.length cu] 60)
      have hz := heap_new wr #[.int .i64 x.1, .slice au x.2.length cu] 60
      have hL1 := hL.grow g1
      have hlt0 := (hL.row.lt _ rfl).2
      have hu1 : ∀ w', Grow wr w' → Bytes w' (.slice au x.2.length cu) x.2 := fun w' h => bytes_grow hu h
      have hgs := hg.trans g1
      clear hL hu
      go_wp2_with fail
      refine wp_region_v [pl (ex (.slice (some ⟨w.heap.size, 0, none⟩) pre.length (ws.length + m))), pl (ex (.pointer (some ⟨wr.heap.size, 0, none⟩))), pl (ex (.int .i64 x.1)), pl (ex (.pointer (some ⟨wr.heap.size, 1, none⟩))), pl (ex (.slice au x.2.length cu)), pl ((fun v w' => w'.ownsRow (w.heap.size + 1) 5 1 v x.2.length (x.2.map bv))), pl (WrP w.heap.size x), pl (OneW w.heap.size x), pl (AppW w.heap.size (ws.length + m) pre us x), pl (AppW w.heap.size (ws.length + m) pre us x)] [none, none, none, none, none, none, none, none, some ((RowStep w.heap.size))] (fun dn w' => (dn 8 = false → Grow wr w') ∧ LateJ w w.heap.size wr.heap.size #[.int .i64 x.1, .slice au x.2.length cu] (.slice (some ⟨w.heap.size, 0, none⟩) pre.length (ws.length + m)) pre us dn w') (by kernel_rfl) (by kernel_rfl) ⟨st_pl (st_ex _), st_pl (st_ex _), st_pl (st_ex _), st_pl (st_ex _), st_pl (st_ex _), st_pl (st_ownb _ _), st_pl (st_wrp _ _), st_pl (st_onew _ _), st_pl (st_appw _ _ _ _ _), st_pl (st_appw _ _ _ _ _), trivial⟩ ⟨⟨(fun w => .inl rfl), ⟨.inr (fun _ _ _ _ _ h => h), .inr (fun _ _ _ _ _ h => h), .inr (fun _ _ _ _ _ h => h), .inr (fun _ _ _ _ _ h => h), .inr (fun _ _ _ _ _ h => h), .inr ((fun v _ w1 w' hs hq => own_past hs (by omega) hq)), .inr ((fun v _ w1 w' hs hq => sp_wrp hs hq)), .inr ((fun v _ w1 w' hs hq => sp_onew hs hq)), .inl (by kernel_rfl), .inl (by kernel_rfl), trivial⟩⟩, trivial⟩ ⟨(fun h => by cases h), (fun h => by cases h), (fun h => by cases h), (fun h => by cases h), (fun h => by cases h), (fun h => by cases h), (fun h => by cases h), (fun h => by cases h), (fun h => by cases h), (fun h => by cases h), trivial⟩ ⟨fun _ => g1.drew, hgs.drew, hz, fun _ => hL1.row, hL1.each⟩ ?_ ?_
      · refine ⟨?_, ?_, ?_, ?_, ?_, ?_, ?_, ?_, ?_, ?_, trivial⟩
        · refine needv_plain rfl (fun a w' dn hr hg hin => ?_)
          have e : a.eval (.tmp 5) = .slice (some ⟨w.heap.size, 0, none⟩) pre.length (ws.length + m) := insw_ext hin 5 (by kernel_rfl)
          exact uponw_move rfl hg e
        · refine needv_plain rfl (fun a w' dn hr hg hin => ?_)
          have e7 : a.eval (.tmp 7) = .pointer (some ⟨wr.heap.size, 0, none⟩) := insw_ext hin 7 (by kernel_rfl)
          refine uponw_val ?_ hg rfl
          clear hin hg
          have ek : ∀ x, a.eval (.const x) = x := fun _ => rfl
          have ef : ∀ f, a.eval (.func f) = .func (.func f) #[] #[] := fun _ => rfl
          generalize a.eval = ev at *
          go_simp
          all_goals first | done | omega | (intro _; omega) | go_arith
        · refine needv_plain rfl (fun a w' dn hr hg hin => ?_)
          have e20 : a.eval (.tmp 20) = .pointer (some ⟨wr.heap.size, 0, none⟩) := insw_on hin 1 (by kernel_rfl)
          have z0 := box_cell hg.2.2.1 0 _ rfl
          refine uponw_val ?_ hg rfl
          clear hin hg hr
          have ek : ∀ x, a.eval (.const x) = x := fun _ => rfl
          have ef : ∀ f, a.eval (.func f) = .func (.func f) #[] #[] := fun _ => rfl
          generalize a.eval = ev at *
          go_simp
          all_goals first | done | omega | (intro _; omega) | go_arith
        · refine needv_plain rfl (fun a w' dn hr hg hin => ?_)
          have e7 : a.eval (.tmp 7) = .pointer (some ⟨wr.heap.size, 0, none⟩) := insw_ext hin 7 (by kernel_rfl)
          refine uponw_val ?_ hg rfl
          clear hin hg
          have ek : ∀ x, a.eval (.const x) = x := fun _ => rfl
          have ef : ∀ f, a.eval (.func f) = .func (.func f) #[] #[] := fun _ => rfl
          generalize a.eval = ev at *
          go_simp
          all_goals first | done | omega | (intro _; omega) | go_arith
        · refine needv_plain rfl (fun a w' dn hr hg hin => ?_)
          have e22 : a.eval (.tmp 22) = .pointer (some ⟨wr.heap.size, 1, none⟩) := insw_on hin 3 (by kernel_rfl)
          have z1 := box_cell hg.2.2.1 1 _ rfl
          refine uponw_val ?_ hg rfl
          clear hin hg hr
          have ek : ∀ x, a.eval (.const x) = x := fun _ => rfl
          have ef : ∀ f, a.eval (.func f) = .func (.func f) #[] #[] := fun _ => rfl
          generalize a.eval = ev at *
          go_simp
          all_goals first | done | omega | (intro _; omega) | go_arith
        · refine needv_plain rfl (fun a w' dn hr hg hin => ?_)
          have e23 : a.eval (.tmp 23) = .slice au x.2.length cu := insw_on hin 4 (by kernel_rfl)
          have n8 := hr.not1 8 (by kernel_rfl)
          refine uponw_call (f := 60) (args := #[.slice au x.2.length cu]) ?_ ((clone_any x.2 _ w' (by omega) (hu1 w' (hg.1 n8))).mono ?_)
          · clear hin hg hr
            have ek : ∀ x, a.eval (.const x) = x := fun _ => rfl
            have ef : ∀ f, a.eval (.func f) = .func (.func f) #[] #[] := fun _ => rfl
            generalize a.eval = ev at *
            go_simp
            all_goals first | done | omega | (intro _; omega) | go_arith
          · rintro e w2 ⟨v', rfl, ho, g2⟩
            exact ⟨_, rfl, g2, ⟨fun h => (hg.1 n8).trans g2, hg.2.grow g2⟩, own_mono ho (by have := heap_lt hg.2.2.1; omega)⟩
        · refine needv_plain rfl (fun a w' dn hr hg hin => ?_)
          have e21 : a.eval (.tmp 21) = .int .i64 x.1 := insw_on hin 2 (by kernel_rfl)
          have e24 : ((fun v w' => w'.ownsRow (w.heap.size + 1) 5 1 v x.2.length (x.2.map bv))) (a.eval (.tmp 24)) w' := insw_on hin 5 (by kernel_rfl)
          obtain ⟨a4, c4, h24⟩ := own_slice e24
          refine uponw_val (v := .agg #[.int .i64 x.1, .slice a4 x.2.length c4]) ?_ hg ⟨_, rfl, by rw [← h24]; exact e24⟩
          clear hin hg hr e24
          have ek : ∀ x, a.eval (.const x) = x := fun _ => rfl
          have ef : ∀ f, a.eval (.func f) = .func (.func f) #[] #[] := fun _ => rfl
          generalize a.eval = ev at *
          go_simp
          all_goals first | done | omega | (intro _; omega) | go_arith
        · refine needv_plain rfl (fun a w' dn hr hg hin => ?_)
          have e25 : (WrP w.heap.size x) (a.eval (.tmp 25)) w' := insw_on hin 6 (by kernel_rfl)
          obtain ⟨u4, h25, ho4⟩ := e25
          obtain ⟨a4, c4, rfl⟩ := own_slice ho4
          refine uponw_step (v := .slice (some ⟨w'.heap.size, 0, none⟩) 1 1) (w' := w'.alloc (.cells #[.int .i64 x.1, .slice a4 x.2.length c4] 60)) ?_ (grow_alloc _ _) ⟨fun h => (hg.1 (hr.not1 8 (by kernel_rfl))).trans (grow_alloc _ _), hg.2.grow (grow_alloc _ _)⟩ ⟨_, _, rfl, by have := heap_lt hg.2.2.1; omega, heap_new _ _ _, own_grow ho4 (grow_alloc _ _)⟩
          clear hin hg hr ho4
          have ek : ∀ x, a.eval (.const x) = x := fun _ => rfl
          have ef : ∀ f, a.eval (.func f) = .func (.func f) #[] #[] := fun _ => rfl
          generalize a.eval = ev at *
          go_simp
          all_goals first | done | omega | (intro _; omega) | go_arith
        · refine needv_plain rfl (fun a w' dn hr hg hin => ?_)
          have e19 : a.eval (.tmp 19) = .slice (some ⟨w.heap.size, 0, none⟩) pre.length (ws.length + m) := insw_on hin 0 (by kernel_rfl)
          have e26 : (OneW w.heap.size x) (a.eval (.tmp 26)) w' := insw_on hin 7 (by kernel_rfl)
          obtain ⟨b0, u4, h26, hb0, hh0, ho4⟩ := e26
          have hrow := hg.2.2.2.1 hr.un
          obtain ⟨cur, hcur⟩ := own_block hrow
          obtain ⟨w2, hrun, ho2, hg2⟩ := app_write w' w.heap.size (ws.length + m) b0 pre us x u4 44 hrow hh0 (by obtain ⟨a4, c4, rfl⟩ := own_slice ho4; rfl) (by omega)
          refine uponw_step (v := _) (w' := w2) ?_ (.inr hg2) ⟨fun h => by simp [upd] at h, grow_of_grown hg.2.1 hg2 (fun k hk => by cases hk; omega), ?_, fun h => by simp [upd] at h, fun i hi => (hg.2.2.2.2 i hi).imp fun _ hu => ⟨hu.1, own_past2 hg2 hcur (by decide) hu.2⟩⟩ ⟨rfl, u4, ho2, own_past (.inr hg2) (by omega) ho4⟩
          · exact exec_append (.tmp 19) (.tmp 26) 44 rfl _ _ e19 h26 hrun
          · exact (hg2.block _ (heap_lt hg.2.2.1) (by intro e; simp only [Option.some.injEq] at e; omega)).trans hg.2.2.1
        · refine needv_plain rfl (fun a w' dn hr hg hin => ?_)
          have e : (AppW w.heap.size (ws.length + m) pre us x) (a.eval (.tmp 27)) w' := insw_on hin 8 (by kernel_rfl)
          exact uponw_assign rfl hg e
      · intro vs w' dn hdn hg ht
        obtain ⟨q19, q20, q21, q22, q23, q24, q25, q26, q27, q5, -⟩ := ht
        have r19 : vs 0 = .slice (some ⟨w.heap.size, 0, none⟩) pre.length (ws.length + m) := q19
        have r20 : vs 1 = .pointer (some ⟨wr.heap.size, 0, none⟩) := q20
        have r21 : vs 2 = .int .i64 x.1 := q21
        have r22 : vs 3 = .pointer (some ⟨wr.heap.size, 1, none⟩) := q22
        have r23 : vs 4 = .slice au x.2.length cu := q23
        replace q24 : ((fun v w' => w'.ownsRow (w.heap.size + 1) 5 1 v x.2.length (x.2.map bv))) (vs 5) w' := q24
        replace q25 : (WrP w.heap.size x) (vs 6) w' := q25
        replace q26 : (OneW w.heap.size x) (vs 7) w' := q26
        replace q27 : (AppW w.heap.size (ws.length + m) pre us x) (vs 8) w' := q27
        replace q5 : (AppW w.heap.size (ws.length + m) pre us x) (vs 9) w' := q5
        clear q19 q20 q21 q22 q23
        simp only [putAll, Act.put, List.setIfInBounds_toArray, List.set_cons_zero, List.set_cons_succ, Nat.reduceAdd, r19, r20, r21, r22, r23]
        clear r19 r20 r21 r22 r23
        obtain ⟨h5, u5, ho5, hu5⟩ := q5
        have hL2 := OwnL.snoc hL1.len ho5 hg.2.2.2.2 (own_mono hu5 (by omega))
        rw [h5] at hL2 ⊢
        rw [← HT.out] at hL2
        have gw2 := hg.2.1
        clear q24 q25 q26 q27 h5 ho5 hu5 hg hdn hL1
        generalize vs 5 = u5
        generalize vs 6 = u6
        generalize vs 7 = u7
        generalize vs 8 = u8
        go_wp2
        go_roundw
        case rel => exact ⟨pre.length + 1, by omega, rfl, by go_num, gw2, _, hL2⟩
        case measure => simp [intOf]; omega
    · have hk' : k = ws.length := by omega
      subst hk'
      rw [List.take_length] at hL
      go_wp2_with fail
      go_ret
      exact ⟨_, rfl, ⟨us, hL⟩, hg⟩
end Go.Proofs.Ytgpfflfdigekeaa
