/-
  What the program's disk.land and disk.Flush make of a disk.
  Condition: the disk lies in memory, of some blocks, at most 256, and at most 1000 writes, of places that there are, of at most 1000 bytes.
-/
import Derived.Test.YtgpfflfdigekeaaPPut
namespace Go.Proofs.Ytgpfflfdigekeaa
set_option maxRecDepth 100000
open Go.RowKit
open Go.Proofs.Ytgpfflfdigekeaa.Plain Go.Proofs.Ytgpfflfdigekeaa.Reg

/-- What holds while a write lands in the row q. -/
def LandJ (w : World) (q B n cap : Nat) (us : List Value) (c1 c2 : Array Value) (dn : Nat → Bool) (w' : World) : Prop :=
  GrowBut q w w' ∧ w'.heap[w.heap.size]? = some (.cells c1 46 (0, 0)) ∧ w'.heap[w.heap.size + 1]? = some (.cells c2 60 (0, 0)) ∧ (dn 8 = false → Grow w w' ∧ w'.ownsRow B 22 1 (.slice (some ⟨q, 0, none⟩) n cap) n us)
theorem LandJ.grow {w : World} {q B n cap : Nat} {us : List Value} {c1 c2 : Array Value} {dn : Nat → Bool} {w' w'' : World} (h : LandJ w q B n cap us c1 c2 dn w') (hg : Grow w' w'') : LandJ w q B n cap us c1 c2 dn w'' :=
  ⟨h.1.trans (GrowBut.of hg), (hg.block _ (heap_lt h.2.1)).trans h.2.1, (hg.block _ (heap_lt h.2.2.1)).trans h.2.2.1, fun hd => ⟨(h.2.2.2 hd).1.trans hg, own_grow (h.2.2.2 hd).2 hg⟩⟩
def LandQ (q B n cap m base : Nat) (us : List Value) (l : List UInt8) (v : Value) (w : World) : Prop :=
  w.ownsRow B 22 1 (.slice (some ⟨q, 0, none⟩) n cap) n (us.set m v) ∧ w.ownsRow base 5 1 v l.length (l.map bv)
theorem st_landq (q B n cap m base : Nat) (us : List Value) (l : List UInt8) (i : Nat) : StableW (pl1 i (fun _ v w => LandQ q B n cap m base us l v w)) := by
  rintro v ds w w' hg ⟨h1, h2⟩; exact ⟨own_grow h1 hg, own_grow h2 hg⟩
theorem own_other {w w' : World} {base q : Nat} {e : TypeId} {size : Nat} {v : Value} {n : Nat} {xs : List Value} (hg : GrowBut q w w') (hq : q < base) (h : w.ownsRow base e size v n xs) : w'.ownsRow base e size v n xs := by
  refine ⟨h.1, or_map h.2 (fun x => x) fun ⟨g, cap, cur, h1, h2, h3, r⟩ => ⟨g, cap, cur, h1, h2, ?_, r⟩⟩
  rw [hg.block _ (heap_lt h3) (by omega)]; exact h3
theorem own_other2 {w w' : World} {base q : Nat} {e T : TypeId} {c f} {size : Nat} {v : Value} {n : Nat} {xs : List Value} (hg : GrowBut q w w') (hq : w.heap[q]? = some (.cells c T f)) (hT : e ≠ T) (h : w.ownsRow base e size v n xs) : w'.ownsRow base e size v n xs := by
  refine ⟨h.1, or_map h.2 (fun x => x) fun ⟨g, cap, cur, h1, h2, h3, r⟩ => ⟨g, cap, cur, h1, h2, ?_, r⟩⟩
  rw [hg.block _ (heap_lt h3) (by rintro rfl; rw [hq] at h3; cases h3; exact hT rfl)]; exact h3

theorem boxDW1 (w : World) (c e : Array Value) : ((w.alloc (.cells c 46)).alloc (.cells e 60)).heap[w.heap.size]? = some (.cells c 46 (0, 0)) :=
  ((grow_alloc (w.alloc (.cells c 46)) _).block _ (by simp)).trans (heap_new _ _ _)
theorem boxDW2 (w : World) (c e : Array Value) : ((w.alloc (.cells c 46)).alloc (.cells e 60)).heap[w.heap.size + 1]? = some (.cells e 60 (0, 0)) := by
  have h := heap_new (w.alloc (.cells c 46)) e 60
  rw [World.size_alloc] at h
  exact h

set_option maxHeartbeats 4000000 in
theorem land_yes (q B n cap m : Nat) (us : List Value) (al : Option Addr) (nl cl : Nat) (a : Int) (l : List UInt8) (u : Value) (w : World) (ha : a = (m : Int)) (hmn : m < n) (hrow : w.ownsRow B 22 1 (.slice (some ⟨q, 0, none⟩) n cap) n us) (hu : Bytes w u l) (hl : l.length ≤ 1000) :
    Calls Try.prog 68 #[.agg #[.slice (some ⟨q, 0, none⟩) n cap, .slice al nl cl], .agg #[.int .i64 a, u]] w fun e w' => e = .returned (.tuple #[]) ∧ ∃ v', GrowBut q w w' ∧ LandQ q B n cap m w.heap.size us l v' w' := by
  subst ha
  obtain ⟨au, cu, rfl, -, -⟩ := bytes_src hu
  have HH : Hid (hasB n (m : Int) = true) := by show hasB _ _ = true; unfold hasB; simp; omega
  have hql := (hrow.lt q rfl).2
  have gW := grow_alloc2 w (.cells #[.slice (some ⟨q, 0, none⟩) n cap, .slice al nl cl] 46) (.cells #[.int .i64 (m : Int), .slice au l.length cu] 60)
  have hx := boxDW1 w #[.slice (some ⟨q, 0, none⟩) n cap, .slice al nl cl] #[.int .i64 (m : Int), .slice au l.length cu]
  have hy := boxDW2 w #[.slice (some ⟨q, 0, none⟩) n cap, .slice al nl cl] #[.int .i64 (m : Int), .slice au l.length cu]
  go_enter Try.func68, Try.ntmps68
  go_wp2_with fail
  refine (has_any n (m : Int) _ _ _ _ _ _).mono ?_
  rw [HH.out]
  rintro e w1 ⟨rfl, g1⟩
  have gW1 := gW.trans g1
  have hxw := (g1.block _ (heap_lt hx)).trans hx
  have hyw := (g1.block _ (heap_lt hy)).trans hy
  have hrw := own_grow hrow gW1
  clear hx hy gW g1
  go_wp2_with fail
  refine wp_region_v [pl (ex (.pointer (some ⟨w.heap.size, 0, none⟩))), pl (ex (.slice (some ⟨q, 0, none⟩) n cap)), pl (ex (.pointer (some ⟨w.heap.size + 1, 0, none⟩))), pl (ex (.int .i64 (m : Int))), pl (ex (.pointer (some ⟨w.heap.size + 1, 1, none⟩))), pl (ex (.slice au l.length cu)), pl ((fun v w' => w'.ownsRow w.heap.size 5 1 v l.length (l.map bv))), pl (ex (.pointer (some ⟨q, m, none⟩))), pl1 6 ((fun _ v w' => LandQ q B n cap m w.heap.size us l v w'))] [none, none, none, none, none, none, none, none, some ((fun w1 w2 => GrowBut q w1 w2))] (LandJ w q B n cap us #[.slice (some ⟨q, 0, none⟩) n cap, .slice al nl cl] #[.int .i64 (m : Int), .slice au l.length cu]) (by kernel_rfl) (by kernel_rfl) ⟨st_pl (st_ex _), st_pl (st_ex _), st_pl (st_ex _), st_pl (st_ex _), st_pl (st_ex _), st_pl (st_ex _), st_pl (st_ownb _ _), st_pl (st_ex _), st_landq _ _ _ _ _ _ _ _ _, trivial⟩ ⟨⟨(fun w1 => GrowBut.refl _ w1), ⟨.inr (fun _ _ _ _ _ h => h), .inr (fun _ _ _ _ _ h => h), .inr (fun _ _ _ _ _ h => h), .inr (fun _ _ _ _ _ h => h), .inr (fun _ _ _ _ _ h => h), .inr (fun _ _ _ _ _ h => h), .inr ((fun v _ w1 w' hs hq => own_other hs hql hq)), .inr (fun _ _ _ _ _ h => h), .inl (by kernel_rfl), trivial⟩⟩, trivial⟩ ⟨(fun h => by cases h), (fun h => by cases h), (fun h => by cases h), (fun h => by cases h), (fun h => by cases h), (fun h => by cases h), (fun h => by cases h), (fun h => by cases h), fun _ _ _ _ h => h, trivial⟩ ⟨GrowBut.of gW1.drew, hxw, hyw, fun _ => ⟨gW1.drew, hrw⟩⟩ ?_ ?_
  · refine ⟨?_, ?_, ?_, ?_, ?_, ?_, ?_, ?_, ?_, trivial⟩
    · refine needv_plain rfl (fun a w' dn hr hg hin => ?_)
      have e2 : a.eval (.tmp 2) = .pointer (some ⟨w.heap.size, 0, none⟩) := insw_ext hin 2 (by kernel_rfl)
      refine uponw_val ?_ hg rfl
      clear hin hg
      have ek : ∀ x, a.eval (.const x) = x := fun _ => rfl
      have ef : ∀ f, a.eval (.func f) = .func (.func f) #[] #[] := fun _ => rfl
      generalize a.eval = ev at *
      go_simp
      all_goals first | done | omega | (intro _; omega) | go_arith
    · refine needv_plain rfl (fun a w' dn hr hg hin => ?_)
      have e8 : a.eval (.tmp 8) = .pointer (some ⟨w.heap.size, 0, none⟩) := insw_on hin 0 (by kernel_rfl)
      have z0 := box_cell hg.2.1 0 _ rfl
      refine uponw_val ?_ hg rfl
      clear hin hg hr
      have ek : ∀ x, a.eval (.const x) = x := fun _ => rfl
      have ef : ∀ f, a.eval (.func f) = .func (.func f) #[] #[] := fun _ => rfl
      generalize a.eval = ev at *
      go_simp
      all_goals first | done | omega | (intro _; omega) | go_arith
    · refine needv_plain rfl (fun a w' dn hr hg hin => ?_)
      have e3 : a.eval (.tmp 3) = .pointer (some ⟨w.heap.size + 1, 0, none⟩) := insw_ext hin 3 (by kernel_rfl)
      refine uponw_val ?_ hg rfl
      clear hin hg
      have ek : ∀ x, a.eval (.const x) = x := fun _ => rfl
      have ef : ∀ f, a.eval (.func f) = .func (.func f) #[] #[] := fun _ => rfl
      generalize a.eval = ev at *
      go_simp
      all_goals first | done | omega | (intro _; omega) | go_arith
    · refine needv_plain rfl (fun a w' dn hr hg hin => ?_)
      have e10 : a.eval (.tmp 10) = .pointer (some ⟨w.heap.size + 1, 0, none⟩) := insw_on hin 2 (by kernel_rfl)
      have z0 := box_cell hg.2.2.1 0 _ rfl
      refine uponw_val ?_ hg rfl
      clear hin hg hr
      have ek : ∀ x, a.eval (.const x) = x := fun _ => rfl
      have ef : ∀ f, a.eval (.func f) = .func (.func f) #[] #[] := fun _ => rfl
      generalize a.eval = ev at *
      go_simp
      all_goals first | done | omega | (intro _; omega) | go_arith
    · refine needv_plain rfl (fun a w' dn hr hg hin => ?_)
      have e3 : a.eval (.tmp 3) = .pointer (some ⟨w.heap.size + 1, 0, none⟩) := insw_ext hin 3 (by kernel_rfl)
      refine uponw_val ?_ hg rfl
      clear hin hg
      have ek : ∀ x, a.eval (.const x) = x := fun _ => rfl
      have ef : ∀ f, a.eval (.func f) = .func (.func f) #[] #[] := fun _ => rfl
      generalize a.eval = ev at *
      go_simp
      all_goals first | done | omega | (intro _; omega) | go_arith
    · refine needv_plain rfl (fun a w' dn hr hg hin => ?_)
      have e12 : a.eval (.tmp 12) = .pointer (some ⟨w.heap.size + 1, 1, none⟩) := insw_on hin 4 (by kernel_rfl)
      have z1 := box_cell hg.2.2.1 1 _ rfl
      refine uponw_val ?_ hg rfl
      clear hin hg hr
      have ek : ∀ x, a.eval (.const x) = x := fun _ => rfl
      have ef : ∀ f, a.eval (.func f) = .func (.func f) #[] #[] := fun _ => rfl
      generalize a.eval = ev at *
      go_simp
      all_goals first | done | omega | (intro _; omega) | go_arith
    · refine needv_plain rfl (fun a w' dn hr hg hin => ?_)
      have e13 : a.eval (.tmp 13) = .slice au l.length cu := insw_on hin 5 (by kernel_rfl)
      have n8 := hr.not1 8 (by kernel_rfl)
      refine uponw_call (f := 60) (args := #[.slice au l.length cu]) ?_ ((clone_any l _ w' (by omega) (bytes_grow hu (hg.2.2.2 n8).1)).mono ?_)
      · clear hin hg hr
        have ek : ∀ x, a.eval (.const x) = x := fun _ => rfl
        have ef : ∀ f, a.eval (.func f) = .func (.func f) #[] #[] := fun _ => rfl
        generalize a.eval = ev at *
        go_simp
        all_goals first | done | omega | (intro _; omega) | go_arith
      · rintro e w2 ⟨v', rfl, ho, g2⟩
        exact ⟨_, rfl, g2, LandJ.grow hg g2, own_mono ho (hg.2.2.2 n8).1.size⟩
    · refine needv_plain rfl (fun a w' dn hr hg hin => ?_)
      have e9 : a.eval (.tmp 9) = .slice (some ⟨q, 0, none⟩) n cap := insw_on hin 1 (by kernel_rfl)
      have e11 : a.eval (.tmp 11) = .int .i64 (m : Int) := insw_on hin 3 (by kernel_rfl)
      refine uponw_val ?_ hg rfl
      clear hin hg
      have ek : ∀ x, a.eval (.const x) = x := fun _ => rfl
      have ef : ∀ f, a.eval (.func f) = .func (.func f) #[] #[] := fun _ => rfl
      generalize a.eval = ev at *
      go_simp
      all_goals first | done | omega | (intro _; omega) | go_arith
    · refine needv_plain rfl (fun a w' dn hr hg hin => ?_)
      have e15 : a.eval (.tmp 15) = .pointer (some ⟨q, m, none⟩) := insw_on hin 7 (by kernel_rfl)
      have e14 : ((fun v w' => w'.ownsRow w.heap.size 5 1 v l.length (l.map bv))) (a.eval (.tmp 14)) w' := insw_on hin 6 (by kernel_rfl)
      have hro := (hg.2.2.2 hr.un).2
      have hgr := (hg.2.2.2 hr.un).1
      obtain ⟨a4, c4, h14⟩ := own_slice e14
      obtain ⟨cur, hcur⟩ := own_block hro
      have fq := hro.frozenAt m
      have cq := hro.cellAt m (by omega)
      have hul : m < us.length := by have := hro.1; omega
      rw [List.getElem?_eq_getElem hul] at cq
      generalize us[m]'hul = xm at cq
      have hst := (hro.stored m (a.eval (.tmp 14))).1
      have hbut : GrowBut q w' (w'.setCell ⟨q, m, none⟩ (a.eval (.tmp 14))) := (GrowBut.refl _ _).set _ _ _
      refine uponw_skip (w' := w'.setCell ⟨q, m, none⟩ (a.eval (.tmp 14))) ?_ hbut ⟨hg.1.trans hbut, (hbut.block _ (heap_lt hg.2.1) (by omega)).trans hg.2.1, (hbut.block _ (heap_lt hg.2.2.1) (by omega)).trans hg.2.2.1, fun h => by simp [upd] at h⟩ ⟨hst, own_other hbut hql e14⟩
      clear hin hg hr hst hbut hro hcur e14 hgr
      have ek : ∀ x, a.eval (.const x) = x := fun _ => rfl
      have ef : ∀ f, a.eval (.func f) = .func (.func f) #[] #[] := fun _ => rfl
      generalize a.eval = ev at *
      go_simp
      all_goals first | done | omega | (intro _; omega) | go_arith
  · intro vs w' dn hdn hg ht
    obtain ⟨q8, q9, q10, q11, q12, q13, q14, q15, qo8, -⟩ := ht
    have r8 : vs 0 = .pointer (some ⟨w.heap.size, 0, none⟩) := q8
    have r9 : vs 1 = .slice (some ⟨q, 0, none⟩) n cap := q9
    have r10 : vs 2 = .pointer (some ⟨w.heap.size + 1, 0, none⟩) := q10
    have r11 : vs 3 = .int .i64 (m : Int) := q11
    have r12 : vs 4 = .pointer (some ⟨w.heap.size + 1, 1, none⟩) := q12
    have r13 : vs 5 = .slice au l.length cu := q13
    replace q14 : ((fun v w' => w'.ownsRow w.heap.size 5 1 v l.length (l.map bv))) (vs 6) w' := q14
    have r15 : vs 7 = .pointer (some ⟨q, m, none⟩) := q15
    replace qo8 : ((fun _ v w' => LandQ q B n cap m w.heap.size us l v w')) (vs 8) (vs 6) w' := qo8
    clear q8 q9 q10 q11 q12 q13 q15
    simp only [putAll, Act.put, List.setIfInBounds_toArray, List.set_cons_zero, List.set_cons_succ, Nat.reduceAdd, r8, r9, r10, r11, r12, r13, r15]
    clear r8 r9 r10 r11 r12 r13 r15
    have hb1 := hg.1
    clear hg hdn q14 hxw hyw gW1
    go_wp2_with fail
    go_end0
    exact ⟨rfl, hb1, _, qo8⟩

/-- A write has landed. -/
theorem OwnU.put {q B cap m base : Nat} {bs : List (List UInt8)} {us : List Value} {l : List UInt8} {v' : Value} {w w' : World} (h : OwnU B (.slice (some ⟨q, 0, none⟩) bs.length cap) bs us w) (hB : B ≤ base) (hg : GrowBut q w w') (hQ : LandQ q B bs.length cap m base us l v' w') : OwnU B (.slice (some ⟨q, 0, none⟩) bs.length cap) (bs.set m l) (us.set m v') w' := by
  obtain ⟨cur, hcur⟩ := own_block h.row
  refine ⟨by simp [h.len], by rw [List.length_set]; exact hQ.1, fun i hi => ?_⟩
  rw [List.length_set] at hi
  by_cases e : m = i
  · subst e
    refine ⟨v', by rw [List.getElem?_set]; simp [h.len, hi], ?_⟩
    simp only [List.getElem_set_self]
    exact own_mono hQ.2 hB
  · obtain ⟨x, h1, h2⟩ := h.each i hi
    refine ⟨x, by rw [List.getElem?_set]; simp [e, h1], ?_⟩
    rw [List.getElem_set_ne e]
    exact own_other2 hg hcur (by decide) h2

/-- What holds while writes land in the variable g, k of them looked at. -/
def LandL (d : Dk) (w : World) (c : Array Value) (v : Value) (g : Nat) (on : Nat → Bool) (k : Nat) (wr : World) : Prop :=
  Grow w wr ∧ wr.heap[w.heap.size]? = some (.cells c 46 (0, 0)) ∧ wr.heap[w.heap.size + 1]? = some (.cells #[.slice none 0 0, .slice none 0 0] 46 (0, 0)) ∧
    wr.heap[g]? = some (.cells #[v, .slice none 0 0] 46 (0, 0)) ∧ ∃ us, OwnU (w.heap.size + 1 + 1) v (d.keepTo on k) us wr
theorem LandL.grow {d : Dk} {w : World} {c : Array Value} {v : Value} {g : Nat} {on : Nat → Bool} {k : Nat} {wr w' : World} (h : LandL d w c v g on k wr) (hg : Grow wr w') : LandL d w c v g on k w' :=
  ⟨h.1.trans hg, (hg.block _ (heap_lt h.2.1)).trans h.2.1, (hg.block _ (heap_lt h.2.2.1)).trans h.2.2.1, (hg.block _ (heap_lt h.2.2.2.1)).trans h.2.2.2.1, h.2.2.2.2.imp fun _ x => x.grow hg⟩
theorem LandL.skip {d : Dk} {w : World} {c : Array Value} {v : Value} {g : Nat} {on : Nat → Bool} {k : Nat} {wr : World} (h : LandL d w c v g on k wr) (ho : on k = false) : LandL d w c v g on (k + 1) wr :=
  ⟨h.1, h.2.1, h.2.2.1, h.2.2.2.1, by show ∃ us, OwnU _ v (if on k = true then _ else _) us wr; rw [ho, if_neg (by decide)]; exact h.2.2.2.2⟩
theorem LandL.land {d : Dk} {w : World} {c : Array Value} {q cap g m : Nat} {on : Nat → Bool} {k : Nat} {wr w' : World} {us : List Value} {l : List UInt8} {v' : Value} (h : LandL d w c (.slice (some ⟨q, 0, none⟩) d.blocks.length cap) g on k wr) (ho : on k = true) (hk : k < d.late.length) (hm : d.late[k].1 = (m : Int)) (hl : d.late[k].2 = l)
    (hU : OwnU (w.heap.size + 1 + 1) (.slice (some ⟨q, 0, none⟩) d.blocks.length cap) (d.keepTo on k) us wr) (hg : GrowBut q wr w') (hQ : LandQ q (w.heap.size + 1 + 1) d.blocks.length cap m wr.heap.size us l v' w') : LandL d w c (.slice (some ⟨q, 0, none⟩) d.blocks.length cap) g on (k + 1) w' := by
  have hlen : (d.keepTo on k).length = d.blocks.length := d.keepTo_length _ _
  have hrow := hU.row
  rw [hlen] at hrow
  obtain ⟨cur, hcur⟩ := own_block hrow
  have hq := (hrow.lt q rfl).1
  have hgq : g ≠ q := by rintro rfl; rw [h.2.2.2.1] at hcur; cases hcur
  have hsz := heap_lt h.2.2.1
  refine ⟨hg.grow h.1 (by omega), (hg.block _ (heap_lt h.2.1) (by omega)).trans h.2.1, (hg.block _ (heap_lt h.2.2.1) (by omega)).trans h.2.2.1, (hg.block _ (heap_lt h.2.2.2.1) hgq).trans h.2.2.2.1, us.set m v', ?_⟩
  rw [← hlen] at hU hQ
  have := OwnU.put hU (by omega) hg hQ
  rw [hlen] at this
  show OwnU _ _ (if on k = true then _ else _) _ _
  rw [ho, if_pos rfl, getD_at _ _ _ hk, hm, hl, Int.toNat_natCast]
  exact this

theorem row_some2 {B : Nat} {v : Value} {bs : List (List UInt8)} {us : List Value} {w : World} (h : OwnU B v bs us w) (h0 : 0 < bs.length) : ∃ q cap, v = .slice (some ⟨q, 0, none⟩) bs.length cap := by
  rcases h.row.2 with ⟨_, e⟩ | ⟨q, cap, cur, e, _⟩
  · omega
  · exact ⟨q, cap, e⟩

set_option maxHeartbeats 4000000 in
theorem flushP_any (d : Dk) (vb vl : Value) (w : World) (hb : BlocksP w vb d.blocks) (hl : LateP w vl d.late) (h0 : 0 < d.blocks.length) (hlen : d.blocks.length ≤ 256) (hm : d.late.length ≤ 1000) (hb16 : ∀ x ∈ d.blocks, x.length ≤ 1000) (hl16 : ∀ x ∈ d.late, x.2.length ≤ 1000) (hp : ∀ x ∈ d.late, 0 ≤ x.1 ∧ x.1 < (d.blocks.length : Int)) :
    Calls Try.prog 44 #[.agg #[vb, vl]] w fun e w' => ∃ v, e = .returned v ∧ DiskQ w.heap.size d.flush v w' ∧ Grow w w' := by
  obtain ⟨ab, cb, rfl⟩ := hb.form
  obtain ⟨al, cl, rfl⟩ := hl.form
  have gW := grow_alloc2 w (.cells #[.slice ab d.blocks.length cb, .slice al d.late.length cl] 46) (.cells #[.slice none 0 0, .slice none 0 0] 46)
  have hx := hx1 w #[.slice ab d.blocks.length cb, .slice al d.late.length cl] #[.slice none 0 0, .slice none 0 0]
  have hy := hy1 w #[.slice ab d.blocks.length cb, .slice al d.late.length cl] #[.slice none 0 0, .slice none 0 0]
  go_enter Try.func44, Try.ntmps44
  go_wp2_with fail
  refine (ownBlocks_any d.blocks _ _ (hb.grow gW) hlen hb16).mono ?_
  rintro e w1 ⟨v1, us, rfl, hU, -, g1⟩
  obtain ⟨q, cap, rfl⟩ := row_some2 hU h0
  have g2 := grow_alloc w1 (.cells #[.slice (some ⟨q, 0, none⟩) d.blocks.length cap, .slice none 0 0] 46)
  have hxw := ((g1.trans g2).block _ (heap_lt hx)).trans hx
  have hyw := ((g1.trans g2).block _ (heap_lt hy)).trans hy
  have hstart : LandL d w #[.slice ab d.blocks.length cb, .slice al d.late.length cl] (.slice (some ⟨q, 0, none⟩) d.blocks.length cap) w1.heap.size (fun _ => true) 0 (w1.alloc (.cells #[.slice (some ⟨q, 0, none⟩) d.blocks.length cap, .slice none 0 0] 46)) :=
    ⟨gW.trans (g1.trans g2), hxw, hyw, heap_new _ _ _, us, (hU.grow g2).mono (by simp)⟩
  have x1 := box_cell hxw 1 _ rfl
  clear hU hxw hyw hx hy gW g1 g2 hb
  go_wp2_with fail
  clear x1
  generalize w1.heap.size = g at *
  generalize World.alloc w1 _ = W at *
  go_loopw [13] (fun i wr => ∃ k : Nat, k ≤ d.late.length ∧ i = .int .i64 k ∧ LandL d w #[.slice ab d.blocks.length cb, .slice al d.late.length cl] (.slice (some ⟨q, 0, none⟩) d.blocks.length cap) g (fun _ => true) k wr) (fun i _ => d.late.length - (intOf i).toNat)
  case atStart => exact ⟨0, Nat.zero_le _, rfl, hstart⟩
  case round =>
    clear hstart
    obtain ⟨k, hk, rfl, hL⟩ := hrel
    by_cases hlt : k < d.late.length
    · obtain ⟨b, off, hvl, hc0, u, hc1, hu⟩ := (hl.grow hL.1).at k hlt
      cases hvl
      have hpk := hp d.late[k] (List.getElem_mem _)
      have hx16 := hl16 d.late[k] (List.getElem_mem _)
      obtain ⟨m, hm0⟩ := Int.eq_ofNat_of_zero_le hpk.1
      have hmn : m < d.blocks.length := by have := hpk.2; omega
      rw [hm0] at hc0
      obtain ⟨au, cu, rfl, -, -⟩ := bytes_src hu
      have hll := hL.grow (grow_alloc wr (.cells #[.int .i64 (m : Int), .slice au (d.late[k].2).length cu] 60))
      obtain ⟨us1, hU1⟩ := hll.2.2.2.2
      have hkl : (d.keepTo (fun _ => true) k).length = d.blocks.length := d.keepTo_length _ _
      have hrow1 := hU1.row
      rw [hkl] at hrow1
      have hu1 := bytes_grow hu (grow_alloc wr (.cells #[.int .i64 (m : Int), .slice au (d.late[k].2).length cu] 60))
      have HM : Hid _ := hm0
      have hfin := fun (l : List UInt8) (e : d.late[k].2 = l) v' w' => LandL.land (v' := v') (w' := w') hll rfl hlt hm0 e hU1
      have y0 := box_cell hll.2.2.2.1 0 _ rfl
      have y1 := box_cell hll.2.2.2.1 1 _ rfl
      replace hfin := hfin _ rfl
      clear hm0 hU1 hL hu hkl hpk hll
      generalize d.late[k].2 = data at *
      go_wp2_with fail
      refine (land_yes q (w.heap.size + 1 + 1) d.blocks.length cap m us1 _ _ _ _ data _ _ rfl hmn hrow1 hu1 hx16).mono ?_
      rintro e w2 ⟨rfl, v', hbut, hQ⟩
      have hend := hfin v' w2 hbut hQ
      clear hfin hbut hQ hrow1 hu1 y0 y1
      go_wp2_with fail
      go_roundw
      case rel => exact ⟨k + 1, by omega, by simp, hend⟩
      case measure => simp [intOf]; omega
    · have hk' : k = d.late.length := by omega
      subst hk'
      obtain ⟨gL, -, hLr, hLg, us1, hU1⟩ := hL
      have y0 := box_cell hLg 0 _ rfl
      have y1 := box_cell hLg 1 _ rfl
      have z0 := box_cell hLr 0 _ rfl
      have z1 := box_cell hLr 1 _ rfl
      have f0 := box_frozen hLr 0
      have f1 := box_frozen hLr 1
      have cs := cell_set
      obtain ⟨hp1, hp2⟩ := box_put2 hLr (.slice (some ⟨q, 0, none⟩) d.blocks.length cap) (.slice none 0 0)
      have hstep : BoxStep 46 wr _ := .inr ⟨_, _, _, hp2, hLr, hp1, rfl⟩
      have gE := hp2.grow gL (by omega)
      have hE := (hU1.box hstep).mono (B' := w.heap.size) (by omega)
      clear hp1 hp2 hstep hU1 hLg hLr gL hl
      go_wp2_with fail
      exact bodyPost_ret (v := .agg #[.slice (some ⟨q, 0, none⟩) d.blocks.length cap, .slice none 0 0]) (by simp [results, Try.results44, go_sem, z0, z1, cs]) rfl ⟨_, rfl, ⟨_, _, rfl, ⟨us1, hE⟩, OwnLt.nil _ _⟩, gE⟩
end Go.Proofs.Ytgpfflfdigekeaa
