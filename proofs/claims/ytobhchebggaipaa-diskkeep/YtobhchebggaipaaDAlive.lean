/-
  sclaw3.alive answers true.
  No condition.
-/
import Derived.Test.YtobhchebggaipaaDiskTells
import Derived.Test.YtobhchebggaipaaRegx
namespace Go.Proofs.Ytobhchebggaipaa
open Go.RowKit
open Go.Proofs.Ytobhchebggaipaa.Plain Go.Proofs.Ytobhchebggaipaa.Reg

/-! ### Two variables of disks that are made, and then written -/

def nilD : Obj := .cells #[.slice none 0 0, .slice none 0 0] 46 (0, 0)
/-- A variable f b, made or not, written or not with what f c is. -/
def OneJ (W : World) (c b s : Nat) (dn : Nat → Bool) (f : Nat → Value) (w : World) : Prop :=
  dn b = true → ∃ g, f b = .pointer (some ⟨g, 0, none⟩) ∧ W.heap.size ≤ g ∧ (dn s = false → w.heap[g]? = some nilD) ∧ (dn s = true → ∃ vb vl, f c = .agg #[vb, vl] ∧ w.heap[g]? = some (.cells #[vb, vl] 46 (0, 0)))
def TwoJ (W : World) (c1 c2 b1 b2 s1 s2 : Nat) (dn : Nat → Bool) (f : Nat → Value) (w : World) : Prop :=
  Grow W w ∧ OneJ W c1 b1 s1 dn f w ∧ OneJ W c2 b2 s2 dn f w ∧ (dn b1 = true → dn b2 = true → f b1 ≠ f b2)
theorem TwoJ.start (W : World) (c1 c2 b1 b2 s1 s2 : Nat) (f : Nat → Value) : TwoJ W c1 c2 b1 b2 s1 s2 (fun _ => false) f W.drew := by
  refine ⟨(Grow.refl _).drew, ?_, ?_, ?_⟩ <;> (intro h; cases h)
theorem OneJ.keep {W : World} {c b s : Nat} {dn : Nat → Bool} {f : Nat → Value} {w w' : World} (h : OneJ W c b s dn f w) (hk : ∀ g, f b = .pointer (some ⟨g, 0, none⟩) → g < w.heap.size → w'.heap[g]? = w.heap[g]?) : OneJ W c b s dn f w' := by
  intro hb
  obtain ⟨g, h1, h2, h3, h4⟩ := h hb
  refine ⟨g, h1, h2, fun hs => ?_, fun hs => ?_⟩
  · have := h3 hs; rw [hk g h1 (heap_lt this)]; exact this
  · obtain ⟨vb, vl, e1, e2⟩ := h4 hs
    exact ⟨vb, vl, e1, by rw [hk g h1 (heap_lt e2)]; exact e2⟩
theorem OneJ.grow {W : World} {c b s : Nat} {dn : Nat → Bool} {f : Nat → Value} {w w' : World} (h : OneJ W c b s dn f w) (hg : Grow w w') : OneJ W c b s dn f w' := h.keep fun g _ hl => hg.block g hl
theorem TwoJ.grow {W : World} {c1 c2 b1 b2 s1 s2 : Nat} {dn : Nat → Bool} {f : Nat → Value} {w w' : World} (h : TwoJ W c1 c2 b1 b2 s1 s2 dn f w) (hg : Grow w w') : TwoJ W c1 c2 b1 b2 s1 s2 dn f w' :=
  ⟨h.1.trans hg, h.2.1.grow hg, h.2.2.1.grow hg, h.2.2.2⟩
theorem TwoJ.symm {W : World} {c1 c2 b1 b2 s1 s2 : Nat} {dn : Nat → Bool} {f : Nat → Value} {w : World} (h : TwoJ W c1 c2 b1 b2 s1 s2 dn f w) : TwoJ W c2 c1 b2 b1 s2 s1 dn f w :=
  ⟨h.1, h.2.2.1, h.2.1, fun a b e => h.2.2.2 b a e.symm⟩
theorem upd_ne {dn : Nat → Bool} {i j : Nat} (h : j ≠ i) : upd dn i j = dn j := by unfold upd; rw [if_neg h]
theorem upd_at {dn : Nat → Bool} {i : Nat} : upd dn i i = true := by unfold upd; rw [if_pos rfl]
theorem setv_ne {f : Nat → Value} {i j : Nat} {v : Value} (h : j ≠ i) : setv f i v j = f j := by unfold setv; rw [if_neg h]
theorem setv_at {f : Nat → Value} {i : Nat} {v : Value} : setv f i v i = v := by unfold setv; rw [if_pos rfl]
theorem OneJ.other {W : World} {c b s i : Nat} {dn : Nat → Bool} {f : Nat → Value} {v : Value} {w : World} (h : OneJ W c b s dn f w) (n1 : c ≠ i) (n2 : b ≠ i) (n3 : s ≠ i) : OneJ W c b s (upd dn i) (setv f i v) w := by
  unfold OneJ
  rw [upd_ne n2, upd_ne n3, setv_ne n1, setv_ne n2]
  exact h
/-- What is to be written comes. -/
theorem TwoJ.call1 {W : World} {c1 c2 b1 b2 s1 s2 : Nat} {dn : Nat → Bool} {f : Nat → Value} {v : Value} {w : World} (h : TwoJ W c1 c2 b1 b2 s1 s2 dn f w) (n : c2 ≠ c1 ∧ b1 ≠ c1 ∧ b2 ≠ c1 ∧ s1 ≠ c1 ∧ s2 ≠ c1) (hs : dn s1 = false) : TwoJ W c1 c2 b1 b2 s1 s2 (upd dn c1) (setv f c1 v) w := by
  obtain ⟨n1, n2, n3, n4, n5⟩ := n
  refine ⟨h.1, ?_, h.2.2.1.other n1 n3 n5, by rw [upd_ne n2, upd_ne n3, setv_ne n2, setv_ne n3]; exact h.2.2.2⟩
  unfold OneJ
  rw [upd_ne n2, upd_ne n4, setv_ne n2]
  intro hb
  obtain ⟨g, h1, h2, h3, h4⟩ := h.2.1 hb
  exact ⟨g, h1, h2, h3, fun h5 => by rw [hs] at h5; cases h5⟩
/-- A variable is made. -/
theorem TwoJ.alloc1 {W : World} {c1 c2 b1 b2 s1 s2 : Nat} {dn : Nat → Bool} {f : Nat → Value} {w : World} (h : TwoJ W c1 c2 b1 b2 s1 s2 dn f w) (n : c1 ≠ b1 ∧ c2 ≠ b1 ∧ b2 ≠ b1 ∧ s1 ≠ b1 ∧ s2 ≠ b1) (hs : dn s1 = false) : TwoJ W c1 c2 b1 b2 s1 s2 (upd dn b1) (setv f b1 (.pointer (some ⟨w.heap.size, 0, none⟩))) (w.alloc nilD) := by
  obtain ⟨n1, n2, n3, n4, n5⟩ := n
  have hg := grow_alloc w nilD
  refine ⟨h.1.trans hg, fun _ => ⟨w.heap.size, setv_at, h.1.size, fun _ => heap_new _ _ _, fun h5 => ?_⟩, (h.2.2.1.grow hg).other n2 n3 n5, fun _ hb2 => ?_⟩
  · rw [upd_ne n4, hs] at h5; cases h5
  · rw [upd_ne n3] at hb2
    obtain ⟨g, h1, h2, h3, h4⟩ := h.2.2.1 hb2
    rw [setv_at, setv_ne n3, h1]
    intro e
    have e' : w.heap.size = g := by injection e with e1; injection e1 with e2; injection e2
    have hgl : g < w.heap.size := by
      cases hd : dn s2 with
      | false => exact heap_lt (h3 hd)
      | true => obtain ⟨vb, vl, _, e2⟩ := h4 hd; exact heap_lt e2
    omega
/-- It is written. -/
theorem TwoJ.store1 {W : World} {c1 c2 b1 b2 s1 s2 : Nat} {dn : Nat → Bool} {f : Nat → Value} {w : World} {vb vl : Value} (h : TwoJ W c1 c2 b1 b2 s1 s2 dn f w) (n : c1 ≠ s1 ∧ c2 ≠ s1 ∧ b1 ≠ s1 ∧ b2 ≠ s1 ∧ s2 ≠ s1) (d1 : dn b1 = true) (d2 : dn b2 = true) (hs : dn s1 = false) (hv : f c1 = .agg #[vb, vl]) :
    ∃ g, f b1 = .pointer (some ⟨g, 0, none⟩) ∧ w.heap[g]? = some nilD ∧ TwoJ W c1 c2 b1 b2 s1 s2 (upd dn s1) (setv f s1 undef) ((w.setCell ⟨g, 0, none⟩ vb).setCell ⟨g, 1, none⟩ vl) := by
  obtain ⟨n1, n2, n3, n4, n5⟩ := n
  obtain ⟨g, h1, h2, h3, h4⟩ := h.2.1 d1
  have hz := h3 hs
  obtain ⟨hp1, hp2⟩ := box_put2 (show w.heap[g]? = some (.cells #[.slice none 0 0, .slice none 0 0] 46 (0, 0)) from hz) vb vl
  refine ⟨g, h1, hz, hp2.grow h.1 h2, ?_, ?_, by rw [upd_ne n3, upd_ne n4, setv_ne n3, setv_ne n4]; exact h.2.2.2⟩
  · intro _
    refine ⟨g, by rw [setv_ne n3]; exact h1, h2, fun h5 => ?_, fun _ => ⟨vb, vl, by rw [setv_ne n1]; exact hv, hp1⟩⟩
    rw [upd_at] at h5; cases h5
  · refine OneJ.other (OneJ.keep h.2.2.1 fun g' hg' hl => hp2.block g' hl ?_) n2 n4 n5
    rintro rfl
    exact h.2.2.2 d1 d2 (h1.trans hg'.symm)
theorem TwoJ.done {W : World} {c1 c2 b1 b2 s1 s2 : Nat} {dn : Nat → Bool} {f : Nat → Value} {w : World} (h : TwoJ W c1 c2 b1 b2 s1 s2 dn f w) (d1 : dn b1 = true) (d2 : dn b2 = true) (e1 : dn s1 = true) (e2 : dn s2 = true) :
    ∃ g1 g2 vb1 vl1 vb2 vl2, f b1 = .pointer (some ⟨g1, 0, none⟩) ∧ f b2 = .pointer (some ⟨g2, 0, none⟩) ∧ f c1 = .agg #[vb1, vl1] ∧ f c2 = .agg #[vb2, vl2] ∧ w.heap[g1]? = some (.cells #[vb1, vl1] 46 (0, 0)) ∧ w.heap[g2]? = some (.cells #[vb2, vl2] 46 (0, 0)) := by
  obtain ⟨g1, a1, a2, a3, a4⟩ := h.2.1 d1
  obtain ⟨g2, b1, b2, b3, b4⟩ := h.2.2.1 d2
  obtain ⟨vb1, vl1, x1, x2⟩ := a4 e1
  obtain ⟨vb2, vl2, y1, y2⟩ := b4 e2
  exact ⟨g1, g2, vb1, vl1, vb2, vl2, a1, b1, x1, y1, x2, y2⟩
theorem box_step2 {w : World} {g : Nat} (h : w.heap[g]? = some nilD) (vb vl : Value) : BoxStep 46 w ((w.setCell ⟨g, 0, none⟩ vb).setCell ⟨g, 1, none⟩ vl) := by
  obtain ⟨hp1, hp2⟩ := box_put2 (show w.heap[g]? = some (.cells #[.slice none 0 0, .slice none 0 0] 46 (0, 0)) from h) vb vl
  exact .inr ⟨g, _, _, hp2, h, hp1, rfl⟩

/-! ### The closed fact -/

def z16 : List UInt8 := List.replicate 16 0
def dA : Dk := Dk.new.put 3 z16
theorem make16 (w : World) : (Instr.makeSlice 22 (.int .i64 16) (.int .i64 16)).run Try.prog w = .ok (.slice (some ⟨w.heap.size, 0, none⟩) 16 16) (w.alloc (.cells (z16.map bv).toArray 5)) := by
  obtain ⟨i0, hif, hz0, hz1, hz2⟩ := info_parts info_byte
  have h := run_make (P := Try.prog) w 22 5 i0 (.int .u8 0) Try.underlying22 hif hz0 .i64 .i64 16 16 (by omega) (by omega) (by rw [hz2]; omega) (by omega)
  rw [h, hz1, show madeCells (Value.int .u8 0).cells (Int.toNat 16 * 1) = (z16.map bv).toArray from by kernel_rfl]
  rfl
theorem own16 (w : World) : (w.alloc (.cells (z16.map bv).toArray 5)).ownsRow 0 5 1 (.slice (some ⟨w.heap.size, 0, none⟩) 16 16) z16.length (z16.map bv) := by
  have := World.ownsRow_lit (e := 5) (base := 0) (size := 1) w (z16.map bv).toArray 16 (Nat.zero_le _) (by unfold maxLen; omega) (by kernel_rfl)
  simpa [z16] using this
theorem new_block (x : List UInt8) (h : x ∈ Dk.new.blocks) : x.length ≤ 1000 := by
  obtain ⟨i, hi, rfl⟩ := List.mem_iff_getElem.1 h
  rw [new_at i hi, blk_length _ _ (by simp)]; omega
theorem putE_A : Dk.new.putE 3 z16 = 0 := by unfold Dk.putE; rw [new_len]; simp [z16]
theorem putD_A : Dk.new.putD 3 z16 = dA := by unfold Dk.putD; rw [putE_A]; rfl
theorem lenA : dA.blocks.length = 12 := rfl
theorem lateA : dA.late = [(3, z16)] := rfl
theorem blocksA (x : List UInt8) (h : x ∈ dA.blocks) : x.length ≤ 1000 := new_block x h
theorem latesA (x : Wr) (h : x ∈ dA.late) : x.2.length ≤ 1000 := by
  rw [lateA] at h; rw [List.mem_singleton.1 h]; simp [z16]
theorem placesA (x : Wr) (h : x ∈ dA.late) : 0 ≤ x.1 ∧ x.1 < (dA.blocks.length : Int) := by
  rw [lateA] at h; rw [List.mem_singleton.1 h, lenA]; simp
theorem getA : dA.get 3 = some z16 := Dk.put_get Dk.new 3 z16 (by omega) (by rw [new_len]; omega)
theorem getEA : dA.getE 3 = 0 := by unfold Dk.getE; rw [lenA]; simp
theorem keepA : (dA.keep 0).blocks = Dk.new.blocks := dA.keep_none
theorem flushA : dA.flush.blocks = Dk.new.blocks.set 3 z16 := rfl
theorem flushA_len : dA.flush.blocks.length = 12 := rfl
theorem flushA_block (x : List UInt8) (h : x ∈ dA.flush.blocks) : x.length ≤ 1000 := by
  rw [flushA] at h
  rcases List.mem_or_eq_of_mem_set h with h | h
  · exact new_block x h
  · rw [h]; simp [z16]
theorem spoilA : (dA.flush.spoil 3 0 5).blocks = dA.flush.blocks.set 3 (turned z16 0 5) := by
  unfold Dk.spoil; rw [if_pos (by rw [flushA_len]; omega)]; rfl
/-- The first byte of some bytes. -/
theorem first_byte {w : World} {u : Value} {l : List UInt8} (h : Bytes w u l) (h0 : 0 < l.length) : ∃ b off cap, u = .slice (some ⟨b, off, none⟩) l.length cap ∧ w.cell? ⟨b, off, none⟩ = some (.int .u8 ((l[0]).toNat : Int)) := by
  rcases h with ⟨_, _, _, rfl, _⟩ | ⟨b, off, cap, rfl, h1, hc⟩
  · simp at h0
  · exact ⟨b, off, cap, rfl, by have := hc 0 h0; simpa using this⟩
theorem field_late (w : World) (vb vl : Value) : (Instr.field 46 (.agg #[vb, vl]) 1).run Try.prog w = .ok vl w := by
  unfold Instr.field; simp [part, asAgg]

def HeldD (d : Dk) (p : Value) (w : World) : Prop := ∃ g vb vl, p = .pointer (some ⟨g, 0, none⟩) ∧ w.heap[g]? = some (.cells #[vb, vl] 46 (0, 0)) ∧ BlocksP w vb d.blocks ∧ LateP w vl d.late
theorem st_heldd (d : Dk) (i : Nat) : StableW (pl1 i (fun _ p w => HeldD d p w)) := by
  rintro v ds w w' hg ⟨g, vb, vl, h1, h2, h3, h4⟩
  exact ⟨g, vb, vl, h1, (hg.block _ (heap_lt h2)).trans h2, h3.grow hg, h4.grow hg⟩
def TupD (d : Dk) (v : Value) (w : World) : Prop := ∃ v', v = .tuple #[v', .int .i64 0] ∧ DiskQ 0 d v' w
theorem st_tupd (d : Dk) : Stable (TupD d) := by
  rintro v w w' hg ⟨v', h1, h2⟩; exact ⟨v', h1, h2.grow hg⟩
theorem sb_tupd {d : Dk} {v : Value} {w w' : World} (hs : BoxStep 46 w w') (h : TupD d v w) : TupD d v w' := by
  obtain ⟨v', h1, h2⟩ := h; exact ⟨v', h1, h2.box hs⟩
theorem arr2 {c : Array Value} (h : c.size = 2) : ∃ x0 x1, c = #[x0, x1] := by
  obtain ⟨l⟩ := c
  match l, h with
  | [x0, x1], _ => exact ⟨x0, x1, rfl⟩

/-- The first byte of a block. -/
theorem block_first {w : World} {ao : Option Addr} {n cap : Nat} {bs : List (List UInt8)} (h : BlocksP w (.slice ao n cap) bs) (i : Nat) (hi : i < bs.length) (l : List UInt8) (hl : bs[i] = l) (x : UInt8) (hx : l[0]? = some x) :
    ∃ b off b' off' cap', ao = some ⟨b, off, none⟩ ∧ w.cell? ⟨b, off + i, none⟩ = some (.slice (some ⟨b', off', none⟩) l.length cap') ∧ w.cell? ⟨b', off', none⟩ = some (.int .u8 (x.toNat : Int)) := by
  obtain ⟨b, off, h1, u, h2, h3⟩ := h.at i hi
  rw [hl] at h3
  have h0 : 0 < l.length := by
    cases l with
    | nil => simp at hx
    | cons _ _ => simp
  obtain ⟨b', off', cap', rfl, h4⟩ := first_byte h3 h0
  refine ⟨b, off, b', off', cap', h1, h2, ?_⟩
  rw [List.getElem?_eq_getElem h0] at hx
  cases hx
  exact h4
theorem keepA_at (h : 3 < (dA.keep 0).blocks.length) : (dA.keep 0).blocks[3] = blk ⟨1, 0, 0, []⟩ 3 := by
  have e : ∀ (l : List (List UInt8)) (hl : 3 < l.length), l = Dk.new.blocks → l[3] = blk ⟨1, 0, 0, []⟩ 3 := by
    rintro l hl rfl; exact new_at 3 hl
  exact e _ h keepA
theorem flushA_at (h : 3 < dA.flush.blocks.length) : dA.flush.blocks[3] = z16 := rfl
theorem spoilA_len : (dA.flush.spoil 3 0 5).blocks.length = 12 := by rw [spoilA]; rfl
theorem spoilA_at (h : 3 < (dA.flush.spoil 3 0 5).blocks.length) : (dA.flush.spoil 3 0 5).blocks[3] = turned z16 0 5 := by
  have e : ∀ (l : List (List UInt8)) (hl : 3 < l.length), l = dA.flush.blocks.set 3 (turned z16 0 5) → l[3] = turned z16 0 5 := by
    rintro l hl rfl; simp
  exact e _ h spoilA
theorem keepA_len : (dA.keep 0).blocks.length = 12 := by rw [keepA]; rfl

set_option maxRecDepth 100000 in
set_option maxHeartbeats 4000000 in
theorem dalive_any (w : World) : Calls Try.prog 46 #[] w fun e w' => e = .returned (.bool true) ∧ Grow w w' := by
  go_enter Try.func46, Try.ntmps46
  go_wp2_with fail
  refine wp_region_w [pl (DiskQ 0 Dk.new), pl ((fun v w' => w'.ownsRow 0 5 1 v z16.length (z16.map bv))), pl (TupD dA), pl (TupD dA), pl (DiskQ 0 dA), pl (ex (.int .i64 0)), pl (BoxP 46 2 w.heap.size), pl1 6 ((fun _ p w' => HeldD dA p w')), pl (ex (.int .i64 0))] [none, none, none, none, none, none, none, some ((BoxStep 46))] (fun w' => Grow w w') (by kernel_rfl) (by kernel_rfl) ⟨st_pl (st_diskq _ _), st_pl (st_ownb _ _), st_pl (st_tupd _), st_pl (st_tupd _), st_pl (st_diskq _ _), st_pl (st_ex _), st_pl (st_box _ _ _), st_heldd _ _, st_pl (st_ex _), trivial⟩ ⟨⟨(fun w => .inl rfl), ⟨.inr ((fun v _ w w' hs hq => DiskQ.box hq hs)), .inr ((fun v _ w w' hs hq => own_box (by decide) hs hq)), .inr ((fun v _ w w' hs hq => sb_tupd hs hq)), .inr ((fun v _ w w' hs hq => sb_tupd hs hq)), .inr ((fun v _ w w' hs hq => DiskQ.box hq hs)), .inr (fun _ _ _ _ _ h => h), .inr ((fun v _ w w' hs hq => sp_box _ _ _ v w w' hs hq)), .inl (by kernel_rfl), .inl (by kernel_rfl), trivial⟩⟩, trivial⟩ ⟨(fun h => by cases h), (fun h => by cases h), (fun h => by cases h), (fun h => by cases h), (fun h => by cases h), (fun h => by cases h), (fun h => by cases h), fun _ _ _ _ h => h, (fun h => by cases h), trivial⟩ ?_ ?_ ?_
  · exact (Grow.refl _).drew
  · refine ⟨?_, ?_, ?_, ?_, ?_, ?_, ?_, ?_, ?_, trivial⟩
    · refine needw_plain rfl (fun a w' hg hin => ?_)
      refine uponw_call (f := 32) (args := #[]) ?_ ((new_any w').mono ?_)
      · clear hin hg
        have ek : ∀ x, a.eval (.const x) = x := fun _ => rfl
        have ef : ∀ f, a.eval (.func f) = .func (.func f) #[] #[] := fun _ => rfl
        generalize a.eval = ev at *
        go_simp
        all_goals first | done | omega | (intro _; omega) | go_arith
      · rintro e w2 ⟨v2, rfl, hA, g2⟩
        exact ⟨_, rfl, g2, hg.trans g2, hA.mono (Nat.zero_le _)⟩
    · refine needw_plain rfl (fun a w' hg hin => ?_)
      have mk := make16 w'
      refine uponw_step (v := .slice (some ⟨w'.heap.size, 0, none⟩) 16 16) (w' := w'.alloc (.cells (z16.map bv).toArray 5)) ?_ (grow_alloc _ _) (hg.trans (grow_alloc _ _)) (own16 w')
      clear hin hg
      generalize (z16.map bv).toArray = zz at *
      have ek : ∀ x, a.eval (.const x) = x := fun _ => rfl
      have ef : ∀ f, a.eval (.func f) = .func (.func f) #[] #[] := fun _ => rfl
      generalize a.eval = ev at *
      go_simp
      all_goals first | done | omega | (intro _; omega) | go_arith
    · refine needw_plain rfl (fun a w' hg hin => ?_)
      have e9 : (DiskQ 0 Dk.new) (a.eval (.tmp 9)) w' := insw_on hin 0 (by kernel_rfl)
      have e10 : ((fun v w' => w'.ownsRow 0 5 1 v z16.length (z16.map bv))) (a.eval (.tmp 10)) w' := insw_on hin 1 (by kernel_rfl)
      obtain ⟨ab1, cb1, al1, cl1, h9, hb1, hl1⟩ := DiskP.form (DiskQ.p e9)
      obtain ⟨a10, c10, h10⟩ := own_slice e10
      have hby := bytes_own e10
      rw [h10] at hby
      refine uponw_call (f := 35) (args := #[.agg #[.slice ab1 Dk.new.blocks.length cb1, .slice al1 Dk.new.late.length cl1], .int .i64 3, .slice a10 z16.length c10]) ?_ ((put_any Dk.new 3 z16 _ _ _ w' hb1 hl1 hby (by rw [new_len]; omega) (by show 0 ≤ _; omega) new_block (fun x hx => by cases hx)).mono ?_)
      · clear hin hg e9 e10 hb1 hl1 hby
        generalize Dk.new.blocks.length = n1 at *
        generalize Dk.new.late.length = n2 at *
        generalize z16.length = n3 at *
        have ek : ∀ x, a.eval (.const x) = x := fun _ => rfl
        have ef : ∀ f, a.eval (.func f) = .func (.func f) #[] #[] := fun _ => rfl
        generalize a.eval = ev at *
        go_simp
        all_goals first | done | omega | (intro _; omega) | go_arith
      · rw [putE_A, putD_A]
        rintro e w2 ⟨v2, rfl, hA, g2⟩
        exact ⟨_, rfl, g2, hg.trans g2, _, rfl, hA.mono (Nat.zero_le _)⟩
    · refine needw_plain rfl (fun a w' hg hin => ?_)
      have e : (TupD dA) (a.eval (.tmp 11)) w' := insw_on hin 2 (by kernel_rfl)
      exact uponw_move rfl hg e
    · refine needw_plain rfl (fun a w' hg hin => ?_)
      have e8 : (TupD dA) (a.eval (.tmp 8)) w' := insw_on hin 3 (by kernel_rfl)
      obtain ⟨v', h8, hQ⟩ := e8
      refine uponw_val (v := v') ?_ hg hQ
      clear hin hg hQ
      have ek : ∀ x, a.eval (.const x) = x := fun _ => rfl
      have ef : ∀ f, a.eval (.func f) = .func (.func f) #[] #[] := fun _ => rfl
      generalize a.eval = ev at *
      go_simp
      all_goals first | done | omega | (intro _; omega) | go_arith
    · refine needw_plain rfl (fun a w' hg hin => ?_)
      have e8 : (TupD dA) (a.eval (.tmp 8)) w' := insw_on hin 3 (by kernel_rfl)
      obtain ⟨v', h8, hQ⟩ := e8
      refine uponw_val ?_ hg rfl
      clear hin hg hQ
      have ek : ∀ x, a.eval (.const x) = x := fun _ => rfl
      have ef : ∀ f, a.eval (.func f) = .func (.func f) #[] #[] := fun _ => rfl
      generalize a.eval = ev at *
      go_simp
      all_goals first | done | omega | (intro _; omega) | go_arith
    · refine needw_plain rfl (fun a w' hg hin => ?_)
      refine uponw_step (v := .pointer (some ⟨w'.heap.size, 0, none⟩)) (w' := w'.alloc (.cells #[.slice none 0 0, .slice none 0 0] 46)) ?_ (grow_alloc _ _) (hg.trans (grow_alloc _ _)) ⟨_, _, rfl, hg.size, heap_new _ _ _, rfl⟩
      clear hin hg
      have ek : ∀ x, a.eval (.const x) = x := fun _ => rfl
      have ef : ∀ f, a.eval (.func f) = .func (.func f) #[] #[] := fun _ => rfl
      generalize a.eval = ev at *
      go_simp
      all_goals first | done | omega | (intro _; omega) | go_arith
    · refine needw_plain rfl (fun a w' hg hin => ?_)
      have e1 : (BoxP 46 2 w.heap.size) (a.eval (.tmp 1)) w' := insw_on hin 6 (by kernel_rfl)
      have e12 : (DiskQ 0 dA) (a.eval (.tmp 12)) w' := insw_on hin 4 (by kernel_rfl)
      obtain ⟨g, c, h1, hgB, hh, hsz⟩ := e1
      obtain ⟨x0, x1, rfl⟩ := arr2 hsz
      obtain ⟨ab1, cb1, al1, cl1, h12, -, -⟩ := DiskP.form (DiskQ.p e12)
      obtain ⟨hp1, hp2⟩ := box_put2 hh (.slice ab1 dA.blocks.length cb1) (.slice al1 dA.late.length cl1)
      have hstep : BoxStep 46 w' _ := .inr ⟨g, _, _, hp2, hh, hp1, rfl⟩
      have hE := (DiskQ.box e12 hstep).p
      rw [h12] at hE
      obtain ⟨vb3, vl3, e3, hb3, hl3⟩ := hE
      cases e3
      refine uponw_skip (w' := _) ?_ hstep (hp2.grow hg hgB) ⟨g, _, _, h1, hp1, hb3, hl3⟩
      have y0 := box_cell hh 0 x0 rfl
      have y1 := box_cell hh 1 x1 rfl
      have f0 := box_frozen hh 0
      have f1 := box_frozen hh 1
      have cs := cell_set
      clear hin hg hp1 hp2 hstep hh hb3 hl3 e12
      generalize dA.blocks.length = n1 at *
      generalize dA.late.length = n2 at *
      have ek : ∀ x, a.eval (.const x) = x := fun _ => rfl
      have ef : ∀ f, a.eval (.func f) = .func (.func f) #[] #[] := fun _ => rfl
      generalize a.eval = ev at *
      go_simp
      all_goals first | done | omega | (intro _; omega) | go_arith
    · refine needw_plain rfl (fun a w' hg hin => ?_)
      have e : a.eval (.tmp 13) = .int .i64 0 := insw_on hin 5 (by kernel_rfl)
      exact uponw_assign rfl hg e
  · intro vs w' hg ht
    obtain ⟨q9, q10, q11, q8, q12, q13, q1, qo7, q2, -⟩ := ht
    replace q9 : (DiskQ 0 Dk.new) (vs 0) w' := q9
    replace q10 : ((fun v w' => w'.ownsRow 0 5 1 v z16.length (z16.map bv))) (vs 1) w' := q10
    replace q11 : (TupD dA) (vs 2) w' := q11
    replace q8 : (TupD dA) (vs 3) w' := q8
    replace q12 : (DiskQ 0 dA) (vs 4) w' := q12
    have r13 : vs 5 = .int .i64 0 := q13
    replace q1 : (BoxP 46 2 w.heap.size) (vs 6) w' := q1
    replace qo7 : ((fun _ p w' => HeldD dA p w')) (vs 7) (vs 6) w' := qo7
    have r2 : vs 8 = .int .i64 0 := q2
    clear q13 q2
    simp only [putAll, Act.put, List.setIfInBounds_toArray, List.set_cons_zero, List.set_cons_succ, Nat.reduceAdd, r13, r2]
    clear r13 r2
    obtain ⟨g1, vb1, vl1, h1, hx, hb, hl⟩ := qo7
    rw [h1]
    replace gW := hg
    clear q9 q10 q11 q8 q12 q1 hg h1
    obtain ⟨ab, cb, rfl⟩ := hb.form
    obtain ⟨al, cl, rfl⟩ := hl.form
    generalize vs 0 = u0
    generalize vs 1 = u1
    generalize vs 2 = u2
    generalize vs 3 = u3
    generalize vs 4 = u4
    have y0 := box_cell hx 0 _ rfl
    have y1 := box_cell hx 1 _ rfl
    have HGA : Hid (dA.get 3 = some z16) := getA
    go_wp2_with fail
    refine (get_any dA 3 _ _ _ hb hl (by rw [lateA]; simp) blocksA latesA).mono ?_
    rw [getEA, HGA.out]
    rintro e w3 ⟨v3, rfl, ho3, g3⟩
    rw [Option.getD_some] at ho3
    obtain ⟨b3, o3, c3, rfl, hc3⟩ := first_byte (bytes_own ho3) (by decide)
    rw [show (z16[0]'(by decide)).toNat = 0 from rfl] at hc3
    replace hx := (g3.block _ (heap_lt hx)).trans hx
    replace hb := hb.grow g3
    replace hl := hl.grow g3
    replace gW := gW.trans g3
    clear g3 y0 y1 ho3 HGA
    generalize hnA : dA.blocks.length = nA at *
    generalize hnL : dA.late.length = nL at *
    generalize hn16 : z16.length = n16 at *
    obtain rfl : nA = 12 := hnA.symm.trans lenA
    obtain rfl : nL = 1 := hnL.symm.trans rfl
    obtain rfl : n16 = 16 := hn16.symm.trans rfl
    clear hnA hnL hn16
    go_wp2_with fail
    refine wp_region_x [pl (ex (.agg #[.slice ab 12 cb, .slice al 1 cl])), pl (DiskQ 0 (dA.keep 0)), pl (ex (.agg #[.slice ab 12 cb, .slice al 1 cl])), pl (DiskQ 0 dA.flush), pl ((fun _ _ => True)), pl ((fun _ _ => True)), pl ((fun _ _ => True)), pl ((fun _ _ => True))] [none, none, none, none, none, none, some ((BoxStep 46)), some ((BoxStep 46))] (fun dn f w'' => TwoJ w3 1 3 4 5 6 7 dn f w'') (by kernel_rfl) (by kernel_rfl) ⟨st_pl (st_ex _), st_pl (st_diskq _ _), st_pl (st_ex _), st_pl (st_diskq _ _), st_pl ((fun _ _ _ _ _ => trivial)), st_pl ((fun _ _ _ _ _ => trivial)), st_pl ((fun _ _ _ _ _ => trivial)), st_pl ((fun _ _ _ _ _ => trivial)), trivial⟩ ⟨⟨(fun w => .inl rfl), ⟨.inr (fun _ _ _ _ _ h => h), .inr ((fun v _ w w' hs hq => DiskQ.box hq hs)), .inr (fun _ _ _ _ _ h => h), .inr ((fun v _ w w' hs hq => DiskQ.box hq hs)), .inr ((fun _ _ _ _ _ _ => trivial)), .inr ((fun _ _ _ _ _ _ => trivial)), .inl (by kernel_rfl), .inl (by kernel_rfl), trivial⟩⟩, ⟨(fun w => .inl rfl), ⟨.inr (fun _ _ _ _ _ h => h), .inr ((fun v _ w w' hs hq => DiskQ.box hq hs)), .inr (fun _ _ _ _ _ h => h), .inr ((fun v _ w w' hs hq => DiskQ.box hq hs)), .inr ((fun _ _ _ _ _ _ => trivial)), .inr ((fun _ _ _ _ _ _ => trivial)), .inr ((fun _ _ _ _ _ _ => trivial)), .inl (by kernel_rfl), trivial⟩⟩, trivial⟩ ⟨(fun h => by cases h), (fun h => by cases h), (fun h => by cases h), (fun h => by cases h), (fun h => by cases h), (fun h => by cases h), fun _ _ _ _ h => h, fun _ _ _ _ h => h, trivial⟩ (fun f => TwoJ.start _ _ _ _ _ _ _ f) ?_ ?_
    · refine ⟨?_, ?_, ?_, ?_, ?_, ?_, ?_, ?_, trivial⟩
      · refine needx_plain rfl (fun a w' dn hr hg hin => ?_)
        have e1 : a.eval (.tmp 1) = .pointer (some ⟨g1, 0, none⟩) := insw_ext hin 1 (by kernel_rfl)
        have z0 := box_cell ((hg.1.block _ (heap_lt hx)).trans hx) 0 _ rfl
        have z1 := box_cell ((hg.1.block _ (heap_lt hx)).trans hx) 1 _ rfl
        refine uponx_val ?_ hg rfl
        clear hin hg hr
        have ek : ∀ x, a.eval (.const x) = x := fun _ => rfl
        have ef : ∀ f, a.eval (.func f) = .func (.func f) #[] #[] := fun _ => rfl
        generalize a.eval = ev at *
        go_simp
        all_goals first | done | omega | (intro _; omega) | go_arith
      · refine needx_plain rfl (fun a w' dn hr hg hin => ?_)
        have e19 : a.eval (.tmp 19) = .agg #[.slice ab 12 cb, .slice al 1 cl] := insw_on hin 0 (by kernel_rfl)
        refine uponw_call (f := 40) (args := #[.agg #[.slice ab 12 cb, .slice al 1 cl], .int .i64 0]) ?_ ((keepP_any dA 0 _ _ w' (hb.grow hg.1) (hl.grow hg.1) (by rw [lenA]; omega) (by rw [lenA]; omega) (by rw [lateA]; simp) blocksA latesA placesA).mono ?_)
        · clear hin hg hr
          have ek : ∀ x, a.eval (.const x) = x := fun _ => rfl
          have ef : ∀ f, a.eval (.func f) = .func (.func f) #[] #[] := fun _ => rfl
          generalize a.eval = ev at *
          go_simp
          all_goals first | done | omega | (intro _; omega) | go_arith
        · rintro e w2 ⟨v2, rfl, hA, g2⟩
          exact ⟨_, rfl, g2, trivial, TwoJ.call1 (TwoJ.grow hg g2) (by decide) (hr.not1 6 (by kernel_rfl)), hA.mono (Nat.zero_le _)⟩
      · refine needx_plain rfl (fun a w' dn hr hg hin => ?_)
        have e1 : a.eval (.tmp 1) = .pointer (some ⟨g1, 0, none⟩) := insw_ext hin 1 (by kernel_rfl)
        have z0 := box_cell ((hg.1.block _ (heap_lt hx)).trans hx) 0 _ rfl
        have z1 := box_cell ((hg.1.block _ (heap_lt hx)).trans hx) 1 _ rfl
        refine uponx_val ?_ hg rfl
        clear hin hg hr
        have ek : ∀ x, a.eval (.const x) = x := fun _ => rfl
        have ef : ∀ f, a.eval (.func f) = .func (.func f) #[] #[] := fun _ => rfl
        generalize a.eval = ev at *
        go_simp
        all_goals first | done | omega | (intro _; omega) | go_arith
      · refine needx_plain rfl (fun a w' dn hr hg hin => ?_)
        have e21 : a.eval (.tmp 21) = .agg #[.slice ab 12 cb, .slice al 1 cl] := insw_on hin 2 (by kernel_rfl)
        refine uponw_call (f := 42) (args := #[.agg #[.slice ab 12 cb, .slice al 1 cl]]) ?_ ((flushP_any dA _ _ w' (hb.grow hg.1) (hl.grow hg.1) (by rw [lenA]; omega) (by rw [lenA]; omega) (by rw [lateA]; simp) blocksA latesA placesA).mono ?_)
        · clear hin hg hr
          have ek : ∀ x, a.eval (.const x) = x := fun _ => rfl
          have ef : ∀ f, a.eval (.func f) = .func (.func f) #[] #[] := fun _ => rfl
          generalize a.eval = ev at *
          go_simp
          all_goals first | done | omega | (intro _; omega) | go_arith
        · rintro e w2 ⟨v2, rfl, hA, g2⟩
          exact ⟨_, rfl, g2, trivial, (TwoJ.call1 (TwoJ.grow hg g2).symm (by decide) (hr.not1 7 (by kernel_rfl))).symm, hA.mono (Nat.zero_le _)⟩
      · refine needx_plain rfl (fun a w' dn hr hg hin => ?_)
        refine uponx_step (v := .pointer (some ⟨w'.heap.size, 0, none⟩)) (w' := w'.alloc nilD) ?_ (grow_alloc _ _) (TwoJ.alloc1 hg (by decide) (hr.not1 6 (by kernel_rfl))) trivial
        clear hin hg hr
        unfold nilD
        have ek : ∀ x, a.eval (.const x) = x := fun _ => rfl
        have ef : ∀ f, a.eval (.func f) = .func (.func f) #[] #[] := fun _ => rfl
        generalize a.eval = ev at *
        go_simp
        all_goals first | done | omega | (intro _; omega) | go_arith
      · refine needx_plain rfl (fun a w' dn hr hg hin => ?_)
        refine uponx_step (v := .pointer (some ⟨w'.heap.size, 0, none⟩)) (w' := w'.alloc nilD) ?_ (grow_alloc _ _) (TwoJ.alloc1 (TwoJ.symm hg) (by decide) (hr.not1 7 (by kernel_rfl))).symm trivial
        clear hin hg hr
        unfold nilD
        have ek : ∀ x, a.eval (.const x) = x := fun _ => rfl
        have ef : ∀ f, a.eval (.func f) = .func (.func f) #[] #[] := fun _ => rfl
        generalize a.eval = ev at *
        go_simp
        all_goals first | done | omega | (intro _; omega) | go_arith
      · refine needx_plain rfl (fun a w' dn hr hg hin => ?_)
        have e5 : ((fun _ _ => True)) (a.eval (.tmp 5)) w' := insw_on hin 4 (by kernel_rfl)
        have e20 : (DiskQ 0 (dA.keep 0)) (a.eval (.tmp 20)) w' := insw_on hin 1 (by kernel_rfl)
        obtain ⟨ab1, cb1, al1, cl1, h20, -, -⟩ := DiskP.form (DiskQ.p e20)
        obtain ⟨g, hf, hz, hJ'⟩ := TwoJ.store1 hg (by decide) (hr.rd 4 (by kernel_rfl)) (hr.rd 5 (by kernel_rfl)) hr.un h20
        have h5 : a.eval (.tmp 5) = .pointer (some ⟨g, 0, none⟩) := hf
        refine uponx_skip (w' := _) ?_ (box_step2 hz _ _) hJ' trivial
        have y0 := box_cell hz 0 _ rfl
        have y1 := box_cell hz 1 _ rfl
        have f0 := box_frozen hz 0
        have f1 := box_frozen hz 1
        have cs := cell_set
        clear hin hg hr hz hJ' e20 hf e5
        generalize (dA.keep 0).blocks.length = n1 at *
        generalize (dA.keep 0).late.length = n2 at *
        have ek : ∀ x, a.eval (.const x) = x := fun _ => rfl
        have ef : ∀ f, a.eval (.func f) = .func (.func f) #[] #[] := fun _ => rfl
        generalize a.eval = ev at *
        go_simp
        all_goals first | done | omega | (intro _; omega) | go_arith
      · refine needx_plain rfl (fun a w' dn hr hg hin => ?_)
        have e6 : ((fun _ _ => True)) (a.eval (.tmp 6)) w' := insw_on hin 5 (by kernel_rfl)
        have e22 : (DiskQ 0 dA.flush) (a.eval (.tmp 22)) w' := insw_on hin 3 (by kernel_rfl)
        obtain ⟨ab1, cb1, al1, cl1, h22, -, -⟩ := DiskP.form (DiskQ.p e22)
        obtain ⟨g, hf, hz, hJ'⟩ := TwoJ.store1 (TwoJ.symm hg) (by decide) (hr.rd 5 (by kernel_rfl)) (hr.rd 4 (by kernel_rfl)) hr.un h22
        have h6 : a.eval (.tmp 6) = .pointer (some ⟨g, 0, none⟩) := hf
        refine uponx_skip (w' := _) ?_ (box_step2 hz _ _) hJ'.symm trivial
        have y0 := box_cell hz 0 _ rfl
        have y1 := box_cell hz 1 _ rfl
        have f0 := box_frozen hz 0
        have f1 := box_frozen hz 1
        have cs := cell_set
        clear hin hg hr hz hJ' e22 hf e6
        generalize dA.flush.blocks.length = n1 at *
        generalize dA.flush.late.length = n2 at *
        have ek : ∀ x, a.eval (.const x) = x := fun _ => rfl
        have ef : ∀ f, a.eval (.func f) = .func (.func f) #[] #[] := fun _ => rfl
        generalize a.eval = ev at *
        go_simp
        all_goals first | done | omega | (intro _; omega) | go_arith
    · intro vs w' dn hdn hg ht
      obtain ⟨q19, q20, q21, q22, q5, q6, qo6, qo7, -⟩ := ht
      have r19 : vs 0 = .agg #[.slice ab 12 cb, .slice al 1 cl] := q19
      replace q20 : (DiskQ 0 (dA.keep 0)) (vs 1) w' := q20
      have r21 : vs 2 = .agg #[.slice ab 12 cb, .slice al 1 cl] := q21
      replace q22 : (DiskQ 0 dA.flush) (vs 3) w' := q22
      replace q5 : ((fun _ _ => True)) (vs 4) w' := q5
      replace q6 : ((fun _ _ => True)) (vs 5) w' := q6
      replace qo6 : ((fun _ _ => True)) (vs 6) w' := qo6
      replace qo7 : ((fun _ _ => True)) (vs 7) w' := qo7
      clear q19 q21
      simp only [putAll, Act.put, List.setIfInBounds_toArray, List.set_cons_zero, List.set_cons_succ, Nat.reduceAdd, r19, r21]
      clear r19 r21
      obtain ⟨gk, gl, vbk, vlk, vbl, vll, f5, f6, c20, c22, hxk, hxl⟩ := TwoJ.done hg (hdn 4 (by decide)) (hdn 5 (by decide)) (hdn 6 (by decide)) (hdn 7 (by decide))
      replace q20 := DiskQ.p q20
      replace q22 := DiskQ.p q22
      rw [c20] at q20
      rw [c22] at q22
      obtain ⟨x1, x2, ex, hbk, hlk⟩ := q20
      cases ex
      obtain ⟨x1, x2, ex, hbl, hll⟩ := q22
      cases ex
      rw [f5, f6]
      have g4 := hg.1
      replace hx := (g4.block _ (heap_lt hx)).trans hx
      replace hb := hb.grow g4
      replace hl := hl.grow g4
      replace hc3 := (Below.cell g4 (cell_lt hc3)).trans hc3
      replace gW := gW.trans g4
      clear hg hdn q5 q6 qo6 qo7 f5 f6 g4
      generalize vs 1 = u20
      generalize vs 3 = u22
      clear c20 c22
      obtain ⟨abk, cbk, rfl⟩ := hbk.form
      obtain ⟨alk, clk, rfl⟩ := hlk.form
      obtain ⟨abl, cbl, rfl⟩ := hbl.form
      obtain ⟨all, cll, rfl⟩ := hll.form
      have hsp := spoilP_any dA.flush 3 0 5 _ _ _ hbl hll (by rw [flushA_len]; omega) (by show 0 ≤ _; omega) flushA_block (fun x hx => by cases hx)
      obtain ⟨bk, ok, bk', ok', ck', rfl, k1, k2⟩ := block_first hbk 3 (by rw [keepA_len]; omega) _ (keepA_at _) 1 rfl
      obtain ⟨bl, ol, bl', ol', cl', rfl, l1, l2⟩ := block_first hbl 3 (by rw [flushA_len]; omega) _ (flushA_at _) 0 rfl
      have HK12 : Hid ((dA.keep 0).blocks.length = 12) := keepA_len
      have HF12 : Hid (dA.flush.blocks.length = 12) := flushA_len
      rw [keepA_len] at hxk
      rw [flushA_len] at hxl hsp
      have y0 := box_cell hxl 0 _ rfl
      have y1 := box_cell hxl 1 _ rfl
      clear hbk hlk hbl hll
      generalize (dA.keep 0).late.length = nk at *
      generalize dA.flush.late.length = nf at *
      go_wp2_with fail
      refine hsp.mono ?_
      rintro e w5 ⟨v5, rfl, hQ5, g5⟩
      obtain ⟨abs, cbs, als, cls, rfl, hbs, -⟩ := hQ5.p.form
      obtain ⟨bs, os, bs', os', cs', rfl, s1, s2⟩ := block_first hbs 3 (by rw [spoilA_len]; omega) _ (spoilA_at _) 5 rfl
      rw [spoilA_len]
      have g6 := grow_alloc w5 (.cells #[.slice (some ⟨bs, os, none⟩) 12 cbs, .slice als (dA.flush.spoil 3 0 5).late.length cls] 46)
      have hxs := heap_new w5 #[.slice (some ⟨bs, os, none⟩) 12 cbs, .slice als (dA.flush.spoil 3 0 5).late.length cls] 46
      have g56 := g5.trans g6
      replace hx := (g56.block _ (heap_lt hx)).trans hx
      replace hxk := (g56.block _ (heap_lt hxk)).trans hxk
      replace hxl := (g56.block _ (heap_lt hxl)).trans hxl
      replace hb := hb.grow g56
      replace hl := hl.grow g56
      replace hc3 := (Below.cell g56 (cell_lt hc3)).trans hc3
      replace k1 := (Below.cell g56 (cell_lt k1)).trans k1
      replace k2 := (Below.cell g56 (cell_lt k2)).trans k2
      replace l1 := (Below.cell g56 (cell_lt l1)).trans l1
      replace l2 := (Below.cell g56 (cell_lt l2)).trans l2
      replace s1 := (Below.cell g6 (cell_lt s1)).trans s1
      replace s2 := (Below.cell g6 (cell_lt s2)).trans s2
      replace gW := gW.trans g56
      clear g56 g5 g6 hsp hbs hQ5 y0 y1
      generalize (dA.flush.spoil 3 0 5).late.length = ns at *
      generalize hnb : (blk ⟨1, 0, 0, []⟩ 3).length = nb at *
      generalize hnt : (turned z16 0 5).length = nt at *
      generalize hnz : z16.length = nz at *
      obtain rfl : nb = 16 := hnb.symm.trans (blk_length _ _ (by simp))
      obtain rfl : nt = 16 := hnt.symm.trans (turned_length _ _ _)
      obtain rfl : nz = 16 := hnz.symm.trans rfl
      clear hnb hnt hnz
      have y0 := box_cell hx 0 _ rfl
      have y1 := box_cell hx 1 _ rfl
      have p0 := box_cell hxk 0 _ rfl
      have q0 := box_cell hxl 0 _ rfl
      have r0 := box_cell hxs 0 _ rfl
      have fl := field_late
      have hod := ownDisk_any dA _ _ _ hb hl (by rw [lenA]; omega) (by rw [lateA]; simp) blocksA latesA
      have u0' : ((0 : UInt8).toNat : Int) = 0 := rfl
      have u1' : ((1 : UInt8).toNat : Int) = 1 := rfl
      have u5' : ((5 : UInt8).toNat : Int) = 5 := rfl
      rw [u1'] at k2
      rw [u0'] at l2
      rw [u5'] at s2
      clear hb hl u0' u1' u5'
      go_wp2_with fail
      refine hod.mono ?_
      rintro e w6 ⟨v6, rfl, hA6, g6⟩
      obtain ⟨abo, cbo, alo, clo, rfl, -, -⟩ := hA6.q.p.form
      have hfin : dA.late.length = 1 := rfl
      rw [hfin]
      clear hfin
      go_wp2_with fail
      go_ret
      exact ⟨rfl, gW.trans g6⟩
end Go.Proofs.Ytobhchebggaipaa
