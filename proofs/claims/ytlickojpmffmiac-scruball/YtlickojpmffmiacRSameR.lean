import Derived.Test.YtlickojpmffmiacRDo
import Derived.Test.YtlickojpmffmiacRIndex
set_option maxHeartbeats 8000000
namespace Go.Proofs.Ytlickojpmffmiac
set_option maxRecDepth 100000
open Go.RowKit
open Plain Reg
def among (l : List Rec) (r : Rec) : Bool := l.any fun x => sameB x r
/-! ### What is right -/
theorem wrongD_bd {d : Dd} (h : wrongD d = 0) : 1 ≤ d.kind ∧ d.kind ≤ 3 ∧ 1 ≤ d.key ∧ d.key ≤ 255 ∧ d.data.length ≤ 8 ∧ (d.kind = 1 ∨ d.data.length = 0) := by
 unfold wrongD at h
 by_cases h1 : d.kind < 1 ∨ 3 < d.kind
 ·rw [if_pos h1] at h; omega
 ·rw [if_neg h1] at h
  generalize (if d.kind = 3 then (1 : Int) else 0) = lo at h
  generalize (if d.kind = 3 then (60000 : Int) else 0) = hi at h
  by_cases h2 : d.key < 1 ∨ 255 < d.key ∨ d.num < lo ∨ hi < d.num
  ·rw [if_pos h2] at h; omega
  ·rw [if_neg h2] at h
   by_cases h3 : 8 < d.data.length ∨ d.kind ≠ 1 ∧ d.data.length ≠ 0
   ·rw [if_pos h3] at h; omega
   ·omega
/-! ### Newer is greater -/
theorem next_from : ∀ (l : List Rec) (n : Int), n ≤ l.foldl (fun n r => if n ≤ r.ver then r.ver + 1 else n) n ∧ ∀ r ∈ l, r.ver < l.foldl (fun n r => if n ≤ r.ver then r.ver + 1 else n) n
 | [], n => ⟨Int.le_refl _, fun r h => by cases h⟩
 | x :: l, n => by
  rw [List.foldl_cons]
  obtain ⟨h1, h2⟩ := next_from l (if n ≤ x.ver then x.ver + 1 else n)
  have h3 : n ≤ (if n ≤ x.ver then x.ver + 1 else n) ∧ x.ver < (if n ≤ x.ver then x.ver + 1 else n) := by split <;> omega
  refine ⟨by omega, fun r hr => ?_⟩
  rcases List.mem_cons.1 hr with rfl | hr
  ·omega
  ·exact h2 r hr
theorem next_gt {l : List Rec} : 1 ≤ nextV l ∧ ∀ r ∈ l, r.ver < nextV l := next_from l 1
theorem made_right {d : Dd} {n : Int} (hw : wrongD d = 0) (hk : d.kind ≠ 3) (h0 : 1 ≤ n) (h1 : n ≤ 60000) : wrong (madeR d n) = 0 ∧ (madeR d n).kind ≠ 1 := by
 obtain ⟨a1, a2, a3, a4, a5, a6⟩ := wrongD_bd hw
 have hkk : d.kind = 1 ∨ d.kind = 2 := by omega
 refine ⟨?_, show 1 + d.kind ≠ 1 by omega⟩
 obtain ⟨dk, dy, dn, dd⟩ := d
 simp only at hkk a3 a4 a5 a6
 rcases hkk with rfl | rfl
 ·show wrong ⟨2, dy, n, dd⟩ = 0
  have h2 : inRangeB ⟨2, dy, n, dd⟩ = true := by simp [inRangeB]; omega
  unfold wrong
  rw [if_neg (by simp), h2, if_neg (by simp), if_neg (by simp [maxData]; omega)]
 ·have h6 : dd = [] := List.eq_nil_of_length_eq_zero (by omega)
  show wrong ⟨3, dy, n, dd⟩ = 0
  have h2 : inRangeB ⟨3, dy, n, dd⟩ = true := by simp [inRangeB]; omega
  unfold wrong
  rw [if_neg (by simp), h2, if_neg (by simp), if_neg (by simp [maxData, h6])]
/-! ### What is taken is gone -/
/-- A store. -/
structure St where
 dk : Dk
 idx : List Ent
 next : Int
def St.recs (s : St) : List Rec := s.idx.map Ent.rc
def mountS (d : Dk) : St := ⟨d.keep 0, scanE (d.keep 0) 6, 0⟩
def newS : St := mountS Dk.new
/-- A store that leans on the blocks S of memory. -/
def StoreS (S : Nat → Prop) (s : St) (v : Value) (w : World) : Prop := ∃ vb vl vi, v = .agg #[vb, vl, vi, .int .i64 s.next] ∧ BlocksS S w vb s.dk.blocks ∧ LateS S w vl s.dk.late ∧ EntsS S w vi s.idx
theorem StoreS.grow {S : Nat → Prop} {s : St} {v : Value} {w w' : World} (h : StoreS S s v w) (hg : Grow w w') : StoreS S s v w' := by
 obtain ⟨vb, vl, vi, h1, h2, h3, h4⟩ := h; exact ⟨vb, vl, vi, h1, h2.grow hg, h3.grow hg, h4.grow hg⟩
theorem StoreS.mono {S S' : Nat → Prop} {s : St} {v : Value} {w : World} (h : StoreS S s v w) (hS : ∀ b, S b → S' b) : StoreS S' s v w := by
 obtain ⟨vb, vl, vi, h1, h2, h3, h4⟩ := h; exact ⟨vb, vl, vi, h1, h2.mono hS, h3.mono hS, h4.mono hS⟩
theorem StoreS.but {S : Nat → Prop} {g : Nat} {s : St} {v : Value} {w w' : World} (h : StoreS S s v w) (hg : GrowBut g w w') (hn : ¬ S g) : StoreS S s v w' := by
 obtain ⟨vb, vl, vi, h1, h2, h3, h4⟩ := h; exact ⟨vb, vl, vi, h1, h2.but hg hn, h3.but hg hn, h4.but hg hn⟩
theorem StoreS.form {S : Nat → Prop} {s : St} {v : Value} {w : World} (h : StoreS S s v w) : ∃ ab cb al cl ai ci, v = .agg #[.slice ab s.dk.blocks.length cb, .slice al s.dk.late.length cl, .slice ai s.idx.length ci, .int .i64 s.next] ∧ BlocksS S w (.slice ab s.dk.blocks.length cb) s.dk.blocks ∧ LateS S w (.slice al s.dk.late.length cl) s.dk.late ∧ EntsS S w (.slice ai s.idx.length ci) s.idx := by
 obtain ⟨vb, vl, vi, h1, h2, h3, h4⟩ := h
 obtain ⟨ab, cb, rfl⟩ := h2.p.form
 obtain ⟨al, cl, rfl⟩ := h3.p.form
 obtain ⟨ai, ci, rfl⟩ := h4.form
 exact ⟨ab, cb, al, cl, ai, ci, h1, h2, h3, h4⟩
theorem upon_two {S : Nat → Prop} {B B' : Nat} (h : B ≤ B') : ∀ b, Upon (Upon S B) B' b → Upon S B b := fun _ hb => hb.elim (fun x => x) (fun x => .inr (Nat.le_trans h x))
theorem BlocksS.capd {S : Nat → Prop} {w : World} {v : Value} {bs : List (List UInt8)} (h : BlocksS S w v bs) : BlocksS (fun b => S b ∧ b < w.heap.size) w v bs := by
 by_cases h0 : bs = []
 ·subst h0
  rcases h with h | ⟨b, off, cap, hS, rfl, h1, hc⟩
  ·exact .inl h
  ·exact .inl ⟨_, cap, rfl, rfl, fun h => by cases h⟩
 ·rcases h with ⟨_, _, _, h1, _⟩ | ⟨b, off, cap, hS, h2, h1, hc⟩
  ·exact absurd h1 h0
  ·obtain ⟨u, k1, _⟩ := hc 0 (List.length_pos_iff.2 h0)
   exact .inr ⟨b, off, cap, ⟨hS, cell_lt k1⟩, h2, h1, fun i hi => (hc i hi).imp fun _ x => ⟨x.1, x.2.caps⟩⟩
theorem LateS.capd {S : Nat → Prop} {w : World} {v : Value} {ws : List Wr} (h : LateS S w v ws) : LateS (fun b => S b ∧ b < w.heap.size) w v ws := by
 by_cases h0 : ws = []
 ·subst h0
  rcases h with h | ⟨b, off, cap, hS, rfl, h1, hc⟩
  ·exact .inl h
  ·exact .inl ⟨_, cap, rfl, rfl, fun h => by cases h⟩
 ·rcases h with ⟨_, _, _, h1, _⟩ | ⟨b, off, cap, hS, h2, h1, hc⟩
  ·exact absurd h1 h0
  ·obtain ⟨k1, _⟩ := hc 0 (List.length_pos_iff.2 h0)
   exact .inr ⟨b, off, cap, ⟨hS, cell_lt k1⟩, h2, h1, fun i hi => ⟨(hc i hi).1, (hc i hi).2.imp fun _ x => ⟨x.1, x.2.caps⟩⟩⟩
theorem StoreS.capd {S : Nat → Prop} {s : St} {v : Value} {w : World} (h : StoreS S s v w) : StoreS (fun b => S b ∧ b < w.heap.size) s v w := by
 obtain ⟨vb, vl, vi, h1, h2, h3, h4⟩ := h; exact ⟨vb, vl, vi, h1, h2.capd, h3.capd, h4.caps (by decide)⟩
/-- What is asked of a disk that is mounted. -/
theorem Dk.Fine.small {n : Nat} {d : Dk} (h : d.Fine n) (hn : n ≤ 1000) : d.blocks.length ≤ 256 ∧ d.late.length ≤ 999990 := ⟨by rw [h.len]; omega, by have := h.few; omega⟩
/-! ### Records -/
theorem news4 (w : World) (x y z u : Value) (e : TypeId) (j : Nat) (c : Value) (h : [x, y, z, u][j]? = some c) : (w.alloc (.cells #[x, y, z, u] e)).cell? ((⟨w.heap.size, 0, none⟩ : Addr).add j) = some c := by
 match j, h with
 | 0, h => simp at h; subst h; simp [Addr.add]
 | 1, h => simp at h; subst h; simp [Addr.add]
 | 2, h => simp at h; subst h; simp [Addr.add]
 | 3, h => simp at h; subst h; simp [Addr.add]
 | j + 4, h => simp at h
theorem rrecords_any (S : Nat → Prop) (s : St) (v : Value) (w : World) (hS : ∀ b, S b → b < w.heap.size) (hs : StoreS S s v w) (hn : s.idx.length ≤ 1000) :
  Calls Try.prog 55 #[v] w fun r w' => ∃ v', r = .returned v' ∧ RecsS (Upon S w.heap.size) w' v' s.recs ∧ Grow w w' := by
 obtain ⟨i0, hif, hz0, hz1, hz2⟩ := info_parts info_rcd
 obtain ⟨ab, cb, al, cl, ai, ci, rfl, -, -, hi⟩ := hs.form
 have g0 := grow_alloc w (.cells #[.slice ab s.dk.blocks.length cb, .slice al s.dk.late.length cl, .slice ai s.idx.length ci, .int .i64 s.next] 30)
 have hx := heap_new w #[.slice ab s.dk.blocks.length cb, .slice al s.dk.late.length cl, .slice ai s.idx.length ci, .int .i64 s.next] 30
 have x2 := box_cell hx 2 _ rfl
 clear hs
 have HLN : Hid (s.recs.length = s.idx.length) := List.length_map ..
 go_enter Try.func55, Try.ntmps55
 go_wp2_with fail
 generalize World.alloc w _ = W at *
 clear x2 hx
 go_loopw [3, 9] (fun o i wr => ∃ (k : Nat) (css : List (List Value)), k ≤ s.idx.length ∧ i = .int .i64 (k : Int) ∧ OutR recShape S w.heap.size o (s.recs.take k) css wr ∧ Grow w wr) (fun _ i _ => s.idx.length - (intOf i).toNat)
 case atStart => exact ⟨0, [], Nat.zero_le _, rfl, OutR.nil _ _ _ _, g0⟩
 case round =>
  clear g0
  obtain ⟨k, css, hk, rfl, hR, hg⟩ := hrel
  by_cases hlt : k < s.idx.length
  ·obtain ⟨b, off, a1, c1, hv1, q0, q1, q2, q3, q4, hu⟩ := ents_at (hi.grow hg) k hlt
   cases hv1
   have hxl : (s.recs.take k).length ≤ 1000 := by rw [List.length_take, HLN.out]; omega
   have HT : Hid (s.recs.take (k + 1) = s.recs.take k ++ [s.idx[k].rc]) := by
    show _ = _
    rw [List.take_succ_eq_append_getElem (by rw [HLN.out]; exact hlt)]
    simp [St.recs]
   generalize s.idx[k] = x at *
   generalize s.recs.take k = xs at *
   obtain ⟨a0, c0, rfl⟩ := hR.form
   have g1 := grow_alloc wr (.cells #[.int .i64 x.rc.kind, .int .i64 x.rc.key, .int .i64 x.rc.ver, .slice a1 x.rc.data.length c1, .int .i64 x.pair] 70)
   have hX1 := heap_new wr #[.int .i64 x.rc.kind, .int .i64 x.rc.key, .int .i64 x.rc.ver, .slice a1 x.rc.data.length c1, .int .i64 x.pair] 70
   have hR3 := hR.grow g1
   have hu3 := hu.grow g1
   have gw3 := hg.trans g1
   have s3 := World.size_alloc wr (.cells #[.int .i64 x.rc.kind, .int .i64 x.rc.key, .int .i64 x.rc.ver, .slice a1 x.rc.data.length c1, .int .i64 x.pair] 70)
   have HSZ : Hid (w.heap.size ≤ wr.heap.size) := hg.size
   clear hR hu hg g1
   obtain ⟨x0, x1, x2, x3⟩ := box4 hX1 rfl rfl rfl rfl
   have hnew : ∀ (j : Nat) u, ([.int .i64 x.rc.kind, .int .i64 x.rc.key, .int .i64 x.rc.ver, .slice a1 x.rc.data.length c1] : List Value)[j]? = some u → ((wr.alloc (.cells #[.int .i64 x.rc.kind, .int .i64 x.rc.key, .int .i64 x.rc.ver, .slice a1 x.rc.data.length c1, .int .i64 x.pair] 70)).alloc (.cells #[.int .i64 x.rc.kind, .int .i64 x.rc.key, .int .i64 x.rc.ver, .slice a1 x.rc.data.length c1] 66)).cell? ((⟨wr.heap.size + 1, 0, none⟩ : Addr).add j) = some u := fun j u hj => by rw [← s3]; exact news4 _ _ _ _ _ 66 j u hj
   clear s3 hX1
   go_wp2_with (first | (at_builtin; refine wpList_append_own _ rfl (.tmp 13) (.tmp 16) 84 rfl (w.heap.size) 66 i0 (.agg #[.int .i64 0, .int .i64 0, .int .i64 0, .slice none 0 0]) 4 48 Try.underlying84 hif hz0 hz1 hz2 rfl (by decide) (.slice a0 xs.length c0) _ _ rfl (hR3.row.alloc _) ⟨wr.heap.size + 1, 0, none⟩ 1 1 [.int .i64 x.rc.kind, .int .i64 x.rc.key, .int .i64 x.rc.ver, .slice a1 x.rc.data.length c1] rfl rfl hnew (by intro u hu; simp at hu; rcases hu with rfl | rfl | rfl | rfl <;> rfl) (by unfold maxLen; omega) (by omega) (by have := HSZ.out; simp; omega) ?_; intro v4 w4 hown4 hgrow4 _; have hR6 := hR3.step (x := x.rc) (by decide) hS ⟨_, rfl, hu3.mono (fun _ h => .inl h)⟩ hgrow4 hown4; have g6 : Grow w w4 := grow_of_grown (gw3.trans (grow_alloc _ _)) hgrow4 (fun k hk => (hR3.row.lt k hk).1); have hsl := own_slice2 hown4; obtain ⟨a4, c4, hv4⟩ := hsl; subst hv4; clear hgrow4 hown4 hR3 hnew gw3))
   go_roundw
   case rel => exact ⟨k + 1, _, by omega, by go_num, by rw [HT.out]; exact hR6, g6⟩
   case measure => simp [intOf]; omega
  ·have hE := hR.slice
   rw [List.take_of_length_le (by rw [HLN.out]; omega)] at hE
   clear hR hi
   obtain ⟨a4, c4, rfl⟩ := hE.form
   go_wp2_with fail
   go_ret
   exact ⟨_, rfl, hE, hg⟩
end Go.Proofs.Ytlickojpmffmiac
