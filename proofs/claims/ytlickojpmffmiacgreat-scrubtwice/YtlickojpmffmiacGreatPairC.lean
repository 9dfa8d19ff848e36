import Derived.Test.YtlickojpmffmiacGreatRMend
import Derived.Test.YtlickojpmffmiacGreatPKeep
import Derived.Test.YtlickojpmffmiacGreatJRd
set_option maxHeartbeats 8000000
namespace Go.Proofs.YtlickojpmffmiacGreat
set_option maxRecDepth 100000
open Go.RowKit
open Plain Reg
/-- A disk that leans on the blocks S of memory. -/
def DiskS (S : Nat → Prop) (d : Dk) (v : Value) (w : World) : Prop := ∃ vb vl, v = .agg #[vb, vl] ∧ BlocksS S w vb d.blocks ∧ LateS S w vl d.late
theorem DiskS.grow {S : Nat → Prop} {d : Dk} {v : Value} {w w' : World} (h : DiskS S d v w) (hg : Grow w w') : DiskS S d v w' := by
 obtain ⟨vb, vl, h1, h2, h3⟩ := h; exact ⟨vb, vl, h1, h2.grow hg, h3.grow hg⟩
theorem DiskS.mono {S S' : Nat → Prop} {d : Dk} {v : Value} {w : World} (h : DiskS S d v w) (hS : ∀ b, S b → S' b) : DiskS S' d v w := by
 obtain ⟨vb, vl, h1, h2, h3⟩ := h; exact ⟨vb, vl, h1, h2.mono hS, h3.mono hS⟩
theorem DiskS.but {S : Nat → Prop} {g : Nat} {d : Dk} {v : Value} {w w' : World} (h : DiskS S d v w) (hg : GrowBut g w w') (hn : ¬ S g) : DiskS S d v w' := by
 obtain ⟨vb, vl, h1, h2, h3⟩ := h; exact ⟨vb, vl, h1, h2.but hg hn, h3.but hg hn⟩
theorem DiskS.p {S : Nat → Prop} {d : Dk} {v : Value} {w : World} (h : DiskS S d v w) : DiskP d v w := by
 obtain ⟨vb, vl, h1, h2, h3⟩ := h; exact ⟨vb, vl, h1, h2.p, h3.p⟩
theorem DiskP.s {d : Dk} {v : Value} {w : World} (h : DiskP d v w) : DiskS (fun b => b < w.heap.size) d v w := by
 obtain ⟨vb, vl, h1, h2, h3⟩ := h; exact ⟨vb, vl, h1, h2.s, h3.s⟩
theorem DiskS.form {S : Nat → Prop} {d : Dk} {v : Value} {w : World} (h : DiskS S d v w) : ∃ ab cb al cl, v = .agg #[.slice ab d.blocks.length cb, .slice al d.late.length cl] ∧ BlocksS S w (.slice ab d.blocks.length cb) d.blocks ∧ LateS S w (.slice al d.late.length cl) d.late := by
 obtain ⟨vb, vl, h1, h2, h3⟩ := h
 obtain ⟨ab, cb, rfl⟩ := h2.p.form
 obtain ⟨al, cl, rfl⟩ := h3.p.form
 exact ⟨ab, cb, al, cl, h1, h2, h3⟩
/-- A disk all rows of which are its own leans on what is new. -/
theorem DiskQ.s {B : Nat} {d : Dk} {v : Value} {w : World} (S : Nat → Prop) (h : DiskQ B d v w) : DiskS (Upon S B) d v w := by
 obtain ⟨vb, vl, h1, ⟨us, h2⟩, ⟨ut, h3⟩⟩ := h
 refine ⟨vb, vl, h1, ?_, ?_⟩
 ·rcases h2.row.2 with ⟨rfl, h0⟩ | ⟨q, cap, cur, rfl, hb, hh, k1, k2, k3, k4⟩
  ·exact .inl ⟨none, 0, rfl, List.eq_nil_of_length_eq_zero h0, fun _ => rfl⟩
  ·refine .inr ⟨q, 0, cap, .inr hb, rfl, k1, fun i hi => ?_⟩
   have c0 := h2.row.cellAt i (by omega)
   obtain ⟨u, hu1, hu2⟩ := h2.each i hi
   rw [hu1] at c0
   exact ⟨u, by rw [Nat.zero_add]; exact c0, own_s S hu2⟩
 ·exact (late_own (S := Upon S B) h3.row h3.len (fun i hi => (h3.each i hi).imp fun _ hu => ⟨hu.1, own_s S hu.2⟩)).mono (fun b hb => hb.elim (fun x => x) .inr)
/-- A disk as the document has them, of at most n late writes. -/
structure Dk.Fine (n : Nat) (d : Dk) : Prop where
 len : d.blocks.length = 12
 few : d.late.length ≤ n
 block : ∀ x ∈ d.blocks, x.length = 16
 late : ∀ x ∈ d.late, x.2.length = 16
 place : ∀ x ∈ d.late, 0 ≤ x.1 ∧ x.1 < 12
theorem Dk.Fine.mono {n m : Nat} {d : Dk} (h : d.Fine n) (hm : n ≤ m) : d.Fine m := ⟨h.len, Nat.le_trans h.few hm, h.block, h.late, h.place⟩
theorem Dk.Fine.b16 {n : Nat} {d : Dk} (h : d.Fine n) : ∀ x ∈ d.blocks, x.length ≤ 1000 := fun x hx => by rw [h.block x hx]; omega
theorem Dk.Fine.l16 {n : Nat} {d : Dk} (h : d.Fine n) : ∀ x ∈ d.late, x.2.length ≤ 1000 := fun x hx => by rw [h.late x hx]; omega
theorem Dk.Fine.pl {n : Nat} {d : Dk} (h : d.Fine n) : ∀ x ∈ d.late, 0 ≤ x.1 ∧ x.1 < (d.blocks.length : Int) := fun x hx => by rw [h.len]; exact h.place x hx
theorem Dk.Fine.pair {n : Nat} {d : Dk} (h : d.Fine n) (p : Int) (r : Rec) : (d.pairD p r).Fine (n + 2) := by
 unfold Dk.pairD
 by_cases he : d.pairE p r = 0
 ·rw [if_pos he]
  unfold Dk.pairE at he
  by_cases ho : p < 0 ∨ ((d.blocks.length / 2 : Nat) : Int) ≤ p
  ·rw [if_pos ho] at he; omega
  ·rw [if_neg ho] at he
   have hl := (right_bd he).2.2.2.2.2.2
   have h12 := h.len
   rw [h12] at ho
   refine ⟨h.len, by show (d.late ++ [_, _]).length ≤ _; have := h.few; simp; omega, h.block, fun x hx => ?_, fun x hx => ?_⟩
   ·rcases List.mem_append.1 (show x ∈ d.late ++ [_, _] from hx) with h1 | h1
    ·exact h.late x h1
    ·rcases List.mem_cons.1 h1 with rfl | h2
     ·exact blk_length r _ hl
     ·rw [List.mem_singleton.1 h2]; exact blk_length r _ hl
   ·rcases List.mem_append.1 (show x ∈ d.late ++ [_, _] from hx) with h1 | h1
    ·exact h.place x h1
    ·rcases List.mem_cons.1 h1 with rfl | h2
     ·show 0 ≤ 2 * p ∧ 2 * p < 12; omega
     ·rw [List.mem_singleton.1 h2]; show 0 ≤ 2 * p + 1 ∧ 2 * p + 1 < 12; omega
 ·rw [if_neg he]; exact h.mono (by omega)
theorem Dk.Fine.mend {n : Nat} {d : Dk} (h : d.Fine n) (p : Int) : (d.mendD p).Fine (n + 2) := by
 unfold Dk.mendD
 split
 ·exact h.pair p _
 ·exact h.mono (by omega)
theorem Dk.Fine.keep {n : Nat} {d : Dk} (h : d.Fine n) (on : Nat → Bool) : ∀ k, k ≤ d.late.length → ∀ x ∈ d.keepTo on k, x.length = 16
 | 0, _ => h.block
 | k + 1, hk => by
  have ih := keep h on k (by omega)
  show ∀ x ∈ (if on k = true then _ else _ : List (List UInt8)), x.length = 16
  split
  ·intro x hx
   rcases List.mem_or_eq_of_mem_set hx with h1 | h1
   ·exact ih x h1
   ·rw [h1, getD_at _ _ _ (by omega)]; exact h.late _ (List.getElem_mem _)
  ·exact ih
theorem Dk.Fine.kept {n : Nat} {d : Dk} (h : d.Fine n) (bt : Int) : (d.keep bt).Fine 0 :=
 ⟨(d.keepTo_length _ _).trans h.len, Nat.le_refl _, h.keep _ _ (Nat.le_refl _), (fun x hx => by cases hx), (fun x hx => by cases hx)⟩
theorem Dk.Fine.flush {n : Nat} {d : Dk} (h : d.Fine n) : d.flush.Fine 0 :=
 ⟨(d.keepTo_length _ _).trans h.len, Nat.le_refl _, h.keep _ _ (Nat.le_refl _), (fun x hx => by cases hx), (fun x hx => by cases hx)⟩
theorem Dk.Fine.spoil {n : Nat} {d : Dk} (h : d.Fine n) (a k y : Int) : (d.spoil a k y).Fine n := by
 unfold Dk.spoil
 split
 ·rename_i ha
  refine ⟨by rw [List.length_set]; exact h.len, h.few, fun x hx => ?_, h.late, h.place⟩
  rcases List.mem_or_eq_of_mem_set hx with h1 | h1
  ·exact h.block x h1
  ·rw [h1, turned_length, getD_at _ _ _ (by omega)]; exact h.block _ (List.getElem_mem _)
 ·exact h
theorem new_fine : Dk.new.Fine 0 :=
 ⟨rfl, Nat.le_refl _, fun x hx => by
  obtain ⟨i, hi, rfl⟩ := List.mem_iff_getElem.1 hx
  rw [new_at i hi]; exact blk_length _ _ (by simp), (fun x hx => by cases hx), (fun x hx => by cases hx)⟩
/-! ### The document's answers, told of disks -/
theorem Dk.pairD_blocks (d : Dk) (p : Int) (r : Rec) : (d.pairD p r).blocks = d.blocks := by unfold Dk.pairD; split <;> rfl
theorem Dk.mendD_blocks (d : Dk) (p : Int) : (d.mendD p).blocks = d.blocks := by
 unfold Dk.mendD; split
 ·exact d.pairD_blocks p _
 ·rfl
theorem rsame_c (s t : Dk) (v u : Value) (w : World) (hs : DiskP s v w) (ht : DiskP t u w) (hm : s.blocks.length ≤ 1000000) (hm2 : s.late.length ≤ 1000000) : Calls Tryz.prog 22 #[v, u] w fun e w' => e = .returned (.bool (s.same t)) ∧ Grow w w' := by
 obtain ⟨vb, vl, rfl, h1, h2⟩ := hs
 obtain ⟨ub, ul, rfl, h3, h4⟩ := ht
 exact sameDisk_any s t vb vl ub ul w h1 h2 h3 h4 (by omega) (by omega)
theorem rlook_c (d : Dk) (p : Int) (v : Value) (w : World) (hd : DiskP d v w) (hlen : d.blocks.length ≤ 256) (hm : d.late.length ≤ 999990) :
  Calls Tryz.prog 25 #[v, .int .i64 p] w fun e w' => ∃ dv, e = .returned (.tuple #[.int .i64 (d.how p), .agg #[.int .i64 (d.tell p).kind, .int .i64 (d.tell p).key, .int .i64 (d.tell p).ver, dv]]) ∧ w'.ownsRow w.heap.size 5 1 dv (d.tell p).data.length ((d.tell p).data.map bv) ∧ Grow w w' := by
 obtain ⟨vb, vl, rfl, h1, h2⟩ := hd
 exact look_any _ d p vb vl w h1.s h2.s hlen hm
theorem rputPair_c (S : Nat → Prop) (d : Dk) (p k y n : Int) (l : List UInt8) (v u : Value) (w : World) (hS : ∀ b, S b → b < w.heap.size) (hd : DiskS S d v w) (hu : Bytes w u l) (hlen : d.blocks.length ≤ 256) (hm : d.late.length ≤ 999990) :
  Calls Tryz.prog 39 #[v, .int .i64 p, .agg #[.int .i64 k, .int .i64 y, .int .i64 n, u]] w fun e w' => ∃ v', e = .returned (.tuple #[v', .int .i64 (d.pairE p ⟨k, y, n, l⟩)]) ∧ DiskS (Upon S w.heap.size) (d.pairD p ⟨k, y, n, l⟩) v' w' ∧ Grow w w' := by
 obtain ⟨vb, vl, rfl, h1, h2⟩ := hd
 refine (putPair_any S d p k y n l vb vl u w hS h1.p h2 hu hlen hm).mono fun e w' ⟨vl', h3, h4, h5⟩ => ⟨_, h3, ⟨vb, vl', rfl, ?_, h4⟩, h5⟩
 rw [d.pairD_blocks]; exact (h1.grow h5).mono upon_l
theorem rmend_c (S : Nat → Prop) (d : Dk) (p : Int) (v : Value) (w : World) (hS : ∀ b, S b → b < w.heap.size) (hd : DiskS S d v w) (hlen : d.blocks.length ≤ 256) (hm : d.late.length ≤ 999990) :
  Calls Tryz.prog 19 #[v, .int .i64 p] w fun e w' => ∃ v', e = .returned (.tuple #[v', .int .i64 (d.how p)]) ∧ DiskS (Upon S w.heap.size) (d.mendD p) v' w' ∧ Grow w w' := by
 obtain ⟨vb, vl, rfl, h1, h2⟩ := hd
 refine (mend_any S d p vb vl w hS h1 h2 hlen hm).mono fun e w' ⟨vl', h3, h4, h5⟩ => ⟨_, h3, ⟨vb, vl', rfl, ?_, h4⟩, h5⟩
 rw [d.mendD_blocks]; exact (h1.grow h5).mono upon_l
theorem rflush_c (S : Nat → Prop) (n : Nat) (d : Dk) (v : Value) (w : World) (hS : ∀ b, S b → b < w.heap.size) (hd : DiskS S d v w) (hF : d.Fine n) (hn : n ≤ 1000) :
  Calls Tryz.prog 20 #[v] w fun e w' => ∃ v', e = .returned v' ∧ DiskS (Upon S w.heap.size) d.flush v' w' ∧ Grow w w' := by
 obtain ⟨vb, vl, rfl, h1, h2⟩ := hd
 have h12 := hF.len
 have hfw := hF.few
 exact (flush_any S d vb vl w hS h1 h2 (by omega) (by omega) (fun x hx => (hF.place x hx).1)).mono fun e w' ⟨vb', h3, h4, h5⟩ => ⟨_, h3, ⟨vb', _, rfl, h4, .inl ⟨none, 0, rfl, rfl, fun _ => rfl⟩⟩, h5⟩
theorem rkeep_c (S : Nat → Prop) (n : Nat) (d : Dk) (bt : Int) (v : Value) (w : World) (hS : ∀ b, S b → b < w.heap.size) (hd : DiskS S d v w) (hF : d.Fine n) (hn : n ≤ 1000) :
  Calls Tryz.prog 31 #[v, .int .i64 bt] w fun e w' => ∃ v', e = .returned v' ∧ DiskS (Upon S w.heap.size) (d.keep bt) v' w' ∧ Grow w w' := by
 obtain ⟨vb, vl, rfl, h1, h2⟩ := hd
 have h12 := hF.len
 have hfw := hF.few
 exact (keep_any S d bt vb vl w hS h1 h2 (by omega) (by omega) (by omega) hF.pl).mono fun e w' ⟨vb', h3, h4, h5⟩ => ⟨_, h3, ⟨vb', _, rfl, h4, .inl ⟨none, 0, rfl, rfl, fun _ => rfl⟩⟩, h5⟩
theorem rspoil_c (S : Nat → Prop) (n : Nat) (d : Dk) (a k y : Int) (v : Value) (w : World) (hS : ∀ b, S b → b < w.heap.size) (hd : DiskS S d v w) (hF : d.Fine n) :
  Calls Tryz.prog 27 #[v, .int .i64 a, .int .i64 k, .int .i64 y] w fun e w' => ∃ v', e = .returned v' ∧ DiskS (Upon S w.heap.size) (d.spoil a k y) v' w' ∧ Grow w w' := by
 obtain ⟨vb, vl, rfl, h1, h2⟩ := hd
 have h12 := hF.len
 refine (spoil_any S d a k y vb vl w hS h1 h2 (by omega) hF.b16).mono fun e w' ⟨vb', h3, h4, h5⟩ => ⟨_, h3, ⟨vb', vl, rfl, h4, ?_⟩, h5⟩
 rw [(d.spoil_len a k y).2]; exact (h2.grow h5).mono upon_l
theorem rnew_c (S : Nat → Prop) (w : World) : Calls Tryz.prog 29 #[] w fun e w' => ∃ v, e = .returned v ∧ DiskS (Upon S w.heap.size) Dk.new v w' ∧ Grow w w' :=
 (newDisk_any w).mono fun _ _ ⟨v, h1, h2, h3⟩ => ⟨v, h1, h2.s S, h3⟩
def PutC : Prop := ∀ (S : Nat → Prop) (d : Dk) (p k y n : Int) (l : List UInt8) (v u : Value) (w : World), (∀ b, S b → b < w.heap.size) → d.Fine 900 → DiskS S d v w → Bytes w u l →
 Calls Tryz.prog 34 #[v, .int .i64 p, .agg #[.int .i64 k, .int .i64 y, .int .i64 n, u]] w fun e w' => ∃ v', e = .returned (.tuple #[v', .int .i64 (d.pairE p ⟨k, y, n, l⟩)]) ∧ DiskS (Upon S w.heap.size) (d.pairD p ⟨k, y, n, l⟩) v' w' ∧ Grow w w'
def MendC : Prop := ∀ (S : Nat → Prop) (d : Dk) (p : Int) (v : Value) (w : World), (∀ b, S b → b < w.heap.size) → d.Fine 900 → DiskS S d v w →
 Calls Tryz.prog 15 #[v, .int .i64 p] w fun e w' => ∃ D v' h, e = .returned (.tuple #[v', .int .i64 h]) ∧ DiskS (Upon S w.heap.size) D v' w' ∧ Grow w w' ∧ (0 ≤ p → p < 6 → h = d.how p ∧ D = d.mendD p) ∧ D.blocks.length ≤ 1000 ∧ D.late.length ≤ 2000
theorem pread_any (d : Dk) (a : Int) (v : Value) (w : World) (hF : d.Fine 1000) (hd : DiskP d v w) (h0 : 0 ≤ a) (h1 : a < 12) :
  Calls Tryz.prog 46 #[v, .int .i64 a] w fun e w' => ∃ dv, e = .returned (.tuple #[.agg #[.int .i64 (readR (sideB d a) a).kind, .int .i64 (readR (sideB d a) a).key, .int .i64 (readR (sideB d a) a).ver, dv], .int .i64 (sideE d a)]) ∧ w'.ownsRow w.heap.size 5 1 dv (readR (sideB d a) a).data.length ((readR (sideB d a) a).data.map bv) ∧ Grow w w' := by
 obtain ⟨ab, cb, al, cl, rfl, hb, hl⟩ := hd.form
 rw [show sideE d a = readE (sideB d a) a from rfl]
 obtain ⟨r, hr⟩ : ∃ r, r = readR (sideB d a) a := ⟨_, rfl⟩
 obtain ⟨E, hE⟩ : ∃ E, E = readE (sideB d a) a := ⟨_, rfl⟩
 rw [← hr, ← hE]
 have HR : Hid _ := hr
 have HX : Hid _ := hE
 clear hr hE
 have HE : Hid (d.getE a = 0) := by show d.getE a = 0; unfold Dk.getE; rw [if_neg (by rw [hF.len]; omega)]
 have hb16 := hF.b16
 have hl16 := hF.l16
 have hm2 : d.late.length ≤ 999990 := by have := hF.few; omega
 have gW := grow_alloc2 w (.cells #[.slice ab d.blocks.length cb, .slice al d.late.length cl] 26) (.cells #[.int .i64 0, .int .i64 0, .int .i64 0, .slice none 0 0] 62)
 have hz : ((w.alloc (.cells #[.slice ab d.blocks.length cb, .slice al d.late.length cl] 26)).alloc (.cells #[.int .i64 0, .int .i64 0, .int .i64 0, .slice none 0 0] 62)).heap[w.heap.size + 1]? = some (.cells #[.int .i64 0, .int .i64 0, .int .i64 0, .slice none 0 0] 62 (0, 0)) := by
  have h := heap_new (w.alloc (.cells #[.slice ab d.blocks.length cb, .slice al d.late.length cl] 26)) #[.int .i64 0, .int .i64 0, .int .i64 0, .slice none 0 0] 62
  rw [World.size_alloc] at h
  exact h
 have hbW := hb.grow gW
 have hlW := hl.grow gW
 clear hd hF hb hl h0 h1
 go_enter Tryz.func46, Tryz.ntmps46
 go_wp2_with fail
 refine (get_any d a _ _ _ hbW hlW hm2 hb16 hl16).mono ?_
 rw [HE.out]
 rintro e w1 ⟨v1, rfl, ho, g1⟩
 have hv : Bytes w1 v1 (sideB d a) := bytes_own ho
 obtain ⟨a1, c1, rfl⟩ := own_slice ho
 have hz1 := (g1.block _ (heap_lt hz)).trans hz
 have gw1 := gW.trans g1
 have hsz1 : w.heap.size + 1 < w1.heap.size := heap_lt hz1
 clear ho g1 gW hz hbW hlW hb16 hl16 hm2 HE
 go_wp2_with fail
 refine (read_any (sideB d a) a _ _ hv).mono ?_
 rw [← HR.out, ← HX.out]
 rintro e w2 ⟨dv, rfl, ho2, g2⟩
 have hz2 := (g2.block _ (heap_lt hz1)).trans hz1
 have gw2 := gw1.trans g2
 obtain ⟨a2, c2, rfl⟩ := own_slice ho2
 obtain ⟨hp1, hp2⟩ := box_put hz2 (.int .i64 r.kind) (.int .i64 r.key) (.int .i64 r.ver) (.slice a2 r.data.length c2)
 have gE := hp2.grow gw2 (by omega)
 have hoE := own_mono (own_other hp2 (by omega) ho2) (base' := w.heap.size) (by omega)
 obtain ⟨y0, y1, y2, y3⟩ := box4 hz2 rfl rfl rfl rfl
 obtain ⟨f0, f1, f2, f3⟩ := boxf4 hz2
 have cs := cell_set
 clear hp1 hp2 hz1 hz2 gw1 gw2 g2 ho2 hv hsz1
 go_wp2_with fail
 exact bodyPost_ret (v := .tuple #[.agg #[.int .i64 r.kind, .int .i64 r.key, .int .i64 r.ver, .slice a2 r.data.length c2], .int .i64 E]) (by simp [results, Tryz.results46, go_sem, y0, y1, y2, y3, cs]) rfl ⟨_, rfl, hoE, gE⟩
theorem each_out (K : Nat) (caps : Array Value) (p : Int) (w : World) (h : p < 0 ∨ 6 ≤ p) :
  Calls Tryz.prog 44 #[.int .i64 p, .func (.func K) #[] caps] w fun e w' => e = .returned (.int .i64 3) ∧ w = w' := by
 by_cases h0 : p < 0
 ·clear h
  go_enter Tryz.func44, Tryz.ntmps44
  go_wp2_with fail
  go_ret
  exact ⟨rfl, rfl⟩
 ·have h1 : 6 ≤ p := by omega
  have h2 : 0 ≤ p := by omega
  clear h h0
  go_enter Tryz.func44, Tryz.ntmps44
  go_wp2_with fail
  go_ret
  exact ⟨rfl, rfl⟩
theorem each_any (K : Nat) (caps : Array Value) (p : Int) (w : World) (h0 : 0 ≤ p) (h1 : p < 6) (hK : ∀ (args : Array Value) (w : World), (callFunc K args).run Tryz.prog w = .ok (.enter K args) w) (I : Nat → World → Prop) (F : Int → World → Prop) (hI : I 0 w)
  (hc : ∀ (n : Nat) (w : World), n < 2 → I n w → Calls Tryz.prog K (#[.int .i64 (p * 2 + (n : Int))] ++ caps) w fun e w' => ∃ E : Int, e = .returned (.int .i64 E) ∧ (E = 0 → I (n + 1) w') ∧ (E ≠ 0 → F E w')) :
  Calls Tryz.prog 44 #[.int .i64 p, .func (.func K) #[] caps] w fun e w' => ∃ E : Int, e = .returned (.int .i64 E) ∧ (E = 0 → I 2 w') ∧ (E ≠ 0 → F E w') := by
 go_enter Tryz.func44, Tryz.ntmps44
 go_wp2_with fail
 go_loopw [13] (fun i wr => ∃ k : Nat, k ≤ 2 ∧ i = .int .i64 k ∧ I k wr) (fun i _ => 2 - (intOf i).toNat)
 case atStart => exact ⟨0, by omega, rfl, hI⟩
 case round =>
  obtain ⟨k, hk, rfl, hIk⟩ := hrel
  by_cases hlt : k < 2
  ·go_wp2_with fail
   refine (hc k _ hlt hIk).mono ?_
   rintro e w1 ⟨E, rfl, hE0, hE1⟩
   by_cases hE : E = 0
   ·subst hE
    have hI1 := hE0 rfl
    clear hE0 hE1
    go_wp2_with fail
    go_roundw
    case rel => exact ⟨k + 1, by omega, by go_num, hI1⟩
    case measure => simp [intOf]; omega
   ·have d0 : (E != 0) = true := by simp [hE]
    have hF := hE1 hE
    clear hE0 hE1
    go_wp2_with fail
    go_ret
    exact ⟨E, rfl, fun h => absurd h hE, fun _ => hF⟩
  ·have hk2 : k = 2 := by omega
   subst hk2
   go_wp2_with fail
   go_ret
   exact ⟨0, rfl, fun _ => hIk, fun h => absurd rfl h⟩
end Go.Proofs.YtlickojpmffmiacGreat
