/-
  What slices.IndexFunc, ContainsFunc and the program's among and Same tell of records.
  Condition: they lie in memory, at most a million of each.
-/
import Derived.Test.YtgaecpdokgklpabMdlC
namespace Go.Proofs.Ytgaecpdokgklpab
set_option maxRecDepth 100000
open Go.RowKit
open Go.Proofs.Ytgaecpdokgklpab.Plain Go.Proofs.Ytgaecpdokgklpab.Reg

def idxI : Option Nat → Int
 | none => -1
 | some i => (i : Int)
theorem idxI_any (P : Rec → Bool) (l : List Rec) : decide (0 ≤ idxI (l.findIdx? P)) = l.any P := by
 cases h : l.findIdx? P with
 | none =>
  have h2 := List.findIdx?_eq_none_iff.1 h
  have : l.any P = false := by rw [List.any_eq_false]; intro x hx; rw [h2 x hx]; simp
  rw [this]; rfl
 | some i =>
  obtain ⟨h2, h3, -⟩ := List.findIdx?_eq_some_iff_getElem.1 h
  have : l.any P = true := by rw [List.any_eq_true]; exact ⟨l[i], List.getElem_mem h2, h3⟩
  rw [this]
  exact decide_eq_true (show (0 : Int) ≤ (i : Int) by omega)

set_option maxHeartbeats 1000000 in
theorem indexR_any (K : Nat) (caps : Array Value) (P : Rec → Bool) (S : Nat → Prop) (l : List Rec) (v : Value) (w : World) (hK : ∀ (args : Array Value) (w : World), (callFunc K args).run Try.prog w = .ok (.enter K args) w) (hl : RecsS S w v l) (hn : l.length ≤ 1000000)
  (hc : ∀ (x : Rec) (a : Option Addr) (c : Nat) (w' : World), x ∈ l → Grow w w' → BytesS S w' (.slice a x.data.length c) x.data → Calls Try.prog K (#[.agg #[.int .i64 x.kind, .int .i64 x.key, .int .i64 x.ver, .slice a x.data.length c]] ++ caps) w' fun e w2 => e = .returned (.bool (P x)) ∧ Grow w' w2) :
  Calls Try.prog 83 #[v, .func (.func K) #[] caps] w fun e w' => e = .returned (.int .i64 (idxI (l.findIdx? P))) ∧ Grow w w' := by
 obtain ⟨ao, cp, rfl⟩ := hl.form
 obtain ⟨R, hR⟩ : ∃ R, R = idxI (l.findIdx? P) := ⟨_, rfl⟩
 rw [← hR]
 have HR : Hid _ := hR
 clear hR
 go_enter Try.func83, Try.ntmps83
 go_wp2_with fail
 go_loopw [8] (fun i wr => ∃ k : Nat, k ≤ l.length ∧ i = .int .i64 k ∧ Hid (∀ x ∈ l.take k, P x = false) ∧ Grow w wr) (fun i _ => l.length - (intOf i).toNat)
 case atStart => exact ⟨0, Nat.zero_le _, rfl, (by show ∀ _, _; simp), Grow.refl _⟩
 case round =>
  obtain ⟨k, hk, rfl, HN, hg⟩ := hrel
  by_cases hlt : k < l.length
  ·obtain ⟨b, off, a1, c1, hv1, q0, q1, q2, q3, hu⟩ := recs_at (hl.grow hg) k hlt
   cases hv1
   have HM : Hid (l[k] ∈ l) := List.getElem_mem hlt
   have HF : Hid (P l[k] = true → R = (k : Int)) := fun h => by rw [HR.out, find_first hlt HN.out h]; rfl
   have HT : Hid (P l[k] = false → ∀ x ∈ l.take (k + 1), P x = false) := fun h x hx => by
    rw [List.take_succ_eq_append_getElem hlt] at hx
    rcases List.mem_append.1 hx with h1 | h1
    ·exact HN.out x h1
    ·rw [List.mem_singleton.1 h1]; exact h
   generalize l[k] = x at *
   go_wp2_with fail
   refine (hc x a1 c1 _ HM.out hg hu).mono ?_
   rintro e w2 ⟨rfl, g2⟩
   have gw := hg.trans g2
   clear g2 hg q0 q1 q2 q3 hu
   obtain ⟨B, hB⟩ : ∃ B, B = P x := ⟨_, rfl⟩
   rw [← hB]
   have HB : Hid _ := hB
   clear hB
   cases B with
   | false =>
    have HT2 : Hid _ := HT.out HB.out.symm
    clear HT HF HB
    go_wp2_with fail
    go_roundw
    case rel => exact ⟨k + 1, by omega, by go_num, HT2, gw⟩
    case measure => simp [intOf]; omega
   | true =>
    obtain rfl : R = (k : Int) := HF.out HB.out.symm
    clear HT HF HB HR
    go_wp2_with fail
    go_ret
    exact ⟨rfl, gw⟩
  ·obtain rfl : R = -1 := by rw [HR.out, find_not fun x hx => HN.out x (by rw [List.take_of_length_le (by omega)]; exact hx)]; rfl
   clear HR
   go_wp2_with fail
   go_ret
   exact ⟨rfl, hg⟩
theorem containsR_any (K : Nat) (caps : Array Value) (P : Rec → Bool) (S : Nat → Prop) (l : List Rec) (v : Value) (w : World) (hK : ∀ (args : Array Value) (w : World), (callFunc K args).run Try.prog w = .ok (.enter K args) w) (hl : RecsS S w v l) (hn : l.length ≤ 1000000)
  (hc : ∀ (x : Rec) (a : Option Addr) (c : Nat) (w' : World), x ∈ l → Grow w w' → BytesS S w' (.slice a x.data.length c) x.data → Calls Try.prog K (#[.agg #[.int .i64 x.kind, .int .i64 x.key, .int .i64 x.ver, .slice a x.data.length c]] ++ caps) w' fun e w2 => e = .returned (.bool (P x)) ∧ Grow w' w2) :
  Calls Try.prog 59 #[v, .func (.func K) #[] caps] w fun e w' => e = .returned (.bool (l.any P)) ∧ Grow w w' := by
 rw [← idxI_any]
 obtain ⟨I, hI⟩ : ∃ I, I = idxI (l.findIdx? P) := ⟨_, rfl⟩
 rw [← hI]
 have HI : Hid _ := hI
 clear hI
 go_enter Try.func59, Try.ntmps59
 go_wp2_with fail
 refine (indexR_any K caps P S l v w hK hl hn hc).mono ?_
 rw [← HI.out]
 rintro e w1 ⟨rfl, g1⟩
 clear hl hc HI
 go_wp2_with fail
 go_ret
 exact ⟨rfl, g1⟩

theorem enters_among1 (args : Array Value) (w : World) : (callFunc 84 args).run Try.prog w = .ok (.enter 84 args) w := by
 simp [callFunc, Try.func84, Try.f84, mark]
theorem enters_same1 (args : Array Value) (w : World) : (callFunc 60 args).run Try.prog w = .ok (.enter 60 args) w := by
 simp [callFunc, Try.func60, Try.f60, mark]
set_option maxHeartbeats 1000000 in
theorem among1_any (x r : Rec) (a b : Option Addr) (c d : Nat) (g : Nat) (w : World) (hx : Bytes w (.slice a x.data.length c) x.data) (hr : Bytes w (.slice b r.data.length d) r.data) (hp : w.heap[g]? = some (.cells #[.int .i64 r.kind, .int .i64 r.key, .int .i64 r.ver, .slice b r.data.length d] 33 (0, 0))) :
  Calls Try.prog 84 #[.agg #[.int .i64 x.kind, .int .i64 x.key, .int .i64 x.ver, .slice a x.data.length c], .pointer (some ⟨g, 0, none⟩)] w fun e w' => e = .returned (.bool (sameB x r)) ∧ Grow w w' := by
 have g0 := grow_alloc w (.cells #[.int .i64 x.kind, .int .i64 x.key, .int .i64 x.ver, .slice a x.data.length c] 33)
 have hp1 := (g0.block _ (heap_lt hp)).trans hp
 obtain ⟨y0, y1, y2, y3⟩ := box4 hp1 rfl rfl rfl rfl
 have hxx := bytes_grow hx g0
 have hr1 := bytes_grow hr g0
 clear hp hp1 hx hr
 go_enter Try.func84, Try.ntmps84
 go_wp2_with fail
 refine (same_any _ _ _ _ _ _ x.data r.data _ _ _ hxx hr1).mono ?_
 rintro e w1 ⟨rfl, g1⟩
 have gE := g0.trans g1
 clear y0 y1 y2 y3 hxx hr1 g0 g1
 go_wp2_with fail
 go_ret
 exact ⟨rfl, gE⟩
set_option maxHeartbeats 1000000 in
theorem among_any (S : Nat → Prop) (l : List Rec) (r : Rec) (v : Value) (b : Option Addr) (d : Nat) (w : World) (hl : RecsS S w v l) (hn : l.length ≤ 1000000) (hr : Bytes w (.slice b r.data.length d) r.data) :
  Calls Try.prog 61 #[v, .agg #[.int .i64 r.kind, .int .i64 r.key, .int .i64 r.ver, .slice b r.data.length d]] w fun e w' => e = .returned (.bool (among l r)) ∧ Grow w w' := by
 obtain ⟨ao, cp, rfl⟩ := hl.form
 have g0 := grow_alloc w (.cells #[.int .i64 r.kind, .int .i64 r.key, .int .i64 r.ver, .slice b r.data.length d] 33)
 have hp := heap_new w #[.int .i64 r.kind, .int .i64 r.key, .int .i64 r.ver, .slice b r.data.length d] 33
 go_enter Try.func61, Try.ntmps61
 go_wp2_with fail
 refine (containsR_any 84 #[.pointer (some ⟨w.heap.size, 0, none⟩)] (fun x => sameB x r) S l _ _ enters_among1 (hl.grow g0) hn (fun x a c w' _ hg hx => among1_any x r a b c d _ w' hx.p (bytes_grow hr (g0.trans hg)) ((hg.block _ (heap_lt hp)).trans hp))).mono ?_
 rintro e w1 ⟨rfl, g1⟩
 have gE := g0.trans g1
 have HA : Hid ((l.any fun x => sameB x r) = among l r) := rfl
 rw [HA.out]
 clear g0 g1 hp hl hr
 go_wp2_with fail
 go_ret
 exact ⟨rfl, gE⟩
set_option maxHeartbeats 1000000 in
theorem same1_any (S : Nat → Prop) (t : List Rec) (x : Rec) (a b : Option Addr) (c d : Nat) (g : Nat) (w : World) (hl : RecsS S w (.slice b t.length d) t) (hn : t.length ≤ 1000000) (hx : Bytes w (.slice a x.data.length c) x.data) (hp : w.heap[g]? = some (.cells #[.slice b t.length d] 45 (0, 0))) :
  Calls Try.prog 60 #[.agg #[.int .i64 x.kind, .int .i64 x.key, .int .i64 x.ver, .slice a x.data.length c], .pointer (some ⟨g, 0, none⟩)] w fun e w' => e = .returned (.bool (!among t x)) ∧ Grow w w' := by
 have g0 := grow_alloc w (.cells #[.int .i64 x.kind, .int .i64 x.key, .int .i64 x.ver, .slice a x.data.length c] 33)
 have hp1 := (g0.block _ (heap_lt hp)).trans hp
 have y0 := box_cell hp1 0 _ rfl
 have hxx := bytes_grow hx g0
 have hl1 := hl.grow g0
 clear hp hp1 hx hl
 go_enter Try.func60, Try.ntmps60
 go_wp2_with fail
 refine (among_any S t x _ _ _ _ hl1 hn hxx).mono ?_
 rintro e w1 ⟨rfl, g1⟩
 have gE := g0.trans g1
 clear y0 hxx hl1 g0 g1
 go_wp2_with fail
 go_ret
 exact ⟨rfl, gE⟩
theorem not_any_not (p : Rec → Bool) (l : List Rec) : (!l.any fun x => !p x) = l.all p := by
 induction l with
 | nil => rfl
 | cons x l ih => simp only [List.any_cons, List.all_cons, ← ih]; cases p x <;> simp
set_option maxHeartbeats 1000000 in
theorem msame_any (S S' : Nat → Prop) (s t : List Rec) (v u : Value) (w : World) (hs : RecsS S w v s) (ht : RecsS S' w u t) (hm : s.length ≤ 1000000) (hn : t.length ≤ 1000000) :
  Calls Try.prog 25 #[v, u] w fun e w' => e = .returned (.bool (sameRs s t)) ∧ Grow w w' := by
 obtain ⟨ao, ca, rfl⟩ := hs.form
 obtain ⟨bo, cb, rfl⟩ := ht.form
 have g0 := grow_alloc w (.cells #[.slice bo t.length cb] 45)
 have hp := heap_new w #[.slice bo t.length cb] 45
 obtain ⟨R, hR⟩ : ∃ R, R = sameRs s t := ⟨_, rfl⟩
 rw [← hR]
 have HR : Hid _ := hR
 clear hR
 by_cases he : s.length = t.length
 ·have d0 : ((s.length : Int) != (t.length : Int)) = false := by simp [he]
  have HR2 : Hid (R = !s.any fun x => !among t x) := by show _ = _; rw [HR.out]; unfold sameRs; rw [decide_eq_true he, Bool.and_true, not_any_not]
  clear he HR
  go_enter Try.func25, Try.ntmps25
  go_wp2_with fail
  refine (containsR_any 60 #[.pointer (some ⟨w.heap.size, 0, none⟩)] (fun x => !among t x) S s _ _ enters_same1 (hs.grow g0) hm (fun x a c w' _ hg hx => same1_any S' t x a bo c cb _ w' (ht.grow (g0.trans hg)) hn hx.p ((hg.block _ (heap_lt hp)).trans hp))).mono ?_
  rintro e w1 ⟨rfl, g1⟩
  have gE := g0.trans g1
  clear g0 g1 hp hs ht
  generalize (s.any fun x => !among t x) = A at *
  obtain rfl := HR2.out
  clear HR2
  go_wp2_with fail
  go_ret
  exact ⟨rfl, gE⟩
 ·have d0 : ((s.length : Int) != (t.length : Int)) = true := by simp; omega
  obtain rfl : R = false := by rw [HR.out]; unfold sameRs; rw [decide_eq_false he, Bool.and_false]
  clear he HR
  go_enter Try.func25, Try.ntmps25
  go_wp2_with fail
  go_ret
  exact ⟨rfl, g0⟩
theorem msameC : MSameC := fun S S' s t v u w h1 h2 hs ht => msame_any S S' s t v u w hs ht (by have := ((rightR_iff s).1 h1).2; omega) (by have := ((rightR_iff t).1 h2).2; omega)
end Go.Proofs.Ytgaecpdokgklpab
