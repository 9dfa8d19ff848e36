/-
  How strings.SplitN parts a text at three blanks at most, and what words the document has of it; and the map of the words' shapes.
  No condition beyond the premises that each theorem writes out.
-/
import Derived.Test.YtgaecpdokgklpabDoorTData
import Derived.Lib.Split
import Derived.Lib.IndexBytes
import Derived.MapKept
namespace Go.Proofs.YtgaecpdokgklpabDoor
set_option maxRecDepth 100000
open Go.RowKit
open Go.Proofs.YtgaecpdokgklpabDoor.Plain Go.Proofs.YtgaecpdokgklpabDoor.Reg

theorem blank_at : ∀ s : List UInt8, (Lib.indexByte s 32 = -1 ∧ ∀ c ∈ s, c ≠ 32) ∨ ∃ i : Nat, Lib.indexByte s 32 = (i : Int) ∧ s = s.take i ++ 32 :: s.drop (i + 1) ∧ ∀ c ∈ s.take i, c ≠ 32
 | [] => .inl ⟨rfl, fun _ h => by cases h⟩
 | b :: l => by
  by_cases hb : b = 32
  ·subst hb
   exact .inr ⟨0, by simp [Lib.indexByte], by simp, fun _ h => by simp at h⟩
  ·rcases blank_at l with ⟨h1, h2⟩ | ⟨i, h1, h2, h3⟩
   ·refine .inl ⟨by simp [Lib.indexByte, hb, h1], fun c hc => ?_⟩
    rcases List.mem_cons.1 hc with rfl | hc
    ·exact hb
    ·exact h2 c hc
   ·refine .inr ⟨i + 1, ?_, ?_, fun c hc => ?_⟩
    ·simp only [Lib.indexByte, h1]
     rw [if_neg (by simpa using hb), if_neg (by simp)]
     simp
    ·rw [List.take_succ_cons, List.drop_succ_cons, List.cons_append, ← h2]
    ·rw [List.take_succ_cons] at hc
     rcases List.mem_cons.1 hc with rfl | hc
     ·exact hb
     ·exact h3 c hc
theorem index_blank (s : List UInt8) : Lib.index s [32] = Lib.indexByte s 32 := Lib.index_one s 32
theorem words_len1 : ∀ s : List UInt8, 1 ≤ (wordsB s).length := fun s => by
 cases h : wordsB s with
 | nil => exact absurd h (words_ne s)
 | cons => simp
/-- Cut at k blanks at most. -/
theorem cut_words : ∀ (k : Nat) (s : List UInt8), ((wordsB s).length ≤ k + 1 ∧ Lib.splitK [32] 0 k s = wordsB s) ∨ (k + 1 < (wordsB s).length ∧ (Lib.splitK [32] 0 k s).length = k + 1 ∧ (1 ≤ k → (Lib.splitK [32] 0 k s).head? = (wordsB s).head?))
 | 0, s => by
  rcases blank_at s with ⟨h1, h2⟩ | ⟨i, h1, h2, h3⟩
  ·left; rw [words_one s h2]; exact ⟨by simp, rfl⟩
  ·right
   have e : wordsB s = s.take i :: wordsB (s.drop (i + 1)) := (congrArg wordsB h2).trans (words_more _ _ h3)
   rw [e]
   have := words_len1 (s.drop (i + 1))
   refine ⟨by simp; omega, rfl, fun h => by omega⟩
 | k + 1, s => by
  rcases blank_at s with ⟨h1, h2⟩ | ⟨i, h1, h2, h3⟩
  ·left
   rw [words_one s h2]
   unfold Lib.splitK
   rw [index_blank, h1]
   exact ⟨by simp, rfl⟩
  ·have e : wordsB s = s.take i :: wordsB (s.drop (i + 1)) := (congrArg wordsB h2).trans (words_more _ _ h3)
   have e2 : Lib.splitK [32] 0 (k + 1) s = s.take i :: Lib.splitK [32] 0 k (s.drop (i + 1)) := by
    conv => lhs; unfold Lib.splitK
    rw [index_blank, h1, if_neg (by simp)]
    simp
   rw [e, e2]
   rcases cut_words k (s.drop (i + 1)) with ⟨h4, h5⟩ | ⟨h4, h5, _⟩
   ·left; exact ⟨by simp; omega, by rw [h5]⟩
   ·right; exact ⟨by simp; omega, by simp [h5], fun _ => rfl⟩
theorem words_max : ∀ s : List UInt8, (wordsB s).length ≤ s.length + 1
 | [] => by simp [wordsB]
 | c :: s => by
  have ih := words_max s
  unfold wordsB
  split
  ·simp; omega
  ·split
   ·rename_i w ws h; rw [h] at ih; simp at ih ⊢; omega
   ·simp
/-- What SplitN answers, held against all words. -/
def Parts (s : List UInt8) (ws : List (List UInt8)) : Prop := ws.length ≤ 4 ∧ (ws = wordsB s ∨ (ws.length = 4 ∧ 4 < (wordsB s).length ∧ ws.head? = (wordsB s).head?))
theorem parts_split (s : List UInt8) : Parts s (Lib.splitK [32] 0 (min 4 (s.length + 1) - 1) s) := by
 have hm := words_max s
 rcases cut_words (min 4 (s.length + 1) - 1) s with ⟨h1, h2⟩ | ⟨h1, h2, h3⟩
 ·refine ⟨by rw [h2]; omega, .inl h2⟩
 ·have h4 : min 4 (s.length + 1) - 1 = 3 := by omega
  rw [h4] at h1 h2 h3 ⊢
  exact ⟨by omega, .inr ⟨h2, by omega, h3 (by omega)⟩⟩
theorem splitB_words (s : List UInt8) (k : Nat) : Lib.splitB ⟨#[32]⟩ 0 k ⟨s.toArray⟩ = (Lib.splitK [32] 0 k s).map (fun x => ⟨x.toArray⟩) := by
 have h := Lib.splitB_data ⟨#[32]⟩ 0 k ⟨s.toArray⟩
 have h2 : Lib.splitK [32] 0 k s = (Lib.splitB ⟨#[32]⟩ 0 k ⟨s.toArray⟩).map (·.data.toList) := by rw [h]
 rw [h2, List.map_map]
 conv => lhs; rw [← List.map_id (Lib.splitB ⟨#[32]⟩ 0 k ⟨s.toArray⟩)]
 refine List.map_congr_left fun x _ => ?_
 simp
/-- What SplitN is asked for. -/
def SplitC (V : World → Prop) : Prop := ∀ (s : List UInt8) (w : World), V w → s.length ≤ 140737488355328 →
 Calls Tryd.prog 13 #[.string ⟨s.toArray⟩, .string ⟨#[32]⟩, .int .i64 4] w fun r w' => ∃ (ws : List (List UInt8)) (g c : Nat), Parts s ws ∧ r = .returned (.slice (some ⟨g, 0, none⟩) ws.length c) ∧ ws.length ≤ c ∧ (∀ (i : Nat) (h : i < ws.length), w'.cell? ⟨g, i, none⟩ = some (.string ⟨ws[i].toArray⟩)) ∧ Grow w w'

/-! ### The map of shapes -/

def shapeMap : Obj := .map #[{ key := .string ⟨wPut.toArray⟩, val := .agg #[.int .i64 1, .int .i64 3], born := 0 }, { key := .string ⟨wDelete.toArray⟩, val := .agg #[.int .i64 2, .int .i64 2], born := 1 }, { key := .string ⟨wPurge.toArray⟩, val := .agg #[.int .i64 3, .int .i64 3], born := 2 }] 3
theorem run_put_new {w : World} {r clock : Nat} {es : Array MapEntry} (s : ByteArray) (v : Value) (hb : w.heap[r]? = some (.map es clock)) (hf : Instr.findNow .string (.string s) es.toList 0 = some none) :
  ∃ w', (Instr.mapUpdate 38 (.map (some r)) (.string s) v).run Tryd.prog w = .ok () w' ∧ w'.heap[r]? = some (.map (es.push { key := .string s, val := v, born := clock }) (clock + 1)) ∧ GrowBut r w w' := by
 have hk := Tryd.underlying9
 have hc : (Instr.checkKey false 10000 9 (.string s)).run Tryd.prog w = .ok () w := MapKept.run_checkKey (k := .string s) hk (by simp [MapKept.IsKey]) false 9999
 refine ⟨{ w with heap := w.heap.setIfInBounds r (.map (es.push { key := .string s, val := v, born := clock }) (clock + 1)) }, ?_, ?_, ?_⟩
 ·simp [Instr.mapUpdate, run_underlying Tryd.underlying38, MapKept.run_getObj_map hb, hc, MapKept.run_findKey hk hf, MapKept.run_setObj_map _ hb, Result.andThen]
 ·exact (MapKept.heap_set hb).1
 ·exact ⟨rfl, rfl, rfl, by simp, fun k hk hn => (MapKept.heap_set hb).2 k hn⟩
/-- A word's kind, and how many words there are. -/
def shapeOf (s : List UInt8) : Option (Int × Int) := if s = wPut then some (1, 3) else if s = wDelete then some (2, 2) else if s = wPurge then some (3, 3) else none
def shapeV (s : List UInt8) : Value := match shapeOf s with
 | some (k, n) => .tuple #[.agg #[.int .i64 k, .int .i64 n], .bool true]
 | none => .tuple #[.agg #[.int .i64 0, .int .i64 0], .bool false]
theorem str_ne {a b : List UInt8} (h : a ≠ b) : ((ByteArray.mk a.toArray) == (ByteArray.mk b.toArray)) = false := by
 show (a.toArray == b.toArray) = false
 simpa using h
theorem shape_found {w : World} {r clock : Nat} {es : Array MapEntry} (s : List UInt8) (hb : w.heap[r]? = some (.map es clock)) (he : es.isEmpty = false) (x : Option (Nat × Value)) (hf : Instr.findNow .string (.string ⟨s.toArray⟩) es.toList 0 = some x) (hv : (match x with | some (_, v) => Value.tuple #[v, .bool true] | none => .tuple #[.agg #[.int .i64 0, .int .i64 0], .bool false]) = shapeV s) :
  (Instr.lookup 38 (.map (some r)) (.string ⟨s.toArray⟩) true).run Tryd.prog w = .ok (shapeV s) w := by
 have hk := Tryd.underlying9
 have hc : (Instr.checkKey false 10000 9 (.string ⟨s.toArray⟩)).run Tryd.prog w = .ok () w := MapKept.run_checkKey (k := .string ⟨s.toArray⟩) hk (by simp [MapKept.IsKey]) false 9999
 have hg := MapKept.run_getObj_map (P := Tryd.prog) hb
 have hq := MapKept.run_findKey (P := Tryd.prog) (w := w) hk hf
 rw [← hv]
 cases x with
 | none => simp [Instr.lookup, run_underlying Tryd.underlying38, hg, he, hc, hq, Result.andThen]
 | some y => simp [Instr.lookup, run_underlying Tryd.underlying38, hg, he, hc, hq, Result.andThen]
theorem shape_ask {w : World} {r : Nat} (s : List UInt8) (hb : w.heap[r]? = some shapeMap) : (Instr.lookup 38 (.map (some r)) (.string ⟨s.toArray⟩) true).run Tryd.prog w = .ok (shapeV s) w := by
 by_cases h1 : s = wPut
 ·subst h1; exact shape_found wPut hb rfl (some (0, .agg #[.int .i64 1, .int .i64 3])) rfl rfl
 ·by_cases h2 : s = wDelete
  ·subst h2; exact shape_found wDelete hb rfl (some (1, .agg #[.int .i64 2, .int .i64 2])) rfl rfl
  ·by_cases h3 : s = wPurge
   ·subst h3; exact shape_found wPurge hb rfl (some (2, .agg #[.int .i64 3, .int .i64 3])) rfl rfl
   ·refine shape_found s hb rfl none ?_ ?_
    ·simp [Instr.findNow, Instr.sameNow, str_ne h1, str_ne h2, str_ne h3]
    ·simp [shapeV, shapeOf, h1, h2, h3]

set_option maxHeartbeats 1000000 in
theorem tshapes_any (w : World) : Calls Tryd.prog 14 #[] w fun r w' => ∃ b, r = .returned (.map (some b)) ∧ w.heap.size ≤ b ∧ w'.heap[b]? = some shapeMap ∧ Grow w w' := by
 have h0 : (w.alloc (.map #[] 0)).heap[w.heap.size]? = some (.map #[] 0) := by show (w.heap.push _)[w.heap.size]? = _; simp
 have g0 := grow_alloc w (.map #[] 0)
 obtain ⟨w1, r1, h1, k1⟩ := run_put_new ⟨#[112, 117, 116]⟩ (.agg #[.int .i64 1, .int .i64 3]) h0 rfl
 obtain ⟨w2, r2, h2, k2⟩ := run_put_new ⟨#[100, 101, 108, 101, 116, 101]⟩ (.agg #[.int .i64 2, .int .i64 2]) h1 rfl
 obtain ⟨w3, r3, h3, k3⟩ := run_put_new ⟨#[112, 117, 114, 103, 101]⟩ (.agg #[.int .i64 3, .int .i64 3]) h2 rfl
 have gE := k3.grow (k2.grow (k1.grow g0 (Nat.le_refl _)) (Nat.le_refl _)) (Nat.le_refl _)
 have HH : Hid (w3.heap[w.heap.size]? = some shapeMap) := h3
 have hmm := @run_makeMap Tryd.prog
 clear h0 h1 h2 h3 k1 k2 k3 g0
 go_enter Tryd.func14, Tryd.ntmps14
 go_wp2_with fail
 go_ret
 exact ⟨_, rfl, Nat.le_refl _, HH.out, gE⟩
end Go.Proofs.YtgaecpdokgklpabDoor
