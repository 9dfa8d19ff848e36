/-
  Ahead of what the document's Parse reads of a text: its 'no', rows of words, and how a text is parted into words (Parse itself is not walked yet).
-/
import Derived.Test.YtgaecpdokgklpabDoorRDigits
import Derived.Test.YtgaecpdokgklpabDoorRowApp
namespace Go.Proofs.YtgaecpdokgklpabDoor
set_option maxRecDepth 100000
open Go.RowKit
open Go.Proofs.YtgaecpdokgklpabDoor.Plain Go.Proofs.YtgaecpdokgklpabDoor.Reg

/-- What strconv.Atoi is asked for. -/
def AtoiC (V : World → Prop) : Prop := ∀ (s : List UInt8) (w : World), V w → s.length ≤ 140737488355328 →
 Calls Tryd.prog 19 #[.string ⟨s.toArray⟩] w fun r w' => (∃ n ev, r = .returned (.tuple #[.int .i64 n, ev]) ∧ ((Lib.atoiAll s = .ok n ∧ ev = .nilIface ∧ -9223372036854775808 ≤ n ∧ n ≤ 9223372036854775807) ∨ ((∀ v, Lib.atoiAll s ≠ .ok v) ∧ ∃ T p, ev = .iface T p))) ∧ Grow w w'
theorem enters_no (args : Array Value) (w : World) : (callFunc 17 args).run Tryd.prog w = .ok (.enter 17 args) w := by
 simp [callFunc, Tryd.func17, Tryd.f17, mark]
set_option maxHeartbeats 1000000 in
theorem rno_any (e : Int) (w : World) : Calls Tryd.prog 17 #[.int .i64 e] w fun r w' => r = .returned (.tuple #[.agg #[.int .i64 0, .int .i64 0, .int .i64 0, .slice none 0 0], .int .i64 e]) ∧ Grow w w' := by
 have g0 := grow_alloc w (.cells #[.int .i64 0, .int .i64 0, .int .i64 0, .slice none 0 0] 24)
 go_enter Tryd.func17, Tryd.ntmps17
 go_wp2_with fail
 exact bodyPost_ret (v := .tuple #[.agg #[.int .i64 0, .int .i64 0, .int .i64 0, .slice none 0 0], .int .i64 e]) (by simp [results, Tryd.results17, go_sem]) rfl ⟨rfl, g0⟩

/-- A word, in a row of words. -/
def strShape : Shape (List UInt8) where
 T := 9
 size := 1
 enc _ _ x cs := cs = [.string ⟨x.toArray⟩]
 len := by rintro S w x cs rfl; rfl
 keep := by rintro S w w' x cs rfl _; rfl
 mono := by rintro S S' w x cs rfl _; rfl
 cap := by rintro S w x cs rfl; rfl
 one := by
  rintro S w x cs rfl c hc
  rw [List.mem_singleton.1 hc]; rfl
theorem info_str : (Tryd.prog.info? 9).map (fun i => (i.zero, i.size, i.bytes)) = some (some (.string ⟨#[]⟩), 1, 16) := by kernel_rfl

theorem cut_bytes (s : List UInt8) (f k : Nat) : (ByteArray.mk s.toArray).extract f k = ByteArray.mk ((s.drop f).take (k - f)).toArray := by
 apply ByteArray.ext
 simp [ByteArray.data_extract]
theorem exec_cut (w : World) (ev : Operand → Value) (o : Oper) (x a b : Operand) (ho : o.op = Op.slice 9 x (some a) (some b) none) (s : List UInt8) (f k : Nat) (h1 : f ≤ k) (h2 : k ≤ s.length) (hx : ev x = .string ⟨s.toArray⟩) (ha : ev a = .int .i64 (f : Int)) (hb : ev b = .int .i64 (k : Int)) :
  (execOp ev o).run Tryd.prog w = .ok (.value (.string ⟨((s.drop f).take (k - f)).toArray⟩)) w := by
 have hc := cut_bytes s f k
 unfold execOp
 rw [ho]
 go_simp

/-! ### How a text is parted -/

/-- Behind the first k bytes: the words that are whole, and from where the next one is. -/
def Parted (s : List UInt8) (k f : Nat) (ws : List (List UInt8)) : Prop := f ≤ k ∧ k ≤ s.length ∧ wordsB s = ws ++ wordsB (s.drop f) ∧ ∀ c ∈ (s.drop f).take (k - f), c ≠ 32
theorem part_start (s : List UInt8) : Parted s 0 0 [] := ⟨Nat.le_refl _, Nat.zero_le _, rfl, fun c hc => by simp at hc⟩
theorem part_on {s : List UInt8} {k f : Nat} {ws : List (List UInt8)} (h : Parted s k f ws) (hk : k < s.length) (hc : s[k] ≠ 32) : Parted s (k + 1) f ws := by
 obtain ⟨h1, h2, h3, h4⟩ := h
 refine ⟨by omega, hk, h3, fun c hcm => ?_⟩
 rw [show k + 1 - f = (k - f) + 1 by omega, List.take_succ_eq_append_getElem (by rw [List.length_drop]; omega)] at hcm
 rcases List.mem_append.1 hcm with h5 | h5
 ·exact h4 c h5
 ·rw [List.mem_singleton.1 h5, List.getElem_drop]
  simpa [show f + (k - f) = k by omega] using hc
theorem part_blank {s : List UInt8} {k f : Nat} {ws : List (List UInt8)} (h : Parted s k f ws) (hk : k < s.length) (hc : s[k] = 32) : Parted s (k + 1) (k + 1) (ws ++ [(s.drop f).take (k - f)]) := by
 obtain ⟨h1, h2, h3, h4⟩ := h
 refine ⟨Nat.le_refl _, hk, ?_, fun c hcm => by simp at hcm⟩
 have e : s.drop f = (s.drop f).take (k - f) ++ 32 :: s.drop (k + 1) := by
  have h5 : (s.drop f).drop (k - f) = s[k] :: s.drop (k + 1) := by
   rw [List.drop_drop, show f + (k - f) = k by omega, List.drop_eq_getElem_cons hk]
  rw [← hc, ← h5, List.take_append_drop]
 rw [h3, List.append_assoc]
 congr 1
 conv => lhs; rw [e]
 rw [words_more _ _ h4]
 rfl
theorem part_end {s : List UInt8} {f : Nat} {ws : List (List UInt8)} (h : Parted s s.length f ws) : wordsB s = ws ++ [(s.drop f).take (s.length - f)] := by
 obtain ⟨h1, h2, h3, h4⟩ := h
 rw [h3]
 congr 1
 have e : (s.drop f).take (s.length - f) = s.drop f := List.take_of_length_le (by rw [List.length_drop]; exact Nat.le_refl _)
 rw [e] at h4 ⊢
 exact words_one _ h4
end Go.Proofs.YtgaecpdokgklpabDoor
