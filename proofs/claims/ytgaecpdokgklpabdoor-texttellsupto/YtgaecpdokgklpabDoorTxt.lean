/-
  Deeds as texts, told of lists of bytes: written, and read again; what is unlike is written unlike. No program.
-/
import Derived.Test.YtgaecpdokgklpabDoorRModel
import Derived.Lib.AtoiAll
import Derived.Lib.ItoaNum
namespace Go.Proofs.YtgaecpdokgklpabDoor
set_option maxRecDepth 100000
open Go.Proofs.YtgaecpdokgklpabDoor.Plain

/-! ### Numbers in tens -/

theorem pu_append : ∀ (a b : List UInt8) (acc : Nat), Lib.parseUint10 acc (a ++ b) = (match Lib.parseUint10 acc a with | .ok n => Lib.parseUint10 n b | .syntax => .syntax | .range => .range)
 | [], b, acc => by simp [Lib.parseUint10]
 | c :: a, b, acc => by
  have ih := pu_append a b
  simp only [List.cons_append, Lib.parseUint10]
  split
  ·split
   ·rfl
   ·split
    ·rfl
    ·exact ih _
  ·rfl
theorem pu_digits (u : Nat) (hu : u < 18446744073709551616) : Lib.parseUint10 0 (Lib.decDigits u) = .ok u := by
 induction u using Nat.strongRecOn with
 | _ u ih =>
  have one : ∀ k acc, k < 10 → acc < 1844674407370955162 → acc * 10 + k < 18446744073709551616 → Lib.parseUint10 acc [UInt8.ofNat (48 + k)] = .ok (acc * 10 + k) := fun k acc hk ha hb => by
   have hn : (UInt8.ofNat (48 + k)).toNat = 48 + k := by simp; omega
   simp only [Lib.parseUint10, hn]
   rw [if_pos (by omega), if_neg (by omega), if_neg (by omega)]
   congr 1; omega
  rw [Lib.decDigits]
  by_cases h : u < 10
  ·rw [dif_pos h, one u 0 h (by omega) (by omega)]; congr 1; omega
  ·rw [dif_neg h, pu_append, ih (u / 10) (by omega) (by omega)]
   show Lib.parseUint10 (u / 10) [UInt8.ofNat (48 + u % 10)] = .ok u
   rw [one (u % 10) (u / 10) (by omega) (by omega) (by omega)]
   congr 1; omega
theorem dec_mem (u : Nat) : ∀ c ∈ Lib.decDigits u, 48 ≤ c.toNat ∧ c.toNat ≤ 57 := by
 induction u using Nat.strongRecOn with
 | _ u ih =>
  rw [Lib.decDigits]
  by_cases h : u < 10
  ·rw [dif_pos h]
   intro c hc
   rw [List.mem_singleton.1 hc]
   have : (UInt8.ofNat (48 + u)).toNat = 48 + u := by simp; omega
   omega
  ·rw [dif_neg h]
   intro c hc
   rcases List.mem_append.1 hc with h1 | h1
   ·exact ih (u / 10) (by omega) c h1
   ·rw [List.mem_singleton.1 h1]
    have : (UInt8.ofNat (48 + u % 10)).toNat = 48 + u % 10 := by simp; omega
    omega
theorem dec_ne (u : Nat) : Lib.decDigits u ≠ [] := by
 rw [Lib.decDigits]
 split
 ·simp
 ·simp
theorem pm_digits (u : Nat) (hu : u < 18446744073709551616) : Lib.parseMag (Lib.decDigits u) = .ok u := by
 unfold Lib.parseMag
 rw [if_neg (dec_ne u), pu_digits u hu]
theorem atoi_itoa (n : Int) (h0 : -9223372036854775808 ≤ n) (h1 : n ≤ 9223372036854775807) : Lib.atoiAll (Lib.itoa n) = .ok n := by
 unfold Lib.itoa
 by_cases h : n < 0
 ·rw [if_pos h]
  have hp := pm_digits n.natAbs (by omega)
  simp only [Lib.atoiAll]
  rw [if_pos (by decide), hp]
  have h45 : (45 : UInt8).toNat = 45 := rfl
  simp only [h45]
  rw [if_neg (by simp), if_neg (by omega), if_pos trivial]
  congr 1; omega
 ·rw [if_neg h]
  have hp := pm_digits n.toNat (by omega)
  have hne := dec_ne n.toNat
  have hm := dec_mem n.toNat
  cases hd : Lib.decDigits n.toNat with
  | nil => exact absurd hd hne
  | cons b r =>
   rw [hd] at hp hm
   have hb := hm b (by simp)
   simp only [Lib.atoiAll]
   rw [if_neg (by omega), hp]
   have h3 : ¬ (b.toNat = 45) := by omega
   simp only [h3]
   rw [if_neg (by omega), if_neg (by omega), if_neg (by simp)]
   congr 1; omega
theorem itoa_mem (n : Int) : ∀ c ∈ Lib.itoa n, c ≠ 32 := by
 intro c hc e
 subst e
 unfold Lib.itoa at hc
 split at hc
 ·rcases List.mem_cons.1 hc with h | h
  ·cases h
  ·have := dec_mem _ _ h; simp at this
 ·have := dec_mem _ _ hc; simp at this
/-- A number that is written as it should be. -/
def numW (w : List UInt8) : Option Int := match Lib.atoiAll w with
 | .ok n => if Lib.itoa n = w then some n else none
 | _ => none
theorem numW_itoa {n : Int} (h0 : -9223372036854775808 ≤ n) (h1 : n ≤ 9223372036854775807) : numW (Lib.itoa n) = some n := by
 unfold numW
 rw [atoi_itoa n h0 h1]
 exact if_pos rfl
theorem numW_some {w : List UInt8} {n : Int} (h : numW w = some n) : Lib.itoa n = w := by
 unfold numW at h
 split at h
 ·split at h
  ·rename_i k; cases h; exact k
  ·cases h
 ·cases h

/-! ### Bytes, two digits each -/

def hexd (n : Nat) : UInt8 := UInt8.ofNat (if n < 10 then 48 + n else 87 + n)
def hexV (c : UInt8) : Option Nat := if 48 ≤ c.toNat ∧ c.toNat ≤ 57 then some (c.toNat - 48) else if 97 ≤ c.toNat ∧ c.toNat ≤ 102 then some (c.toNat - 87) else none
theorem hexd_nat {n : Nat} (h : n < 16) : (hexd n).toNat = if n < 10 then 48 + n else 87 + n := by
 unfold hexd
 split <;> (simp; omega)
theorem hexV_hexd {n : Nat} (h : n < 16) : hexV (hexd n) = some n := by
 unfold hexV
 rw [hexd_nat h]
 by_cases h1 : n < 10
 ·rw [if_pos h1, if_pos (by omega)]; congr 1; omega
 ·rw [if_neg h1, if_neg (by omega), if_pos (by omega)]; congr 1; omega
theorem hexd_hexV {c : UInt8} {n : Nat} (h : hexV c = some n) : n < 16 ∧ hexd n = c := by
 unfold hexV at h
 split at h
 ·cases h
  refine ⟨by omega, ?_⟩
  apply UInt8.toNat_inj.1
  rw [hexd_nat (by omega), if_pos (by omega)]; omega
 ·split at h
  ·cases h
   refine ⟨by omega, ?_⟩
   apply UInt8.toNat_inj.1
   rw [hexd_nat (by omega), if_neg (by omega)]; omega
  ·cases h
def hexB : List UInt8 → List UInt8
 | [] => []
 | c :: l => hexd (c.toNat / 16) :: hexd (c.toNat % 16) :: hexB l
def unhex : List UInt8 → Option (List UInt8)
 | [] => some []
 | [_] => none
 | a :: b :: r => match hexV a, hexV b, unhex r with
  | some x, some y, some t => some (UInt8.ofNat (16 * x + y) :: t)
  | _, _, _ => none
theorem unhex_hexB : ∀ l : List UInt8, unhex (hexB l) = some l
 | [] => rfl
 | c :: l => by
  have hc := c.toNat_lt
  unfold hexB unhex
  rw [hexV_hexd (by omega), hexV_hexd (by omega), unhex_hexB l]
  simp only [Option.some.injEq, List.cons.injEq, and_true]
  apply UInt8.toNat_inj.1
  simp; omega
theorem hexB_unhex : ∀ (w l : List UInt8), unhex w = some l → hexB l = w
 | [], l, h => by unfold unhex at h; cases h; rfl
 | [_], l, h => by unfold unhex at h; cases h
 | a :: b :: r, l, h => by
  unfold unhex at h
  split at h
  ·rename_i x y t hx hy ht
   cases h
   obtain ⟨h1, h2⟩ := hexd_hexV hx
   obtain ⟨h3, h4⟩ := hexd_hexV hy
   have h5 : (UInt8.ofNat (16 * x + y)).toNat = 16 * x + y := by simp; omega
   unfold hexB
   rw [h5, show (16 * x + y) / 16 = x by omega, show (16 * x + y) % 16 = y by omega, h2, h4, hexB_unhex r t ht]
  ·cases h
theorem hexB_mem : ∀ (l : List UInt8), ∀ c ∈ hexB l, c ≠ 32 ∧ c ≠ 45
 | [], c, h => by cases h
 | x :: l, c, h => by
  have hx := x.toNat_lt
  have key : ∀ n, n < 16 → hexd n ≠ 32 ∧ hexd n ≠ 45 := fun n hn => by
   have := hexd_nat hn
   constructor <;> (intro e; rw [e] at this; simp at this; split at this <;> omega)
  unfold hexB at h
  rcases List.mem_cons.1 h with rfl | h
  ·exact key _ (by omega)
  ·rcases List.mem_cons.1 h with rfl | h
   ·exact key _ (by omega)
   ·exact hexB_mem l c h
def dataW (l : List UInt8) : List UInt8 := if l = [] then [45] else hexB l
def dataR (w : List UInt8) : Option (List UInt8) := if w = [45] then some [] else if w = [] then none else unhex w
theorem dataR_dataW (l : List UInt8) : dataR (dataW l) = some l := by
 unfold dataW
 by_cases h : l = []
 ·rw [if_pos h, h]; rfl
 ·rw [if_neg h]
  unfold dataR
  rw [if_neg, if_neg, unhex_hexB]
  ·intro e
   cases l with
   | nil => exact h rfl
   | cons c l => unfold hexB at e; cases e
  ·intro e
   have := (hexB_mem l 45 (by rw [e]; simp)).2
   exact this rfl
theorem dataW_dataR {w l : List UInt8} (h : dataR w = some l) : dataW l = w := by
 unfold dataR at h
 by_cases h1 : w = [45]
 ·rw [if_pos h1] at h; cases h; rw [h1]; rfl
 ·rw [if_neg h1] at h
  by_cases h2 : w = []
  ·rw [if_pos h2] at h; cases h
  ·rw [if_neg h2] at h
   have h3 := hexB_unhex w l h
   unfold dataW
   rw [if_neg (by rintro rfl; exact h2 (by rw [← h3]; rfl)), h3]
theorem dataW_mem (l : List UInt8) : ∀ c ∈ dataW l, c ≠ 32 := by
 intro c hc
 unfold dataW at hc
 split at hc
 ·rw [List.mem_singleton.1 hc]; decide
 ·exact (hexB_mem l c hc).1

/-! ### Words between blanks -/

def wordsB : List UInt8 → List (List UInt8)
 | [] => [[]]
 | c :: s => if c = 32 then [] :: wordsB s else match wordsB s with
  | w :: ws => (c :: w) :: ws
  | [] => [[c]]
theorem words_one : ∀ (a : List UInt8), (∀ c ∈ a, c ≠ 32) → wordsB a = [a]
 | [], _ => rfl
 | c :: a, h => by
  unfold wordsB
  rw [if_neg (h c (by simp)), words_one a fun x hx => h x (by simp [hx])]
theorem words_more : ∀ (a b : List UInt8), (∀ c ∈ a, c ≠ 32) → wordsB (a ++ 32 :: b) = a :: wordsB b
 | [], b, _ => by
  rw [List.nil_append]
  conv => lhs; unfold wordsB
  rw [if_pos rfl]
 | c :: a, b, h => by
  rw [List.cons_append]
  conv => lhs; unfold wordsB
  rw [if_neg (h c (by simp)), words_more a b fun x hx => h x (by simp [hx])]
/-- Words, and the text that they are of. -/
def joinB : List (List UInt8) → List UInt8
 | [] => []
 | [w] => w
 | w :: v :: ws => w ++ 32 :: joinB (v :: ws)
theorem words_ne (s : List UInt8) : wordsB s ≠ [] := by
 cases s with
 | nil => simp [wordsB]
 | cons c s =>
  unfold wordsB
  split
  ·simp
  ·split <;> simp
theorem join_words : ∀ (s : List UInt8), joinB (wordsB s) = s
 | [] => rfl
 | c :: s => by
  have ih := join_words s
  have hne := words_ne s
  unfold wordsB
  cases hw : wordsB s with
  | nil => exact absurd hw hne
  | cons w ws =>
   rw [hw] at ih
   by_cases hc : c = 32
   ·rw [if_pos hc]
    show [] ++ 32 :: joinB (w :: ws) = _
    rw [ih, hc]; rfl
   ·rw [if_neg hc]
    cases ws with
    | nil => show c :: w = _; rw [show w = s from ih]
    | cons v ws =>
     show (c :: w) ++ 32 :: joinB (v :: ws) = _
     have ih2 : w ++ 32 :: joinB (v :: ws) = s := ih
     rw [List.cons_append, ih2]

/-! ### Deeds -/

def wPut : List UInt8 := [112, 117, 116]
def wDelete : List UInt8 := [100, 101, 108, 101, 116, 101]
def wPurge : List UInt8 := [112, 117, 114, 103, 101]
def noDd : Dd := ⟨0, 0, 0, []⟩
/-- The deed's text. -/
def printD (d : Dd) : List UInt8 :=
 if d.kind = 3 then wPurge ++ 32 :: (Lib.itoa d.key ++ 32 :: Lib.itoa d.num)
 else if d.kind = 2 then wDelete ++ 32 :: Lib.itoa d.key
 else wPut ++ 32 :: (Lib.itoa d.key ++ 32 :: dataW d.data)
/-- What words say, ahead of what is wrong with it: the deed, or none, and the error. -/
def saidD (ws : List (List UInt8)) : Option Dd × Int :=
 if ws.head? = some wPut then (match ws.tail with
  | [a, b] => (match numW a, dataR b with | some k, some l => (some ⟨1, k, 0, l⟩, 0) | _, _ => (none, 2))
  | _ => (none, 2))
 else if ws.head? = some wDelete then (match ws.tail with
  | [a] => (match numW a with | some k => (some ⟨2, k, 0, []⟩, 0) | _ => (none, 2))
  | _ => (none, 2))
 else if ws.head? = some wPurge then (match ws.tail with
  | [a, b] => (match numW a, numW b with | some k, some n => (some ⟨3, k, n, []⟩, 0) | _, _ => (none, 2))
  | _ => (none, 2))
 else (none, 1)
/-- The text's deed, and the error. -/
def parseD (s : List UInt8) : Dd × Int := match saidD (wordsB s) with
 | (some d, _) => if wrongD d = 0 then (d, 0) else (noDd, wrongD d)
 | (none, e) => (noDd, e)
theorem right_nums {d : Dd} (h : wrongD d = 0) : 1 ≤ d.kind ∧ d.kind ≤ 3 ∧ 1 ≤ d.key ∧ d.key ≤ 255 ∧ 0 ≤ d.num ∧ d.num ≤ 60000 ∧ (d.kind ≠ 3 → d.num = 0) ∧ (d.kind ≠ 1 → d.data = []) := by
 unfold wrongD at h
 by_cases h1 : d.kind < 1 ∨ 3 < d.kind
 ·rw [if_pos h1] at h; omega
 ·rw [if_neg h1] at h
  by_cases h3 : d.kind = 3
  ·rw [if_pos h3, if_pos h3] at h
   by_cases h2 : d.key < 1 ∨ 255 < d.key ∨ d.num < 1 ∨ 60000 < d.num
   ·rw [if_pos h2] at h; omega
   ·rw [if_neg h2] at h
    by_cases h4 : 8 < d.data.length ∨ d.kind ≠ 1 ∧ d.data.length ≠ 0
    ·rw [if_pos h4] at h; omega
    ·exact ⟨by omega, by omega, by omega, by omega, by omega, by omega, fun h => absurd h3 h, fun h => List.eq_nil_of_length_eq_zero (by omega)⟩
  ·rw [if_neg h3, if_neg h3] at h
   by_cases h2 : d.key < 1 ∨ 255 < d.key ∨ d.num < 0 ∨ 0 < d.num
   ·rw [if_pos h2] at h; omega
   ·rw [if_neg h2] at h
    by_cases h4 : 8 < d.data.length ∨ d.kind ≠ 1 ∧ d.data.length ≠ 0
    ·rw [if_pos h4] at h; omega
    ·exact ⟨by omega, by omega, by omega, by omega, by omega, by omega, fun _ => by omega, fun h => List.eq_nil_of_length_eq_zero (by omega)⟩
/-- Written, and read again. -/
theorem parse_print {d : Dd} (h : wrongD d = 0) : parseD (printD d) = (d, 0) := by
 obtain ⟨h1, h2, h3, h4, h5, h6, h7, h8⟩ := right_nums h
 have hs : saidD (wordsB (printD d)) = (some d, 0) := by
  obtain ⟨k, y, n, l⟩ := d
  simp only at h1 h2 h3 h4 h5 h6 h7 h8
  unfold printD
  simp only
  by_cases hk3 : k = 3
  ·subst hk3
   rw [if_pos rfl, words_more _ _ (by decide), words_more _ _ (itoa_mem y), words_one _ (itoa_mem n)]
   have := h8 (by decide)
   subst this
   simp [saidD, wPut, wDelete, wPurge, numW_itoa (n := y) (by omega) (by omega), numW_itoa (n := n) (by omega) (by omega)]
  ·rw [if_neg hk3]
   have := h7 hk3
   subst this
   by_cases hk2 : k = 2
   ·subst hk2
    have := h8 (by decide)
    subst this
    rw [if_pos rfl, words_more _ _ (by decide), words_one _ (itoa_mem y)]
    simp [saidD, wPut, wDelete, numW_itoa (n := y) (by omega) (by omega)]
   ·obtain rfl : k = 1 := by omega
    rw [if_neg (by decide), words_more _ _ (by decide), words_more _ _ (itoa_mem y), words_one _ (dataW_mem l)]
    simp [saidD, wPut, numW_itoa (n := y) (by omega) (by omega), dataR_dataW]
 unfold parseD
 rw [hs]
 simp [h]
/-- A text that is read is its deed's. -/
theorem print_parse {s : List UInt8} {d : Dd} (h : parseD s = (d, 0)) : printD d = s ∧ wrongD d = 0 := by
 have hj := join_words s
 unfold parseD at h
 split at h
 ·rename_i x e hs
  split at h
  ·rename_i hw
   cases h
   refine ⟨?_, hw⟩
   rw [← hj]
   unfold saidD at hs
   cases hws : wordsB s with
   | nil => exact absurd hws (words_ne s)
   | cons w ws =>
    rw [hws] at hs
    simp only [List.head?_cons, Option.some.injEq, List.tail_cons] at hs
    split at hs
    ·rename_i hw0
     split at hs
     ·split at hs
      ·rename_i ha hb
       cases hs
       subst hw0
       show wPut ++ 32 :: (Lib.itoa _ ++ 32 :: dataW _) = wPut ++ 32 :: (_ ++ 32 :: _)
       rw [numW_some ha, dataW_dataR hb]
       rfl
      ·cases hs
     ·cases hs
    ·split at hs
     ·rename_i hw0
      split at hs
      ·split at hs
       ·rename_i ha
        cases hs
        subst hw0
        show wDelete ++ 32 :: Lib.itoa _ = wDelete ++ 32 :: _
        rw [numW_some ha]
        rfl
       ·cases hs
      ·cases hs
     ·split at hs
      ·rename_i hw0
       split at hs
       ·split at hs
        ·rename_i ha hb
         cases hs
         subst hw0
         show wPurge ++ 32 :: (Lib.itoa _ ++ 32 :: Lib.itoa _) = wPurge ++ 32 :: (_ ++ 32 :: _)
         rw [numW_some ha, numW_some hb]
         rfl
        ·cases hs
       ·cases hs
      ·cases hs
  ·rename_i hw
   simp only [Prod.mk.injEq] at h
   exact absurd h.2 hw
 ·rename_i e hs
  simp only [Prod.mk.injEq] at h
  obtain ⟨rfl, rfl⟩ := h
  exfalso
  unfold saidD at hs
  repeat' split at hs
  all_goals simp at hs
/-- What is unlike is written unlike. -/
theorem print_inj {a b : Dd} (ha : wrongD a = 0) (hb : wrongD b = 0) (h : printD a = printD b) : a = b := by
 have h1 := parse_print ha
 rw [h, parse_print hb] at h1
 exact (Prod.mk.inj h1).1.symm
end Go.Proofs.YtgaecpdokgklpabDoor
