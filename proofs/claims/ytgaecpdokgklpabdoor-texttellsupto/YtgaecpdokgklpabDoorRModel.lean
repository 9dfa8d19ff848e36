/-
  What the document's WrongDeed, RightRecords, Next, Made and Get tell of deeds, and of records.
  Condition: they lie in memory; of Next's: no version is above 60000.
-/
import Derived.Test.YtgaecpdokgklpabDoorRow
import Derived.Test.YtgaecpdokgklpabDoorWrong
namespace Go.Proofs.YtgaecpdokgklpabDoor
set_option maxRecDepth 100000
open Go.RowKit
open Go.Proofs.YtgaecpdokgklpabDoor.Plain Go.Proofs.YtgaecpdokgklpabDoor.Reg

/-- A deed. -/
structure Dd where
 kind : Int
 key : Int
 num : Int
 data : List UInt8
def wrongD (d : Dd) : Int :=
 if d.kind < 1 ∨ 3 < d.kind then 1
 else if d.key < 1 ∨ 255 < d.key ∨ d.num < (if d.kind = 3 then 1 else 0) ∨ (if d.kind = 3 then 60000 else 0) < d.num then 3
 else if 8 < d.data.length ∨ d.kind ≠ 1 ∧ d.data.length ≠ 0 then 4 else 0

set_option maxHeartbeats 4000000 in
theorem rwrongD_any (d : Dd) (a : Option Addr) (c : Nat) (w : World) (hm : d.data.length ≤ 140737488355328) :
  Calls Tryd.prog 9 #[.agg #[.int .i64 d.kind, .int .i64 d.key, .int .i64 d.num, .slice a d.data.length c]] w fun r w' => r = .returned (.int .i64 (wrongD d)) ∧ Grow w w' := by
 have g0 := grow_alloc w (.cells #[.int .i64 d.kind, .int .i64 d.key, .int .i64 d.num, .slice a d.data.length c] 24)
 obtain ⟨R, hR⟩ : ∃ R, R = wrongD d := ⟨_, rfl⟩
 rw [← hR]
 have HR : Hid _ := hR
 clear hR
 by_cases hk : d.kind < 1 ∨ 3 < d.kind
 ·have hRR : R = 1 := by rw [HR.out]; unfold wrongD; rw [if_pos hk]
  subst hRR
  rcases Int.lt_or_le d.kind 1 with h1 | h1
  ·clear hk
   go_enter Tryd.func9, Tryd.ntmps9
   go_wp2_with fail
   go_ret
   exact ⟨rfl, g0⟩
  ·have h2 : 3 < d.kind := by omega
   clear hk
   go_enter Tryd.func9, Tryd.ntmps9
   go_wp2_with fail
   go_ret
   exact ⟨rfl, g0⟩
 ·have h1 : 1 ≤ d.kind := by omega
  have h2 : d.kind ≤ 3 := by omega
  have HR2 : Hid (R = if d.key < 1 ∨ 255 < d.key ∨ d.num < (if d.kind = 3 then 1 else 0) ∨ (if d.kind = 3 then 60000 else 0) < d.num then 3 else if 8 < d.data.length ∨ d.kind ≠ 1 ∧ d.data.length ≠ 0 then 4 else 0) := by
   show R = _; rw [HR.out]; unfold wrongD; rw [if_neg hk]
  clear hk HR
  have key : ∀ lo hi : Int, (if d.kind = 3 then 1 else 0) = lo → (if d.kind = 3 then 60000 else 0) = hi → (d.key < 1 → R = 3) ∧ (255 < d.key → R = 3) ∧ (d.num < lo → R = 3) ∧ (hi < d.num → R = 3) ∧ (1 ≤ d.key → d.key ≤ 255 → lo ≤ d.num → d.num ≤ hi → (8 < d.data.length → R = 4) ∧ (d.kind ≠ 1 → d.data.length ≠ 0 → R = 4) ∧ (d.data.length ≤ 8 → (d.kind = 1 ∨ d.data.length = 0) → R = 0)) := by
   rintro lo hi rfl rfl
   refine ⟨fun h => ?_, fun h => ?_, fun h => ?_, fun h => ?_, fun a1 a2 a3 a4 => ⟨fun h => ?_, fun h h' => ?_, fun h h' => ?_⟩⟩
   ·rw [HR2.out, if_pos (.inl h)]
   ·rw [HR2.out, if_pos (.inr (.inl h))]
   ·rw [HR2.out, if_pos (.inr (.inr (.inl h)))]
   ·rw [HR2.out, if_pos (.inr (.inr (.inr h)))]
   ·rw [HR2.out, if_neg (by omega), if_pos (.inl h)]
   ·rw [HR2.out, if_neg (by omega), if_pos (.inr ⟨h, h'⟩)]
   ·rw [HR2.out, if_neg (by omega), if_neg (by omega)]
  by_cases h3 : d.kind = 3
  ·obtain ⟨k1, k2, k3, k4, k5⟩ := key 1 60000 (by rw [if_pos h3]) (by rw [if_pos h3])
   have K : Hid _ := And.intro k1 (And.intro k2 (And.intro k3 (And.intro k4 k5)))
   have d3 : (d.kind == 3) = true := by simp [h3]
   have d1 : (d.kind != 1) = true := by simp; omega
   clear key HR2 k1 k2 k3 k4 k5
   by_cases y1 : d.key < 1
   ·obtain rfl := (K.out.1 y1).symm
    clear h3 K
    go_enter Tryd.func9, Tryd.ntmps9
    go_wp2_with fail
    go_ret
    exact ⟨rfl, g0⟩
   ·by_cases y2 : 255 < d.key
    ·obtain rfl := (K.out.2.1 y2).symm
     clear h3 K
     go_enter Tryd.func9, Tryd.ntmps9
     go_wp2_with fail
     go_ret
     exact ⟨rfl, g0⟩
    ·by_cases y3 : d.num < 1
     ·obtain rfl := (K.out.2.2.1 y3).symm
      clear h3 K
      go_enter Tryd.func9, Tryd.ntmps9
      go_wp2_with fail
      go_ret
      exact ⟨rfl, g0⟩
     ·by_cases y4 : 60000 < d.num
      ·obtain rfl := (K.out.2.2.2.1 y4).symm
       clear h3 K
       go_enter Tryd.func9, Tryd.ntmps9
       go_wp2_with fail
       go_ret
       exact ⟨rfl, g0⟩
      ·obtain ⟨k1, k2, k3⟩ := K.out.2.2.2.2 (by omega) (by omega) (by omega) (by omega)
       by_cases y5 : 8 < d.data.length
       ·obtain rfl := (k1 y5).symm
        clear h3 K k1 k2 k3
        go_enter Tryd.func9, Tryd.ntmps9
        go_wp2_with fail
        go_ret
        exact ⟨rfl, g0⟩
       ·by_cases y6 : d.data.length = 0
        ·obtain rfl := (k3 (by omega) (.inr y6)).symm
         have d6 : ((d.data.length : Int) != 0) = false := by simp; exact List.eq_nil_of_length_eq_zero y6
         clear h3 K k1 k2 k3 y6
         go_enter Tryd.func9, Tryd.ntmps9
         go_wp2_with fail
         go_ret
         exact ⟨rfl, g0⟩
        ·obtain rfl := (k2 (by omega) y6).symm
         have d6 : ((d.data.length : Int) != 0) = true := by simp; intro e; exact y6 (by rw [e]; rfl)
         clear h3 K k1 k2 k3 y6
         go_enter Tryd.func9, Tryd.ntmps9
         go_wp2_with fail
         go_ret
         exact ⟨rfl, g0⟩
  ·obtain ⟨k1, k2, k3, k4, k5⟩ := key 0 0 (by rw [if_neg h3]) (by rw [if_neg h3])
   have K : Hid _ := And.intro k1 (And.intro k2 (And.intro k3 (And.intro k4 k5)))
   have d3 : (d.kind == 3) = false := by simp [h3]
   clear key HR2 k1 k2 k3 k4 k5
   by_cases y1 : d.key < 1
   ·obtain rfl := (K.out.1 y1).symm
    clear h3 K
    go_enter Tryd.func9, Tryd.ntmps9
    go_wp2_with fail
    go_ret
    exact ⟨rfl, g0⟩
   ·by_cases y2 : 255 < d.key
    ·obtain rfl := (K.out.2.1 y2).symm
     clear h3 K
     go_enter Tryd.func9, Tryd.ntmps9
     go_wp2_with fail
     go_ret
     exact ⟨rfl, g0⟩
    ·by_cases y3 : d.num < 0
     ·obtain rfl := (K.out.2.2.1 y3).symm
      clear h3 K
      go_enter Tryd.func9, Tryd.ntmps9
      go_wp2_with fail
      go_ret
      exact ⟨rfl, g0⟩
     ·by_cases y4 : 0 < d.num
      ·obtain rfl := (K.out.2.2.2.1 y4).symm
       clear h3 K
       go_enter Tryd.func9, Tryd.ntmps9
       go_wp2_with fail
       go_ret
       exact ⟨rfl, g0⟩
      ·obtain ⟨k1, k2, k3⟩ := K.out.2.2.2.2 (by omega) (by omega) (by omega) (by omega)
       by_cases y5 : 8 < d.data.length
       ·obtain rfl := (k1 y5).symm
        clear h3 K k1 k2 k3
        go_enter Tryd.func9, Tryd.ntmps9
        go_wp2_with fail
        go_ret
        exact ⟨rfl, g0⟩
       ·by_cases y7 : d.kind = 1
        ·obtain rfl := (k3 (by omega) (.inl y7)).symm
         have d7 : (d.kind != 1) = false := by simp [y7]
         clear h3 K k1 k2 k3 y7
         go_enter Tryd.func9, Tryd.ntmps9
         go_wp2_with fail
         go_ret
         exact ⟨rfl, g0⟩
        ·have d7 : (d.kind != 1) = true := by simp [y7]
         by_cases y6 : d.data.length = 0
         ·obtain rfl := (k3 (by omega) (.inr y6)).symm
          have d6 : ((d.data.length : Int) != 0) = false := by simp; exact List.eq_nil_of_length_eq_zero y6
          clear h3 K k1 k2 k3 y6 y7
          go_enter Tryd.func9, Tryd.ntmps9
          go_wp2_with fail
          go_ret
          exact ⟨rfl, g0⟩
         ·obtain rfl := (k2 y7 y6).symm
          have d6 : ((d.data.length : Int) != 0) = true := by simp; intro e; exact y6 (by rw [e]; rfl)
          clear h3 K k1 k2 k3 y6 y7
          go_enter Tryd.func9, Tryd.ntmps9
          go_wp2_with fail
          go_ret
          exact ⟨rfl, g0⟩

/-- A record of something. -/
def goodR (r : Rec) : Bool := decide (wrong r = 0 ∧ r.kind ≠ 1)
def rightR (l : List Rec) : Bool := l.all goodR && decide (l.length ≤ 40)
/-- One more than the greatest version. -/
def nextV (l : List Rec) : Int := l.foldl (fun n r => if n ≤ r.ver then r.ver + 1 else n) 1
theorem nextV_snoc (l : List Rec) (k : Nat) (h : k < l.length) : nextV (l.take (k + 1)) = if nextV (l.take k) ≤ l[k].ver then l[k].ver + 1 else nextV (l.take k) := by
 unfold nextV
 rw [List.take_succ_eq_append_getElem h, List.foldl_append]; rfl
theorem nextV_bd (l : List Rec) (h : ∀ r ∈ l, r.ver ≤ 60000) : 1 ≤ nextV l ∧ nextV l ≤ 60001 := by
 have key : ∀ (l : List Rec) (n : Int), (∀ r ∈ l, r.ver ≤ 60000) → 1 ≤ n → n ≤ 60001 → 1 ≤ l.foldl (fun n r => if n ≤ r.ver then r.ver + 1 else n) n ∧ l.foldl (fun n r => if n ≤ r.ver then r.ver + 1 else n) n ≤ 60001 := by
  intro l
  induction l with
  | nil => intro n _ h1 h2; exact ⟨h1, h2⟩
  | cons x l ih =>
   intro n hb h1 h2
   rw [List.foldl_cons]
   have hx := hb x (by simp)
   refine ih _ (fun r hr => hb r (by simp [hr])) ?_ ?_ <;> split <;> omega
 exact key l 1 h (by omega) (by omega)
/-- What a deed makes. -/
def madeR (d : Dd) (n : Int) : Rec := ⟨1 + d.kind, d.key, n, d.data⟩
/-- What a key has: the greatest version so far, its record. -/
structure Got where
 n : Int
 e : Int
 data : List UInt8
def getStep (key : Int) (g : Got) (r : Rec) : Got := if r.key ≠ key ∨ r.ver ≤ g.n then g else if r.kind = 3 then ⟨r.ver, 10, []⟩ else ⟨r.ver, 0, r.data⟩
def getK (l : List Rec) (key : Int) : Got := l.foldl (getStep key) ⟨0, 6, []⟩
theorem getK_snoc (l : List Rec) (key : Int) (k : Nat) (h : k < l.length) : getK (l.take (k + 1)) key = getStep key (getK (l.take k) key) l[k] := by
 unfold getK
 rw [List.take_succ_eq_append_getElem h, List.foldl_append]; rfl
end Go.Proofs.YtgaecpdokgklpabDoor
