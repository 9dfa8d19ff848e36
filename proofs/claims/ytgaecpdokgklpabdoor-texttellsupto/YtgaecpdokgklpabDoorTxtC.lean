/-
  What is asked of the program's text: the contracts of its functions, as premises (V: what is told of the package variables that they read); and what the document's SameDeed tells of deeds.
-/
import Derived.Test.YtgaecpdokgklpabDoorTxt
import Derived.Test.YtgaecpdokgklpabDoorJSum
namespace Go.Proofs.YtgaecpdokgklpabDoor
set_option maxRecDepth 100000
open Go.RowKit
open Go.Proofs.YtgaecpdokgklpabDoor.Plain Go.Proofs.YtgaecpdokgklpabDoor.Reg

def TPrintC (V : World → Prop) : Prop := ∀ (d : Dd) (a : Option Addr) (c : Nat) (w : World), V w → wrongD d = 0 → Bytes w (.slice a d.data.length c) d.data →
 Calls Tryd.prog 10 #[.agg #[.int .i64 d.kind, .int .i64 d.key, .int .i64 d.num, .slice a d.data.length c]] w fun r w' => r = .returned (.string ⟨(printD d).toArray⟩) ∧ Grow w w'
/-- A deed beside an error. -/
def DeedQ (p : Dd × Int) (v : Value) (w : World) : Prop := ∃ a c, v = .tuple #[.agg #[.int .i64 p.1.kind, .int .i64 p.1.key, .int .i64 p.1.num, .slice a p.1.data.length c], .int .i64 p.2] ∧ Bytes w (.slice a p.1.data.length c) p.1.data
def TParseC (V : World → Prop) : Prop := ∀ (s : List UInt8) (w : World), V w → s.length ≤ 140737488355328 →
 Calls Tryd.prog 6 #[.string ⟨s.toArray⟩] w fun r w' => ∃ v, r = .returned v ∧ DeedQ (parseD s) v w' ∧ Grow w w'
def sameD (a b : Dd) : Bool := decide (a.kind = b.kind ∧ a.key = b.key ∧ a.num = b.num ∧ a.data = b.data)
theorem sameD_iff (a b : Dd) : sameD a b = true ↔ a = b := by
 obtain ⟨k, y, n, l⟩ := a
 obtain ⟨k', y', n', l'⟩ := b
 simp [sameD]
theorem run_str7 (w : World) (v : Value) (l : List UInt8) (h : Bytes w v l) : (convert 22 9 v).run Tryd.prog w = .ok (.string ⟨l.toArray⟩) w := run_str w v l h

set_option maxHeartbeats 2000000 in
theorem rsameD_any (d e : Dd) (a b : Option Addr) (c c' : Nat) (w : World) (hd : Bytes w (.slice a d.data.length c) d.data) (he : Bytes w (.slice b e.data.length c') e.data) :
  Calls Tryd.prog 8 #[.agg #[.int .i64 d.kind, .int .i64 d.key, .int .i64 d.num, .slice a d.data.length c], .agg #[.int .i64 e.kind, .int .i64 e.key, .int .i64 e.num, .slice b e.data.length c']] w fun r w' => r = .returned (.bool (sameD d e)) ∧ Grow w w' := by
 have g0 := grow_alloc2 w (.cells #[.int .i64 d.kind, .int .i64 d.key, .int .i64 d.num, .slice a d.data.length c] 24) (.cells #[.int .i64 e.kind, .int .i64 e.key, .int .i64 e.num, .slice b e.data.length c'] 24)
 have ra := run_str7 _ _ _ (bytes_grow hd g0)
 have rb := run_str7 _ _ _ (bytes_grow he g0)
 obtain ⟨R, hR⟩ : ∃ R, R = sameD d e := ⟨_, rfl⟩
 rw [← hR]
 have HR : Hid _ := hR
 clear hR hd he
 by_cases h1 : d.kind = e.kind
 ·have d1 : (d.kind == e.kind) = true := by simp [h1]
  by_cases h2 : d.key = e.key
  ·have d2 : (d.key == e.key) = true := by simp [h2]
   by_cases h3 : d.num = e.num
   ·have d3 : (d.num == e.num) = true := by simp [h3]
    by_cases h4 : d.data = e.data
    ·have hRR : R = true := by rw [HR.out]; simp [sameD, h1, h2, h3, h4]
     subst hRR
     have d4 : (d.data == e.data) = true := by simp [h4]
     clear h1 h2 h3 h4 HR
     go_enter Tryd.func8, Tryd.ntmps8
     go_wp2_with fail
     go_ret
     exact ⟨rfl, g0⟩
    ·have hRR : R = false := by rw [HR.out]; simp [sameD, h4]
     subst hRR
     have d4 : (d.data == e.data) = false := by simp [h4]
     clear h1 h2 h3 h4 HR
     go_enter Tryd.func8, Tryd.ntmps8
     go_wp2_with fail
     go_ret
     exact ⟨rfl, g0⟩
   ·have hRR : R = false := by rw [HR.out]; simp [sameD, h3]
    subst hRR
    have d3 : (d.num == e.num) = false := by simp [h3]
    clear h1 h2 h3 HR
    go_enter Tryd.func8, Tryd.ntmps8
    go_wp2_with fail
    go_ret
    exact ⟨rfl, g0⟩
  ·have hRR : R = false := by rw [HR.out]; simp [sameD, h2]
   subst hRR
   have d2 : (d.key == e.key) = false := by simp [h2]
   clear h1 h2 HR
   go_enter Tryd.func8, Tryd.ntmps8
   go_wp2_with fail
   go_ret
   exact ⟨rfl, g0⟩
 ·have hRR : R = false := by rw [HR.out]; simp [sameD, h1]
  subst hRR
  have d1 : (d.kind == e.kind) = false := by simp [h1]
  clear h1 HR
  go_enter Tryd.func8, Tryd.ntmps8
  go_wp2_with fail
  go_ret
  exact ⟨rfl, g0⟩
end Go.Proofs.YtgaecpdokgklpabDoor
