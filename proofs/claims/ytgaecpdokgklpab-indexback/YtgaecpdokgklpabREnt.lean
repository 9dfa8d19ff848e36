/-
  What the document's less, Insert and SameEntries tell of entries.
  Condition: they lie in memory, at most a million of them.
-/
import Derived.Test.YtgaecpdokgklpabRow
import Derived.Test.YtgaecpdokgklpabJSum
namespace Go.Proofs.Ytgaecpdokgklpab
set_option maxRecDepth 100000
open Go.RowKit
open Go.Proofs.Ytgaecpdokgklpab.Plain Go.Proofs.Ytgaecpdokgklpab.Reg

def lessB (a b : Ent) : Bool := if a.rc.key = b.rc.key then (if a.rc.ver = b.rc.ver then decide (a.pair < b.pair) else decide (a.rc.ver < b.rc.ver)) else decide (a.rc.key < b.rc.key)
def insStep (e : Ent) (st : List Ent × Bool) (x : Ent) : List Ent × Bool := if st.2 = false ∧ lessB e x = true then (st.1 ++ [e] ++ [x], true) else (st.1 ++ [x], st.2)
def insSt (e : Ent) (l : List Ent) : List Ent × Bool := l.foldl (insStep e) ([], false)
def insertE (e : Ent) (l : List Ent) : List Ent := if (insSt e l).2 = true then (insSt e l).1 else (insSt e l).1 ++ [e]

set_option maxHeartbeats 1000000 in
theorem rless_any (x y : Ent) (a b : Option Addr) (c c' : Nat) (w : World) :
  Calls Try.prog 41 #[.agg #[.int .i64 x.rc.kind, .int .i64 x.rc.key, .int .i64 x.rc.ver, .slice a x.rc.data.length c, .int .i64 x.pair], .agg #[.int .i64 y.rc.kind, .int .i64 y.rc.key, .int .i64 y.rc.ver, .slice b y.rc.data.length c', .int .i64 y.pair]] w fun e w' => e = .returned (.bool (lessB x y)) ∧ Grow w w' := by
 have gW := grow_alloc2 w (.cells #[.int .i64 x.rc.kind, .int .i64 x.rc.key, .int .i64 x.rc.ver, .slice a x.rc.data.length c, .int .i64 x.pair] 37) (.cells #[.int .i64 y.rc.kind, .int .i64 y.rc.key, .int .i64 y.rc.ver, .slice b y.rc.data.length c', .int .i64 y.pair] 37)
 by_cases hk : x.rc.key = y.rc.key
 ·have d0 : (x.rc.key != y.rc.key) = false := by simp [hk]
  by_cases hv : x.rc.ver = y.rc.ver
  ·have d1 : (x.rc.ver != y.rc.ver) = false := by simp [hv]
   have HL : Hid (lessB x y = decide (x.pair < y.pair)) := by show lessB x y = _; unfold lessB; rw [if_pos hk, if_pos hv]
   rw [HL.out]
   clear hk hv
   go_enter Try.func41, Try.ntmps41
   go_wp2_with fail
   go_ret
   exact ⟨rfl, gW⟩
  ·have d1 : (x.rc.ver != y.rc.ver) = true := by simp [hv]
   have HL : Hid (lessB x y = decide (x.rc.ver < y.rc.ver)) := by show lessB x y = _; unfold lessB; rw [if_pos hk, if_neg hv]
   rw [HL.out]
   clear hk hv
   go_enter Try.func41, Try.ntmps41
   go_wp2_with fail
   go_ret
   exact ⟨rfl, gW⟩
 ·have d0 : (x.rc.key != y.rc.key) = true := by simp [hk]
  have HL : Hid (lessB x y = decide (x.rc.key < y.rc.key)) := by show lessB x y = _; unfold lessB; rw [if_neg hk]
  rw [HL.out]
  clear hk
  go_enter Try.func41, Try.ntmps41
  go_wp2_with fail
  go_ret
  exact ⟨rfl, gW⟩

theorem insSt_len (e : Ent) (l : List Ent) : (insSt e l).1.length ≤ 2 * l.length := by
 have key : ∀ (l : List Ent) (st : List Ent × Bool), (l.foldl (insStep e) st).1.length ≤ st.1.length + 2 * l.length := by
  intro l
  induction l with
  | nil => intro st; simp
  | cons x l ih =>
   intro st
   rw [List.foldl_cons, List.length_cons]
   have h1 := ih (insStep e st x)
   have h2 : (insStep e st x).1.length ≤ st.1.length + 2 := by unfold insStep; split <;> simp
   omega
 have h := key l ([], false)
 rw [List.length_nil] at h
 unfold insSt
 omega
theorem insSt_snoc (e : Ent) (l : List Ent) (k : Nat) (h : k < l.length) : insSt e (l.take (k + 1)) = insStep e (insSt e (l.take k)) l[k] := by
 unfold insSt
 rw [List.take_succ_eq_append_getElem h, List.foldl_append]; rfl

end Go.Proofs.Ytgaecpdokgklpab
