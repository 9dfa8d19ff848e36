/-
  What is asked of the program's index: the contracts of its functions, as premises. No program but its functions' numbers.
-/
import Derived.Test.YtgaecpdokgklpabIdxLaw
import Derived.Test.YtgaecpdokgklpabPairC
namespace Go.Proofs.Ytgaecpdokgklpab
set_option maxRecDepth 100000
open Go.RowKit
open Go.Proofs.Ytgaecpdokgklpab.Plain Go.Proofs.Ytgaecpdokgklpab.Reg

theorem SliceS.all {α : Type} {sh : Shape α} {S : Nat → Prop} {w : World} {v : Value} {xs : List α} (h : SliceS sh S w v xs) (hs : 0 < sh.size) : SliceS sh (fun b => b < w.heap.size) w v xs := (h.caps hs).mono fun _ h => h.2
theorem nodup_lt : ∀ (n : Nat) (l : List Nat), l.Nodup → (∀ x ∈ l, x < n) → l.length ≤ n
 | 0, l, _, h => by
  cases l with
  | nil => simp
  | cons x l => exact absurd (h x (by simp)) (by omega)
 | n + 1, l, hn, h => by
  have h1 := nodup_lt n (l.erase n) (hn.erase n) fun x hx => by
   have h2 := (hn.mem_erase_iff).1 hx
   have := h x h2.2
   omega
  by_cases hm : n ∈ l
  ·have := List.length_erase_of_mem hm
   omega
  ·rw [List.erase_of_not_mem hm] at h1
   omega
theorem right_len {l : List Ent} (h : rightI l = true) : l.length ≤ 1001 := by
 obtain ⟨h1, h2⟩ := (rightI_iff l).1 h
 have hn : (l.map fun x => x.pair.toNat).Nodup := by
  rw [List.nodup_iff_pairwise_ne, List.pairwise_map]
  exact List.Pairwise.imp_of_mem (fun ha hb hR e => hR.2 (by have := (h2 _ ha).2.2; have := (h2 _ hb).2.2; omega)) h1
 have := nodup_lt 1001 _ hn fun n hn => by
  obtain ⟨x, hx, rfl⟩ := List.mem_map.1 hn
  have := (h2 x hx).2.2
  omega
 simpa using this

def IOwnC : Prop := ∀ (S : Nat → Prop) (l : List Ent) (v : Value) (w : World), (∀ b, S b → b < w.heap.size) → rightI l = true → EntsS S w v l →
 Calls Try.prog 36 #[v] w fun r w' => ∃ v', r = .returned v' ∧ EntsS (Upon S w.heap.size) w' v' l ∧ Grow w w'
def IScanC : Prop := ∀ (S : Nat → Prop) (d : Dk) (v : Value) (w : World), (∀ b, S b → b < w.heap.size) → d.Fine 900 → DiskS S d v w →
 Calls Try.prog 10 #[v] w fun r w' => ∃ v', r = .returned v' ∧ EntsS (Upon S w.heap.size) w' v' (scanE d 6) ∧ Grow w w'
def IFreeC : Prop := ∀ (S : Nat → Prop) (l : List Ent) (pairs : Int) (v : Value) (w : World), rightI l = true → pairs ≤ 1000 → EntsS S w v l →
 Calls Try.prog 35 #[v, .int .i64 pairs] w fun r w' => ∃ n, r = .returned (.int .i64 n) ∧ FreeOf l pairs n ∧ Grow w w'
def IAddC : Prop := ∀ (S : Nat → Prop) (l : List Ent) (e : Ent) (a : Option Addr) (c : Nat) (v : Value) (w : World), (∀ b, S b → b < w.heap.size) → rightI l = true → (∀ x ∈ l, x.pair ≠ e.pair) → wrong e.rc = 0 → EntsS S w v l → BytesS S w (.slice a e.rc.data.length c) e.rc.data →
 Calls Try.prog 14 #[v, .agg #[.int .i64 e.rc.kind, .int .i64 e.rc.key, .int .i64 e.rc.ver, .slice a e.rc.data.length c, .int .i64 e.pair]] w fun r w' => ∃ v', r = .returned v' ∧ EntsS (Upon S w.heap.size) w' v' (insertE e l) ∧ Grow w w'
def IDropC : Prop := ∀ (S : Nat → Prop) (l : List Ent) (p : Int) (v : Value) (w : World), (∀ b, S b → b < w.heap.size) → rightI l = true → EntsS S w v l →
 Calls Try.prog 17 #[v, .int .i64 p] w fun r w' => ∃ v', r = .returned v' ∧ EntsS (Upon S w.heap.size) w' v' (dropE l p) ∧ Grow w w'
/-- An entry, and whether there is one. -/
def EntQ (S : Nat → Prop) (o : Option Ent) (v : Value) (w : World) : Prop := ∃ (x : Ent) (a : Option Addr) (c : Nat), v = .tuple #[.agg #[.int .i64 x.rc.kind, .int .i64 x.rc.key, .int .i64 x.rc.ver, .slice a x.rc.data.length c, .int .i64 x.pair], .bool o.isSome] ∧ ∀ y, o = some y → y = x ∧ BytesS S w (.slice a x.rc.data.length c) x.rc.data
def ILastC : Prop := ∀ (S : Nat → Prop) (l : List Ent) (key : Int) (v : Value) (w : World), (∀ b, S b → b < w.heap.size) → rightI l = true → EntsS S w v l →
 Calls Try.prog 34 #[v, .int .i64 key] w fun r w' => ∃ v', r = .returned v' ∧ EntQ (Upon S w.heap.size) (lastOf l key) v' w' ∧ Grow w w'
def IFindC : Prop := ∀ (S : Nat → Prop) (l : List Ent) (key ver : Int) (v : Value) (w : World), (∀ b, S b → b < w.heap.size) → rightI l = true → EntsS S w v l →
 Calls Try.prog 15 #[v, .int .i64 key, .int .i64 ver] w fun r w' => ∃ v', r = .returned v' ∧ EntQ (Upon S w.heap.size) (findOf l key ver) v' w' ∧ Grow w w'
end Go.Proofs.Ytgaecpdokgklpab
