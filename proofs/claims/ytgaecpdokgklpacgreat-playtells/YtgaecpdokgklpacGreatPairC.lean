import Derived.Test.YtgaecpdokgklpacGreatRIndex
import Derived.Test.YtgaecpdokgklpacGreatRNew
import Derived.Test.YtgaecpdokgklpacGreatJRd
import Derived.Maps.OwnOps
import Derived.Maps.Views
set_option maxHeartbeats 8000000
namespace Go.Proofs.YtgaecpdokgklpacGreat
set_option maxRecDepth 100000
open Go.RowKit
open Plain Reg
def Ys (S : Nat → Prop) (d : Dk) (v : Value) (w : World) : Prop := ∃ vb vl, v = .agg #[vb, vl] ∧ Y2 S w vb d.blocks ∧ Xk S w vl d.late
theorem Ys.grow {S : Nat → Prop} {d : Dk} {v : Value} {w w' : World} (h : Ys S d v w) (hg : Zo w w') : Ys S d v w' := by
 obtain ⟨vb, vl, h1, h2, h3⟩ := h; exact ⟨vb, vl, h1, h2.grow hg, h3.grow hg⟩
theorem Ys.mono {S S' : Nat → Prop} {d : Dk} {v : Value} {w : World} (h : Ys S d v w) (hS : ∀ b, S b → S' b) : Ys S' d v w := by
 obtain ⟨vb, vl, h1, h2, h3⟩ := h; exact ⟨vb, vl, h1, h2.mono hS, h3.mono hS⟩
theorem Ys.but {S : Nat → Prop} {g : Nat} {d : Dk} {v : Value} {w w' : World} (h : Ys S d v w) (hg : Zr g w w') (hn : ¬ S g) : Ys S d v w' := by
 obtain ⟨vb, vl, h1, h2, h3⟩ := h; exact ⟨vb, vl, h1, h2.but hg hn, h3.but hg hn⟩
theorem Ys.p {S : Nat → Prop} {d : Dk} {v : Value} {w : World} (h : Ys S d v w) : Qx d v w := by
 obtain ⟨vb, vl, h1, h2, h3⟩ := h; exact ⟨vb, vl, h1, h2.p, h3.p⟩
theorem Qx.s {d : Dk} {v : Value} {w : World} (h : Qx d v w) : Ys (fun b => b < w.heap.size) d v w := by
 obtain ⟨vb, vl, h1, h2, h3⟩ := h; exact ⟨vb, vl, h1, h2.s, h3.s⟩
theorem Ys.form {S : Nat → Prop} {d : Dk} {v : Value} {w : World} (h : Ys S d v w) : ∃ ab cb al cl, v = .agg #[.slice ab d.blocks.length cb, .slice al d.late.length cl] ∧ Y2 S w (.slice ab d.blocks.length cb) d.blocks ∧ Xk S w (.slice al d.late.length cl) d.late := by
 obtain ⟨vb, vl, h1, h2, h3⟩ := h;obtain ⟨ab, cb, rfl⟩ := h2.p.form;obtain ⟨al, cl, rfl⟩ := h3.p.form;exact ⟨ab, cb, al, cl, h1, h2, h3⟩
theorem Q5.s {B : Nat} {d : Dk} {v : Value} {w : World} (S : Nat → Prop) (h : Q5 B d v w) : Ys (Zw S B) d v w := by
 obtain ⟨vb, vl, h1, ⟨us, h2⟩, ⟨ut, h3⟩⟩ := h;refine ⟨vb, vl, h1, ?_, ?_⟩
 ·rcases h2.row.2 with ⟨rfl, h0⟩ | ⟨q, cap, cur, rfl, hb, hh, k1, k2, k3, k4⟩
  ·exact .inl ⟨none, 0, rfl, List.eq_nil_of_length_eq_zero h0, fun _ => rfl⟩
  ·refine .inr ⟨q, 0, cap, .inr hb, rfl, k1, fun i hi => ?_⟩;have c0 := h2.row.cellAt i (by omega);obtain ⟨u, hu1, hu2⟩ := h2.each i hi;rw [hu1] at c0;exact ⟨u, by rw [Nat.zero_add]; exact c0, Zby S hu2⟩
 ·exact (Zfu (S := Zw S B) h3.row h3.len (fun i hi => (h3.each i hi).imp fun _ hu => ⟨hu.1, Zby S hu.2⟩)).mono (fun b hb => hb.elim (fun x => x) .inr)
structure Dk.Fine (n : Nat) (d : Dk) : Prop where
 len : d.blocks.length = 12
 few : d.late.length ≤ n
 block : ∀ x ∈ d.blocks, x.length = 16
 late : ∀ x ∈ d.late, x.2.length = 16
 place : ∀ x ∈ d.late, 0 ≤ x.1 ∧ x.1 < 12
theorem Dk.Fine.mono {n m : Nat} {d : Dk} (h : d.Fine n) (hm : n ≤ m) : d.Fine m := ⟨h.len, Nat.le_trans h.few hm, h.block, h.late, h.place⟩
theorem Dk.Fine.b16 {n : Nat} {d : Dk} (h : d.Fine n) : ∀ x ∈ d.blocks, x.length ≤ 1000 := fun x hx => by rw [h.block x hx]; omega
theorem Dk.Fine.l16 {n : Nat} {d : Dk} (h : d.Fine n) : ∀ x ∈ d.late, x.2.length ≤ 1000 := fun x hx => by rw [h.late x hx]; omega
theorem Dk.Fine.pl {n : Nat} {d : Dk} (h : d.Fine n) : ∀ x ∈ d.late, 0 ≤ x.1 ∧ x.1 < (d.blocks.length : Int) := fun x hx => by rw [h.len]; exact h.place x hx
theorem Dk.Fine.pair {n : Nat} {d : Dk} (h : d.Fine n) (p : Int) (r : Rec) : (d.pairD p r).Fine (n + 2) := by
 unfold Dk.pairD;by_cases he : d.pairE p r = 0
 ·rw [if_pos he];unfold Dk.pairE at he;by_cases ho : p < 0 ∨ ((d.blocks.length / 2 : Nat) : Int) ≤ p
  ·rw [if_pos ho] at he; omega
  ·rw [if_neg ho] at he;have hl := (Vm he).2.2.2.2.2.2;have h12 := h.len;rw [h12] at ho;refine ⟨h.len, by show (d.late ++ [_, _]).length ≤ _; have := h.few; simp; omega, h.block, fun x hx => ?_, fun x hx => ?_⟩
   ·rcases List.mem_append.1 (show x ∈ d.late ++ [_, _] from hx) with h1 | h1
    ·exact h.late x h1
    ·rcases List.mem_cons.1 h1 with rfl | h2
     ·exact Qq r _ hl
     ·rw [List.mem_singleton.1 h2]; exact Qq r _ hl
   ·rcases List.mem_append.1 (show x ∈ d.late ++ [_, _] from hx) with h1 | h1
    ·exact h.place x h1
    ·rcases List.mem_cons.1 h1 with rfl | h2
     ·show 0 ≤ 2 * p ∧ 2 * p < 12; omega
     ·rw [List.mem_singleton.1 h2]; show 0 ≤ 2 * p + 1 ∧ 2 * p + 1 < 12; omega
 ·rw [if_neg he]; exact h.mono (by omega)
theorem Dk.Fine.mend {n : Nat} {d : Dk} (h : d.Fine n) (p : Int) : (d.mendD p).Fine (n + 2) := by
 unfold Dk.mendD;split
 ·exact h.pair p _
 ·exact h.mono (by omega)
theorem Dk.Fine.keep {n : Nat} {d : Dk} (h : d.Fine n) (on : Nat → Bool) : ∀ k, k ≤ d.late.length → ∀ x ∈ d.keepTo on k, x.length = 16
 | 0, _ => h.block
 | k + 1, hk => by
  have ih := keep h on k (by omega);show ∀ x ∈ (if on k = true then _ else _ : List (List UInt8)), x.length = 16;split
  ·intro x hx;rcases List.mem_or_eq_of_mem_set hx with h1 | h1
   ·exact ih x h1
   ·rw [h1, Qv _ _ _ (by omega)]; exact h.late _ (List.getElem_mem _)
  ·exact ih
theorem Dk.Fine.kept {n : Nat} {d : Dk} (h : d.Fine n) (bt : Int) : (d.keep bt).Fine 0 :=
 ⟨(d.keepTo_length _ _).trans h.len, Nat.le_refl _, h.keep _ _ (Nat.le_refl _), (fun x hx => by cases hx), (fun x hx => by cases hx)⟩
theorem Dk.Fine.flush {n : Nat} {d : Dk} (h : d.Fine n) : d.flush.Fine 0 :=
 ⟨(d.keepTo_length _ _).trans h.len, Nat.le_refl _, h.keep _ _ (Nat.le_refl _), (fun x hx => by cases hx), (fun x hx => by cases hx)⟩
theorem Dk.Fine.spoil {n : Nat} {d : Dk} (h : d.Fine n) (a k y : Int) : (d.spoil a k y).Fine n := by
 unfold Dk.spoil;split
 ·rename_i ha;refine ⟨by rw [List.length_set]; exact h.len, h.few, fun x hx => ?_, h.late, h.place⟩;rcases List.mem_or_eq_of_mem_set hx with h1 | h1
  ·exact h.block x h1
  ·rw [h1, Jn, Qv _ _ _ (by omega)]; exact h.block _ (List.getElem_mem _)
 ·exact h
theorem Zfl : Dk.new.Fine 0 :=
 ⟨rfl, Nat.le_refl _, fun x hx => by
  obtain ⟨i, hi, rfl⟩ := List.mem_iff_getElem.1 hx;rw [Zmd i hi]; exact Qq _ _ (by simp), (fun x hx => by cases hx), (fun x hx => by cases hx)⟩
theorem Dk.pairD_blocks (d : Dk) (p : Int) (r : Rec) : (d.pairD p r).blocks = d.blocks := by unfold Dk.pairD; split <;> rfl
theorem Dk.mendD_blocks (d : Dk) (p : Int) : (d.mendD p).blocks = d.blocks := by
 unfold Dk.mendD; split
 ·exact d.pairD_blocks p _
 ·rfl
theorem Zt9 (s t : Dk) (v u : Value) (w : World) (hs : Qx s v w) (ht : Qx t u w) (hm : s.blocks.length ≤ 1000000) (hm2 : s.late.length ≤ 1000000) : Calls Tryz.prog 33 #[v, u] w fun e w' => e = .returned (.bool (s.same t)) ∧ Zo w w' := by
 obtain ⟨vb, vl, rfl, h1, h2⟩ := hs;obtain ⟨ub, ul, rfl, h3, h4⟩ := ht;exact Zh5 s t vb vl ub ul w h1 h2 h3 h4 (by omega) (by omega)
theorem Zem (d : Dk) (p : Int) (v : Value) (w : World) (hd : Qx d v w) (hlen : d.blocks.length ≤ 256) (hm : d.late.length ≤ 999990) :
  Calls Tryz.prog 35 #[v, .int .i64 p] w fun e w' => ∃ dv, e = .returned (.tuple #[.int .i64 (d.how p), .agg #[.int .i64 (d.tell p).kind, .int .i64 (d.tell p).key, .int .i64 (d.tell p).ver, dv]]) ∧ w'.ownsRow w.heap.size 5 1 dv (d.tell p).data.length ((d.tell p).data.map bv) ∧ Zo w w' := by
 obtain ⟨vb, vl, rfl, h1, h2⟩ := hd;exact Zfq _ d p vb vl w h1.s h2.s hlen hm
theorem Zb8 (S : Nat → Prop) (d : Dk) (p k y n : Int) (l : List UInt8) (v u : Value) (w : World) (hS : ∀ b, S b → b < w.heap.size) (hd : Ys S d v w) (hu : Bytes w u l) (hlen : d.blocks.length ≤ 256) (hm : d.late.length ≤ 999990) :
  Calls Tryz.prog 58 #[v, .int .i64 p, .agg #[.int .i64 k, .int .i64 y, .int .i64 n, u]] w fun e w' => ∃ v', e = .returned (.tuple #[v', .int .i64 (d.pairE p ⟨k, y, n, l⟩)]) ∧ Ys (Zw S w.heap.size) (d.pairD p ⟨k, y, n, l⟩) v' w' ∧ Zo w w' := by
 obtain ⟨vb, vl, rfl, h1, h2⟩ := hd;refine (Zd6 S d p k y n l vb vl u w hS h1.p h2 hu hlen hm).mono fun e w' ⟨vl', h3, h4, h5⟩ => ⟨_, h3, ⟨vb, vl', rfl, ?_, h4⟩, h5⟩
 rw [d.pairD_blocks]; exact (h1.grow h5).mono Vr
theorem Zua (S : Nat → Prop) (d : Dk) (p : Int) (v : Value) (w : World) (hS : ∀ b, S b → b < w.heap.size) (hd : Ys S d v w) (hlen : d.blocks.length ≤ 256) (hm : d.late.length ≤ 999990) :
  Calls Tryz.prog 31 #[v, .int .i64 p] w fun e w' => ∃ v', e = .returned (.tuple #[v', .int .i64 (d.how p)]) ∧ Ys (Zw S w.heap.size) (d.mendD p) v' w' ∧ Zo w w' := by
 obtain ⟨vb, vl, rfl, h1, h2⟩ := hd;refine (Zsc S d p vb vl w hS h1 h2 hlen hm).mono fun e w' ⟨vl', h3, h4, h5⟩ => ⟨_, h3, ⟨vb, vl', rfl, ?_, h4⟩, h5⟩
 rw [d.mendD_blocks]; exact (h1.grow h5).mono Vr
theorem Ze7 (S : Nat → Prop) (n : Nat) (d : Dk) (v : Value) (w : World) (hS : ∀ b, S b → b < w.heap.size) (hd : Ys S d v w) (hF : d.Fine n) (hn : n ≤ 1000) :
  Calls Tryz.prog 32 #[v] w fun e w' => ∃ v', e = .returned v' ∧ Ys (Zw S w.heap.size) d.flush v' w' ∧ Zo w w' := by
 obtain ⟨vb, vl, rfl, h1, h2⟩ := hd;have h12 := hF.len;have hfw := hF.few;exact (Zpx S d vb vl w hS h1 h2 (by omega) (by omega) (fun x hx => (hF.place x hx).1)).mono fun e w' ⟨vb', h3, h4, h5⟩ => ⟨_, h3, ⟨vb', _, rfl, h4, .inl ⟨none, 0, rfl, rfl, fun _ => rfl⟩⟩, h5⟩
theorem Zh9 (S : Nat → Prop) (n : Nat) (d : Dk) (bt : Int) (v : Value) (w : World) (hS : ∀ b, S b → b < w.heap.size) (hd : Ys S d v w) (hF : d.Fine n) (hn : n ≤ 1000) :
  Calls Tryz.prog 47 #[v, .int .i64 bt] w fun e w' => ∃ v', e = .returned v' ∧ Ys (Zw S w.heap.size) (d.keep bt) v' w' ∧ Zo w w' := by
 obtain ⟨vb, vl, rfl, h1, h2⟩ := hd;have h12 := hF.len;have hfw := hF.few;exact (Zsl S d bt vb vl w hS h1 h2 (by omega) (by omega) (by omega) hF.pl).mono fun e w' ⟨vb', h3, h4, h5⟩ => ⟨_, h3, ⟨vb', _, rfl, h4, .inl ⟨none, 0, rfl, rfl, fun _ => rfl⟩⟩, h5⟩
theorem Zri (S : Nat → Prop) (n : Nat) (d : Dk) (a k y : Int) (v : Value) (w : World) (hS : ∀ b, S b → b < w.heap.size) (hd : Ys S d v w) (hF : d.Fine n) :
  Calls Tryz.prog 37 #[v, .int .i64 a, .int .i64 k, .int .i64 y] w fun e w' => ∃ v', e = .returned v' ∧ Ys (Zw S w.heap.size) (d.spoil a k y) v' w' ∧ Zo w w' := by
 obtain ⟨vb, vl, rfl, h1, h2⟩ := hd;have h12 := hF.len;refine (Zos S d a k y vb vl w hS h1 h2 (by omega) hF.b16).mono fun e w' ⟨vb', h3, h4, h5⟩ => ⟨_, h3, ⟨vb', vl, rfl, h4, ?_⟩, h5⟩
 rw [(d.spoil_len a k y).2]; exact (h2.grow h5).mono Vr
theorem Zvv (S : Nat → Prop) (w : World) : Calls Tryz.prog 51 #[] w fun e w' => ∃ v, e = .returned v ∧ Ys (Zw S w.heap.size) Dk.new v w' ∧ Zo w w' :=
 (Zj3 w).mono fun _ _ ⟨v, h1, h2, h3⟩ => ⟨v, h1, h2.s S, h3⟩
def Zxh : Prop := ∀ (d : Dk) (p : Int) (v : Value) (w : World), d.Fine 900 → Qx d v w →
 Calls Tryz.prog 34 #[v, .int .i64 p] w fun e w' => ∃ dv, e = .returned (.tuple #[.int .i64 (d.how p), .agg #[.int .i64 (d.tell p).kind, .int .i64 (d.tell p).key, .int .i64 (d.tell p).ver, dv]]) ∧ w'.ownsRow w.heap.size 5 1 dv (d.tell p).data.length ((d.tell p).data.map bv) ∧ Zo w w'
def Zxm : Prop := ∀ (S : Nat → Prop) (d : Dk) (p k y n : Int) (l : List UInt8) (v u : Value) (w : World), (∀ b, S b → b < w.heap.size) → d.Fine 900 → Ys S d v w → Bytes w u l →
 Calls Tryz.prog 53 #[v, .int .i64 p, .agg #[.int .i64 k, .int .i64 y, .int .i64 n, u]] w fun e w' => ∃ v', e = .returned (.tuple #[v', .int .i64 (d.pairE p ⟨k, y, n, l⟩)]) ∧ Ys (Zw S w.heap.size) (d.pairD p ⟨k, y, n, l⟩) v' w' ∧ Zo w w'
def Zxe : Prop := ∀ (S : Nat → Prop) (d : Dk) (p : Int) (v : Value) (w : World), (∀ b, S b → b < w.heap.size) → d.Fine 900 → Ys S d v w →
 Calls Tryz.prog 27 #[v, .int .i64 p] w fun e w' => ∃ D v' h, e = .returned (.tuple #[v', .int .i64 h]) ∧ Ys (Zw S w.heap.size) D v' w' ∧ Zo w w' ∧ (0 ≤ p → p < 6 → h = d.how p ∧ D = d.mendD p) ∧ D.blocks.length ≤ 1000 ∧ D.late.length ≤ 2000
theorem Zfi : ∀ (n : Nat) (l : List Nat), l.Nodup → (∀ x ∈ l, x < n) → l.length ≤ n
 | 0, l, _, h => by
  cases l with
  | nil => simp
  | cons x l => exact absurd (h x (by simp)) (by omega)
 | n + 1, l, hn, h => by
  have h1 := Zfi n (l.erase n) (hn.erase n) fun x hx => by
   have h2 := (hn.mem_erase_iff).1 hx;have := h x h2.2;omega
  by_cases hm : n ∈ l
  ·have := List.length_erase_of_mem hm;omega
  ·rw [List.erase_of_not_mem hm] at h1;omega
theorem Zoz {l : List Ent} (h : Qy l = true) : l.length ≤ 1001 := by
 obtain ⟨h1, h2⟩ := (X4 l).1 h;have hn : (l.map fun x => x.pair.toNat).Nodup := by
  rw [List.nodup_iff_pairwise_ne, List.pairwise_map];exact List.Pairwise.imp_of_mem (fun ha hb hR e => hR.2 (by have := (h2 _ ha).2.2; have := (h2 _ hb).2.2; omega)) h1
 have := Zfi 1001 _ hn fun n hn => by
  obtain ⟨x, hx, rfl⟩ := List.mem_map.1 hn;have := (h2 x hx).2.2;omega
 simpa using this
def Zws : Prop := ∀ (S : Nat → Prop) (l : List Ent) (pairs : Int) (v : Value) (w : World), Qy l = true → pairs ≤ 1000 → Yr S w v l →
 Calls Tryz.prog 134 #[v, .int .i64 pairs] w fun r w' => ∃ n, r = .returned (.int .i64 n) ∧ Znd l pairs n ∧ Zo w w'
def Zxi : Prop := ∀ (S : Nat → Prop) (l : List Ent) (e : Ent) (a : Option Addr) (c : Nat) (v : Value) (w : World), (∀ b, S b → b < w.heap.size) → Qy l = true → (∀ x ∈ l, x.pair ≠ e.pair) → Ye e.rc = 0 → Yr S w v l → Z3 S w (.slice a e.rc.data.length c) e.rc.data →
 Calls Tryz.prog 136 #[v, .agg #[.int .i64 e.rc.kind, .int .i64 e.rc.key, .int .i64 e.rc.ver, .slice a e.rc.data.length c, .int .i64 e.pair]] w fun r w' => ∃ v', r = .returned v' ∧ Yr (Zw S w.heap.size) w' v' (Qi e l) ∧ Zo w w'
def Zwu : Prop := ∀ (S : Nat → Prop) (l : List Ent) (p : Int) (v : Value) (w : World), (∀ b, S b → b < w.heap.size) → Qy l = true → Yr S w v l →
 Calls Tryz.prog 135 #[v, .int .i64 p] w fun r w' => ∃ v', r = .returned v' ∧ Yr (Zw S w.heap.size) w' v' (Vy l p) ∧ Zo w w'
def Zqn (S : Nat → Prop) (o : Option Ent) (v : Value) (w : World) : Prop := ∃ (x : Ent) (a : Option Addr) (c : Nat), v = .tuple #[.agg #[.int .i64 x.rc.kind, .int .i64 x.rc.key, .int .i64 x.rc.ver, .slice a x.rc.data.length c, .int .i64 x.pair], .bool o.isSome] ∧ ∀ y, o = some y → y = x ∧ Z3 S w (.slice a x.rc.data.length c) x.rc.data
def Zwt : Prop := ∀ (S : Nat → Prop) (l : List Ent) (key ver : Int) (v : Value) (w : World), (∀ b, S b → b < w.heap.size) → Qy l = true → Yr S w v l →
 Calls Tryz.prog 132 #[v, .int .i64 key, .int .i64 ver] w fun r w' => ∃ v', r = .returned v' ∧ Zqn (Zw S w.heap.size) (Zaq l key ver) v' w' ∧ Zo w w'
end Go.Proofs.YtgaecpdokgklpacGreat
namespace Go.Proofs.YtgaecpdokgklpacGreat
set_option maxRecDepth 100000
open Go.RowKit Go.Maps
open Plain Reg
theorem Zfa {H : Type} {P : Program} {e : TypeId} (he : P.underlying e = some .bool) {v : Value} {z : DataW H × List MemPlace} (h : plainElem P e v = some z) : ∃ x, v = .bool x ∧ z = (.lit (.bool x), []) := by
 unfold plainElem at h;rw [he] at h;cases v <;> simp at h
 case bool x => exact ⟨x, rfl, h.symm⟩
theorem Zoi (w : World) : (zeroValue 4).run Tryz.prog w = .ok (.bool false) w := by kernel_rfl
def Zab (w : World) (b n : Nat) (f : Int → Bool) : Prop := ∃ D : DataW Unit, w.ownsMap Tryz.prog 3 (plainElem Tryz.prog 4) b n D ∧ ∀ x : Int, (Lit.int .i64 x).wf = true → D.atKey (.int .i64 x) (.lit (.bool false)) = .lit (.bool (f x))
theorem Zfd {H : Type} {w : World} {P : Program} {k : TypeId} {R : Value → Option (DataW H × List MemPlace)} {b n : Nat} {D : DataW H} (h : w.ownsMap P k R b n D) : IsMap D := by
 obtain ⟨es, clock, _, _, _, rfl⟩ := h; exact ⟨_, rfl⟩
theorem Zab.made (w : World) : Zab (w.alloc (.map #[] 0)) w.heap.size 0 (fun _ => false) := ⟨.map [], World.ownsMap_made _ _ _ _, fun _ _ => rfl⟩
theorem Zab.lt {w : World} {b n : Nat} {f : Int → Bool} (h : Zab w b n f) : b < w.heap.size := by
 obtain ⟨D, h1, _⟩ := h; exact h1.lt
theorem Zab.same {w w' : World} {b n : Nat} {f : Int → Bool} (h : Zab w b n f) (hb : w'.heap[b]? = w.heap[b]?) : Zab w' b n f := by
 obtain ⟨D, ⟨es, clock, h1, h2⟩, h3⟩ := h;exact ⟨D, ⟨es, clock, hb.trans h1, h2⟩, h3⟩
theorem Zab.grow {w w' : World} {b n : Nat} {f : Int → Bool} (h : Zab w b n f) (hg : Zo w w') : Zab w' b n f := h.same (hg.block _ h.lt)
theorem Zab.ask {w : World} {b n : Nat} {f : Int → Bool} (h : Zab w b n f) (x : Int) (hx : (Lit.int .i64 x).wf = true) : (Instr.lookup 115 (.map (some b)) (.int .i64 x) false).run Tryz.prog w = .ok (.bool (f x)) w := by
 obtain ⟨D, h1, h2⟩ := h;obtain ⟨v, ps, hrun, hv⟩ := h1.lookup (int_keyed Tryz.underlying3) Tryz.underlying115 (Zoi w) (plainElem_bool Tryz.underlying4 false) (keyOf_int_mk Tryz.underlying3 hx);obtain ⟨c, rfl, hc⟩ := Zfa Tryz.underlying4 hv;simp only [Prod.mk.injEq] at hc;have := h2 x hx;rw [this] at hc;have hcc : f x = c := by injection hc.1 with h; injection h
 rw [hcc]; exact hrun
theorem Zr.grown {g : Nat} {w w' : World} (h : w.grownBy w' (some g)) : Zr g w w' := ⟨h.os, h.tape, h.output, h.size, fun k hk hg => h.block k hk (by intro e; exact hg (Option.some.inj e))⟩
theorem Zab.put {w : World} {b n : Nat} {f : Int → Bool} (h : Zab w b n f) (x : Int) (hx : (Lit.int .i64 x).wf = true) (hn : n < 1000000) :
  ∃ w', (Instr.mapUpdate 115 (.map (some b)) (.int .i64 x) (.bool true)).run Tryz.prog w = .ok () w' ∧ Zab w' b (n + 1) (fun y => decide (y = x) || f y) ∧ Zr b w w' := by
 obtain ⟨D, h1, h2⟩ := h;obtain ⟨w', hrun, h3, h4⟩ := h1.update (int_keyed Tryz.underlying3) Tryz.underlying115 (by unfold maxLen; omega) (keyOf_int_mk Tryz.underlying3 hx) (plainElem_bool Tryz.underlying4 true);refine ⟨w', hrun, ⟨_, h3, fun y hy => ?_⟩, Zr.grown h4⟩;by_cases e : y = x
 ·subst e;rw [atKey_put_same (Zfd h1) (show WideAt.IsKeyLit (.int .i64 y) from trivial)];simp
 ·rw [atKey_put_other (by intro e2; injection e2 with _ e2; exact e e2), h2 y hy];simp [e]
theorem Zab.on {w : World} {b n m : Nat} {f g : Int → Bool} (h : Zab w b n f) (hf : ∀ x, f x = g x) (hn : n ≤ m) : Zab w b m g := by
 obtain ⟨D, h1, h2⟩ := h;exact ⟨D, h1.mono hn, fun x hx => by rw [h2 x hx, hf x]⟩
theorem Yt.other {α : Type} {sh : Qk α} {S0 : Nat → Prop} {B q : Nat} {v : Value} {xs : List α} {css : List (List Value)} {w w' : World} (h : Yt sh S0 B v xs css w) (hg : Zr q w w') (hq : q < B) (hn : ¬ S0 q) : Yt sh S0 B v xs css w' := by
 have hne : ∀ b, InS S0 B w b → b ≠ q := by
  rintro b (h1 | ⟨h1, _⟩) rfl
  ·exact hn h1
  ·omega
 refine ⟨h.len, fun i hi => (h.each i hi).imp fun _ x => ⟨x.1, sh.mono (sh.keep x.2 fun b hb hlt => hg.block b hlt (hne b hb)) fun b hb => ?_⟩, ?_⟩
 ·exact Xm hb (fun x => x) fun ⟨k1, c, f, k2⟩ => ⟨k1, c, f, (hg.block b (Za k2) (by omega)).trans k2⟩
 ·have hr := h.row;refine ⟨hr.1, Xm hr.2 (fun x => x) fun ⟨g, cap, cur, h1, h2, h3, r⟩ => ⟨g, cap, cur, h1, h2, ?_, r⟩⟩;rw [hg.block _ (Za h3) (by omega)]; exact h3
theorem Zp3 (l : List Ent) (p : Int) (k : Nat) (h : k < l.length) : Vy (l.take (k + 1)) p = Vy (l.take k) p ++ (if l[k].pair = p then [] else [l[k]]) := by
 unfold Vy;rw [List.take_succ_eq_append_getElem h, List.filter_append];by_cases e : l[k].pair = p
 ·simp [e]
 ·simp [e]
def Kx (l : List Ent) (y : Int) : Bool := l.any fun x => decide (y = x.pair)
theorem Zoj (l : List Ent) (k : Nat) (h : k < l.length) (y : Int) : (decide (y = l[k].pair) || Kx (l.take k) y) = Kx (l.take (k + 1)) y := by
 unfold Kx;rw [List.take_succ_eq_append_getElem h, List.any_append];simp [Bool.or_comm]
theorem Kd (l : List Ent) (y : Int) : Kx l y = true ↔ ∃ x ∈ l, x.pair = y := by
 unfold Kx;rw [List.any_eq_true];exact ⟨fun ⟨x, h1, h2⟩ => ⟨x, h1, (of_decide_eq_true h2).symm⟩, fun ⟨x, h1, h2⟩ => ⟨x, h1, by simp [h2]⟩⟩
theorem Zes {x : Int} (h0 : 0 ≤ x) (h1 : x ≤ 1000000) : (Lit.int .i64 x).wf = true := WalkArith.wf_i64 (by omega)
end Go.Proofs.YtgaecpdokgklpacGreat
namespace Go.Proofs.YtgaecpdokgklpacGreat
set_option maxRecDepth 100000
open Go.RowKit Go.Deep
open Plain Reg
theorem Zso {S0 : Nat → Prop} {B n size : Nat} {e : TypeId} {v : Value} {us : List Value} {w w3 : World} (hown : w.ownsRow B e size v n us) (hT : e ≠ 5) (hS0 : ∀ b, S0 b → b < B) (hg : w.grownBy w3 v.ownBlock) : ∀ b, InS S0 B w b → b < w.heap.size → w3.heap[b]? = w.heap[b]? := by
 intro b hb hlt;refine hg.block b hlt ?_;rcases hb with h | ⟨_, c, f, h⟩
 ·exact Vt hown (hS0 b h)
 ·exact Zrj hown hT h
theorem Yt.ext {α : Type} {sh : Qk α} {S0 : Nat → Prop} {B : Nat} {v v' : Value} {xs ys : List α} {css yss : List (List Value)} {w w3 : World} (h : Yt sh S0 B v xs css w) (hT : sh.T ≠ 5) (hS0 : ∀ b, S0 b → b < B) (hl : yss.length = ys.length)
  (hy : ∀ i (hi : i < ys.length), ∃ cs, yss[i]? = some cs ∧ sh.enc (InS S0 B w) w ys[i] cs) (hg : w.grownBy w3 v.ownBlock) (hown : w3.ownsRow B sh.T sh.size v' (xs.length + ys.length) (css.flatten ++ yss.flatten)) : Yt sh S0 B v' (xs ++ ys) (css ++ yss) w3 := by
 have hk := Zso (S0 := S0) h.row hT hS0 hg;have hm : ∀ b, InS S0 B w b → InS S0 B w3 b := fun b h1 => Xm h1 (fun x => x) fun ⟨k1, c, f, k2⟩ => ⟨k1, c, f, (hk b h1 (Za k2)).trans k2⟩
 refine ⟨by simp [h.len, hl], fun i hi => ?_, by simpa using hown⟩;by_cases hi2 : i < xs.length
 ·obtain ⟨y, h1, h2⟩ := h.each i hi2;refine ⟨y, by rw [List.getElem?_append_left (by rw [h.len]; exact hi2)]; exact h1, ?_⟩;rw [List.getElem_append_left hi2]; exact sh.mono (sh.keep h2 hk) hm
 ·have hi3 : i - xs.length < ys.length := by simp at hi; omega
  obtain ⟨y, h1, h2⟩ := hy (i - xs.length) hi3;refine ⟨y, by rw [List.getElem?_append_right (by rw [h.len]; omega), h.len]; exact h1, ?_⟩;rw [List.getElem_append_right (by omega)]; exact sh.mono (sh.keep h2 hk) hm
theorem Vh {k : Nat} : ∀ (css : List (List Value)), (∀ c ∈ css, c.length = k) → css.flatten.length = css.length * k
 | [], _ => by simp
 | c :: css, h => by
  rw [List.flatten_cons, List.length_append, Vh css fun c hc => h c (by simp [hc]), h c (by simp), List.length_cons, Nat.add_mul]; omega
theorem Yt.app {α : Type} {sh : Qk α} {S0 S : Nat → Prop} {B bytes : Nat} {v u z : Value} {xs ys : List α} {css : List (List Value)} {w : World} {t : TypeId} (ty : TypeId) {i : TypeInfo} (ht : Tryz.prog.underlying t = some (.slice sh.T)) (hif : Tryz.prog.info? sh.T = some i) (hz : i.zero = some z) (hsize : i.size = sh.size) (hby : i.bytes = bytes) (hzs : z.cells.size = sh.size)
  (hsz : 0 < sh.size) (hT : sh.T ≠ 5) (hS0 : ∀ b, S0 b → b < B) (h : Yt sh S0 B v xs css w) (hy : Z9 sh S w u ys) (hSS : ∀ b, S b → InS S0 B w b) (h63 : xs.length + ys.length ≤ maxLen) (hb : (xs.length + ys.length) * bytes ≤ 140737488355328) (hB : B ≤ w.heap.size) :
  ∃ v' w' css', (Builtin.append_ #[t, t] ty #[v, u]).run Tryz.prog w = .ok v' w' ∧ Yt sh S0 B v' (xs ++ ys) css' w' ∧ w.grownBy w' v.ownBlock := by
 rcases hy with ⟨ao, cap, rfl, rfl, h0⟩ | ⟨b, off, cap, hSb, rfl, hcap, hc⟩
 ·cases ao with
  | none =>
   obtain rfl := h0 rfl;exact ⟨v, w, css, run_append_owned_none (P := Tryz.prog) (w := w) B t ty sh.T i sh.size ht hif v xs.length css.flatten h.row, by simpa using h, ⟨rfl, rfl, rfl, Nat.le_refl _, fun _ _ _ => rfl⟩⟩
  | some ad =>
   obtain ⟨v', w', h1, h2, h3, -⟩ := run_append_own (P := Tryz.prog) (w := w) B t ty sh.T i z sh.size bytes ht hif hz hsize hby hzs hsz v xs.length css.flatten h.row ad 0 cap [] (by simp) (fun j u hj => by simp at hj) (by simp) (by simpa using h63) (by simpa using hb) hB;refine ⟨v', w', css ++ [], h1, ?_, h3⟩;exact h.ext hT hS0 rfl (fun i hi => by simp at hi) h3 (by simpa using h2)
 ·have hex : ∀ j, j < ys.length → ∃ cs : List Value, (∀ hj : j < ys.length, sh.enc S w ys[j] cs) ∧ ∀ (k : Nat) (u : Value), cs[k]? = some u → w.cell? ⟨b, off + j * sh.size + k, none⟩ = some u := fun j hj => by
   obtain ⟨cs, k1, k2⟩ := hc j hj;exact ⟨cs, fun _ => k1, k2⟩
  obtain ⟨f, hf⟩ := choose_lt hex;have hlen : ∀ c ∈ (List.range ys.length).map f, c.length = sh.size := by
   intro c hc2;obtain ⟨j, hj, rfl⟩ := List.mem_map.1 hc2;have hj' : j < ys.length := by simpa using hj
   exact sh.len ((hf j hj').1 hj')
  have hl1 : ((List.range ys.length).map f).flatten.length = ys.length * sh.size := by rw [Vh _ hlen]; simp
  have hcells : ∀ (j : Nat) (u : Value), ((List.range ys.length).map f).flatten[j]? = some u → w.cell? ((⟨b, off, none⟩ : Addr).add j) = some u := by
   intro j u hj;have hjl : j < ys.length * sh.size := by rw [← hl1]; exact (List.getElem?_eq_some_iff.1 hj).1
   have hq : j / sh.size < ys.length := Nat.div_lt_of_lt_mul (by rw [Nat.mul_comm]; exact hjl);have hr : j % sh.size < sh.size := Nat.mod_lt _ hsz;have hjd : j / sh.size * sh.size + j % sh.size = j := by rw [Nat.mul_comm]; exact Nat.div_add_mod j sh.size
   rw [← hjd, K4 _ (j / sh.size) (j % sh.size) (f (j / sh.size)) hlen (by simp [hq]) hr] at hj;have := (hf _ hq).2 _ _ hj;have e : (⟨b, off, none⟩ : Addr).add j = ⟨b, off + j, none⟩ := by
    unfold Addr.add;split
    ·rename_i h; rw [h]; rfl
    ·rfl
   rw [e, ← hjd, ← Nat.add_assoc]; exact this
  obtain ⟨v', w', h1, h2, h3, -⟩ := run_append_own (P := Tryz.prog) (w := w) B t ty sh.T i z sh.size bytes ht hif hz hsize hby hzs hsz v xs.length css.flatten h.row ⟨b, off, none⟩ ys.length cap ((List.range ys.length).map f).flatten hl1 hcells (fun u hu => by
   obtain ⟨cs, k1, k2⟩ := List.mem_flatten.1 hu;obtain ⟨j, hj, rfl⟩ := List.mem_map.1 k1;have hj' : j < ys.length := by simpa using hj
   exact sh.one ((hf j hj').1 hj') u k2) h63 hb hB
  refine ⟨v', w', _, h1, h.ext (yss := (List.range ys.length).map f) hT hS0 (by simp) (fun j hj => ⟨f j, by simp [hj], sh.mono ((hf j hj).1 hj) hSS⟩) h3 h2, h3⟩
end Go.Proofs.YtgaecpdokgklpacGreat
