import Derived.Test.YtpdnapbchcdhlacGreatRMend
import Derived.Test.YtpdnapbchcdhlacGreatRNew
import Derived.Maps.OwnOps
import Derived.Maps.Views
import Derived.Deep.Slices
set_option maxHeartbeats 8000000
namespace Go.Proofs.YtpdnapbchcdhlacGreat
set_option maxRecDepth 100000
open Go.RowKit
open Plain Reg
variable {S : Nat → Prop} {n : Nat} {v : Value} {w w' : World}
def Yu (S : Nat → Prop) (d : Dk) (v : Value) (w : World) : Prop := ∃ vb vl, v = .agg #[vb, vl] ∧ Y0 S w vb d.blocks ∧ Xl S w vl d.late
theorem Yu.grow {d : Dk} (h : Yu S d v w) (hg : Zn w w') : Yu S d v w' := by
 obtain ⟨vb, vl, h1, h2, h3⟩ := h; exact ⟨vb, vl, h1, h2.grow hg, h3.grow hg⟩
theorem Yu.mono {S' : Nat → Prop} {d : Dk} (h : Yu S d v w) (hS : ∀ b, S b → S' b) : Yu S' d v w := by
 obtain ⟨vb, vl, h1, h2, h3⟩ := h; exact ⟨vb, vl, h1, h2.mono hS, h3.mono hS⟩
theorem Yu.but {g : Nat} {d : Dk} (h : Yu S d v w) (hg : Zo g w w') (hn : ¬ S g) : Yu S d v w' := by
 obtain ⟨vb, vl, h1, h2, h3⟩ := h; exact ⟨vb, vl, h1, h2.but hg hn, h3.but hg hn⟩
theorem Yu.p {d : Dk} (h : Yu S d v w) : Vb d v w := by
 obtain ⟨vb, vl, h1, h2, h3⟩ := h; exact ⟨vb, vl, h1, h2.p, h3.p⟩
theorem Vb.s {d : Dk} (h : Vb d v w) : Yu (fun b => b < w.heap.size) d v w := by
 obtain ⟨vb, vl, h1, h2, h3⟩ := h; exact ⟨vb, vl, h1, h2.s, h3.s⟩
theorem Yu.form {d : Dk} (h : Yu S d v w) : ∃ ab cb al cl, v = .agg #[.slice ab d.blocks.length cb, .slice al d.late.length cl] ∧ Y0 S w (.slice ab d.blocks.length cb) d.blocks ∧ Xl S w (.slice al d.late.length cl) d.late := by
 obtain ⟨vb, vl, h1, h2, h3⟩ := h;obtain ⟨ab, cb, rfl⟩ := h2.p.form;obtain ⟨al, cl, rfl⟩ := h3.p.form;exact ⟨ab, cb, al, cl, h1, h2, h3⟩
theorem Va.s {B : Nat} {d : Dk} (S : Nat → Prop) (h : Va B d v w) : Yu (Zs S B) d v w := by
 obtain ⟨vb, vl, h1, ⟨us, h2⟩, ⟨ut, h3⟩⟩ := h;refine ⟨vb, vl, h1, ?_, ?_⟩
 ·rcases h2.row.2 with ⟨rfl, h0⟩ | ⟨q, cap, cur, rfl, hb, hh, k1, k2, k3, k4⟩
  ·exact .inl ⟨none, 0, rfl, List.eq_nil_of_length_eq_zero h0, fun _ => rfl⟩
  ·refine .inr ⟨q, 0, cap, .inr hb, rfl, k1, fun i hi => ?_⟩;have c0 := h2.row.cellAt i (by omega);obtain ⟨u, hu1, hu2⟩ := h2.each i hi;rw [hu1] at c0;exact ⟨u, by rw [Nat.zero_add]; exact c0, Zcl S hu2⟩
 ·exact (Zgi (S := Zs S B) h3.row h3.len (fun i hi => (h3.each i hi).imp fun _ hu => ⟨hu.1, Zcl S hu.2⟩)).mono (fun b hb => hb.elim (fun x => x) .inr)
structure Dk.Fine (n : Nat) (d : Dk) : Prop where
 len : d.blocks.length = 12
 few : d.late.length ≤ n
 block : ∀ x ∈ d.blocks, x.length = 16
 late : ∀ x ∈ d.late, x.2.length = 16
 place : ∀ x ∈ d.late, 0 ≤ x.1 ∧ x.1 < 12
theorem Dk.Fine.mono {m : Nat} {d : Dk} (h : d.Fine n) (hm : n ≤ m) : d.Fine m := ⟨h.len, Nat.le_trans h.few hm, h.block, h.late, h.place⟩
theorem Dk.Fine.b16 {d : Dk} (h : d.Fine n) : ∀ x ∈ d.blocks, x.length ≤ 1000 := fun x hx => by rw [h.block x hx]; omega
theorem Dk.Fine.l16 {d : Dk} (h : d.Fine n) : ∀ x ∈ d.late, x.2.length ≤ 1000 := fun x hx => by rw [h.late x hx]; omega
theorem Dk.Fine.pl {d : Dk} (h : d.Fine n) : ∀ x ∈ d.late, 0 ≤ x.1 ∧ x.1 < (d.blocks.length : Int) := fun x hx => by rw [h.len]; exact h.place x hx
theorem Dk.Fine.pair {d : Dk} (h : d.Fine n) (p : Int) (r : Rec) : (d.pairD p r).Fine (n + 2) := by
 unfold Dk.pairD;by_cases he : d.pairE p r = 0
 ·rw [if_pos he];unfold Dk.pairE at he;by_cases ho : p < 0 ∨ ((d.blocks.length / 2 : Nat) : Int) ≤ p
  ·rw [if_pos ho] at he; omega
  ·rw [if_neg ho] at he;have hl := (Vr he).2.2.2.2.2.2;have h12 := h.len;rw [h12] at ho;refine ⟨h.len, by show (d.late ++ [_, _]).length ≤ _; have := h.few; simp; omega, h.block, fun x hx => ?_, fun x hx => ?_⟩
   ·rcases List.mem_append.1 (show x ∈ d.late ++ [_, _] from hx) with h1 | h1
    ·exact h.late x h1
    ·rcases List.mem_cons.1 h1 with rfl | h2
     ·exact Qm r _ hl
     ·rw [List.mem_singleton.1 h2]; exact Qm r _ hl
   ·rcases List.mem_append.1 (show x ∈ d.late ++ [_, _] from hx) with h1 | h1
    ·exact h.place x h1
    ·rcases List.mem_cons.1 h1 with rfl | h2
     ·show 0 ≤ 2 * p ∧ 2 * p < 12; omega
     ·rw [List.mem_singleton.1 h2]; show 0 ≤ 2 * p + 1 ∧ 2 * p + 1 < 12; omega
 ·rw [if_neg he]; exact h.mono (by omega)
theorem Dk.Fine.mend {d : Dk} (h : d.Fine n) (p : Int) : (d.mendD p).Fine (n + 2) := by
 unfold Dk.mendD;split
 ·exact h.pair p _
 ·exact h.mono (by omega)
theorem Dk.Fine.keep {d : Dk} (h : d.Fine n) (on : Nat → Bool) : ∀ k, k ≤ d.late.length → ∀ x ∈ d.keepTo on k, x.length = 16
 | 0, _ => h.block
 | k + 1, hk => by
  have ih := keep h on k (by omega);show ∀ x ∈ (if on k = true then _ else _ : List (List UInt8)), x.length = 16;split
  ·intro x hx;rcases List.mem_or_eq_of_mem_set hx with h1 | h1
   ·exact ih x h1
   ·rw [h1, Qp _ _ _ (by omega)]; exact h.late _ (List.getElem_mem _)
  ·exact ih
theorem Dk.Fine.kept {d : Dk} (h : d.Fine n) (bt : Int) : (d.keep bt).Fine 0 :=
 ⟨(d.keepTo_length _ _).trans h.len, Nat.le_refl _, h.keep _ _ (Nat.le_refl _), (fun x hx => by cases hx), (fun x hx => by cases hx)⟩
theorem Dk.Fine.flush {d : Dk} (h : d.Fine n) : d.flush.Fine 0 :=
 ⟨(d.keepTo_length _ _).trans h.len, Nat.le_refl _, h.keep _ _ (Nat.le_refl _), (fun x hx => by cases hx), (fun x hx => by cases hx)⟩
theorem Dk.Fine.spoil {d : Dk} (h : d.Fine n) (a k y : Int) : (d.spoil a k y).Fine n := by
 unfold Dk.spoil;split
 ·rename_i ha;refine ⟨by rw [List.length_set]; exact h.len, h.few, fun x hx => ?_, h.late, h.place⟩;rcases List.mem_or_eq_of_mem_set hx with h1 | h1
  ·exact h.block x h1
  ·rw [h1, J5, Qp _ _ _ (by omega)]; exact h.block _ (List.getElem_mem _)
 ·exact h
theorem Zak : Dk.new.Fine 0 :=
 ⟨rfl, Nat.le_refl _, fun x hx => by
  obtain ⟨i, hi, rfl⟩ := List.mem_iff_getElem.1 hx;rw [Zm8 i hi]; exact Qm _ _ (by simp), (fun x hx => by cases hx), (fun x hx => by cases hx)⟩
theorem Dk.pairD_blocks (d : Dk) (p : Int) (r : Rec) : (d.pairD p r).blocks = d.blocks := by unfold Dk.pairD; split <;> rfl
theorem Dk.mendD_blocks (d : Dk) (p : Int) : (d.mendD p).blocks = d.blocks := by
 unfold Dk.mendD; split
 ·exact d.pairD_blocks p _
 ·rfl
theorem Zda (d : Dk) (p : Int) (v : Value) (w : World) (hd : Vb d v w) (hlen : d.blocks.length ≤ 256) (hm : d.late.length ≤ 999990) :
  Calls Tryz.prog 45 #[v, .int .i64 p] w fun e w' => ∃ dv, e = .returned (.tuple #[.int .i64 (d.how p), .agg #[.int .i64 (d.tell p).kind, .int .i64 (d.tell p).key, .int .i64 (d.tell p).ver, dv]]) ∧ w'.ownsRow w.heap.size 5 1 dv (d.tell p).data.length ((d.tell p).data.map bv) ∧ Zn w w' := by
 obtain ⟨vb, vl, rfl, h1, h2⟩ := hd;exact Zge _ d p vb vl w h1.s h2.s hlen hm
theorem Zcw (S : Nat → Prop) (d : Dk) (p k y n : Int) (l : List UInt8) (v u : Value) (w : World) (hS : ∀ b, S b → b < w.heap.size) (hd : Yu S d v w) (hu : Bytes w u l) (hlen : d.blocks.length ≤ 256) (hm : d.late.length ≤ 999990) :
  Calls Tryz.prog 75 #[v, .int .i64 p, .agg #[.int .i64 k, .int .i64 y, .int .i64 n, u]] w fun e w' => ∃ v', e = .returned (.tuple #[v', .int .i64 (d.pairE p ⟨k, y, n, l⟩)]) ∧ Yu (Zs S w.heap.size) (d.pairD p ⟨k, y, n, l⟩) v' w' ∧ Zn w w' := by
 obtain ⟨vb, vl, rfl, h1, h2⟩ := hd;refine (Zer S d p k y n l vb vl u w hS h1.p h2 hu hlen hm).mono fun e w' ⟨vl', h3, h4, h5⟩ => ⟨_, h3, ⟨vb, vl', rfl, ?_, h4⟩, h5⟩
 rw [d.pairD_blocks]; exact (h1.grow h5).mono V2
theorem Zvk (S : Nat → Prop) (d : Dk) (p : Int) (v : Value) (w : World) (hS : ∀ b, S b → b < w.heap.size) (hd : Yu S d v w) (hlen : d.blocks.length ≤ 256) (hm : d.late.length ≤ 999990) :
  Calls Tryz.prog 41 #[v, .int .i64 p] w fun e w' => ∃ v', e = .returned (.tuple #[v', .int .i64 (d.how p)]) ∧ Yu (Zs S w.heap.size) (d.mendD p) v' w' ∧ Zn w w' := by
 obtain ⟨vb, vl, rfl, h1, h2⟩ := hd;refine (Ztg S d p vb vl w hS h1 h2 hlen hm).mono fun e w' ⟨vl', h3, h4, h5⟩ => ⟨_, h3, ⟨vb, vl', rfl, ?_, h4⟩, h5⟩
 rw [d.mendD_blocks]; exact (h1.grow h5).mono V2
theorem Zfu (S : Nat → Prop) (n : Nat) (d : Dk) (v : Value) (w : World) (hS : ∀ b, S b → b < w.heap.size) (hd : Yu S d v w) (hF : d.Fine n) (hn : n ≤ 1000) :
  Calls Tryz.prog 42 #[v] w fun e w' => ∃ v', e = .returned v' ∧ Yu (Zs S w.heap.size) d.flush v' w' ∧ Zn w w' := by
 obtain ⟨vb, vl, rfl, h1, h2⟩ := hd;have h12 := hF.len;have hfw := hF.few;exact (Zqw S d vb vl w hS h1 h2 (by omega) (by omega) (fun x hx => (hF.place x hx).1)).mono fun e w' ⟨vb', h3, h4, h5⟩ => ⟨_, h3, ⟨vb', _, rfl, h4, .inl ⟨none, 0, rfl, rfl, fun _ => rfl⟩⟩, h5⟩
theorem Zir (S : Nat → Prop) (n : Nat) (d : Dk) (bt : Int) (v : Value) (w : World) (hS : ∀ b, S b → b < w.heap.size) (hd : Yu S d v w) (hF : d.Fine n) (hn : n ≤ 1000) :
  Calls Tryz.prog 57 #[v, .int .i64 bt] w fun e w' => ∃ v', e = .returned v' ∧ Yu (Zs S w.heap.size) (d.keep bt) v' w' ∧ Zn w w' := by
 obtain ⟨vb, vl, rfl, h1, h2⟩ := hd;have h12 := hF.len;have hfw := hF.few;exact (Ztr S d bt vb vl w hS h1 h2 (by omega) (by omega) (by omega) hF.pl).mono fun e w' ⟨vb', h3, h4, h5⟩ => ⟨_, h3, ⟨vb', _, rfl, h4, .inl ⟨none, 0, rfl, rfl, fun _ => rfl⟩⟩, h5⟩
theorem Zsj (S : Nat → Prop) (n : Nat) (d : Dk) (a k y : Int) (v : Value) (w : World) (hS : ∀ b, S b → b < w.heap.size) (hd : Yu S d v w) (hF : d.Fine n) :
  Calls Tryz.prog 47 #[v, .int .i64 a, .int .i64 k, .int .i64 y] w fun e w' => ∃ v', e = .returned v' ∧ Yu (Zs S w.heap.size) (d.spoil a k y) v' w' ∧ Zn w w' := by
 obtain ⟨vb, vl, rfl, h1, h2⟩ := hd;have h12 := hF.len;refine (Zpo S d a k y vb vl w hS h1 h2 (by omega) hF.b16).mono fun e w' ⟨vb', h3, h4, h5⟩ => ⟨_, h3, ⟨vb', vl, rfl, h4, ?_⟩, h5⟩
 rw [(d.spoil_len a k y).2]; exact (h2.grow h5).mono V2
theorem Zxc (S : Nat → Prop) (w : World) : Calls Tryz.prog 61 #[] w fun e w' => ∃ v, e = .returned v ∧ Yu (Zs S w.heap.size) Dk.new v w' ∧ Zn w w' :=
 (Zkr w).mono fun _ _ ⟨v, h1, h2, h3⟩ => ⟨v, h1, h2.s S, h3⟩
def Zyv : Prop := ∀ (d : Dk) (p : Int) (v : Value) (w : World), d.Fine 900 → Vb d v w →
 Calls Tryz.prog 44 #[v, .int .i64 p] w fun e w' => ∃ dv, e = .returned (.tuple #[.int .i64 (d.how p), .agg #[.int .i64 (d.tell p).kind, .int .i64 (d.tell p).key, .int .i64 (d.tell p).ver, dv]]) ∧ w'.ownsRow w.heap.size 5 1 dv (d.tell p).data.length ((d.tell p).data.map bv) ∧ Zn w w'
def Zy0 : Prop := ∀ (S : Nat → Prop) (d : Dk) (p k y n : Int) (l : List UInt8) (v u : Value) (w : World), (∀ b, S b → b < w.heap.size) → d.Fine 900 → Yu S d v w → Bytes w u l →
 Calls Tryz.prog 70 #[v, .int .i64 p, .agg #[.int .i64 k, .int .i64 y, .int .i64 n, u]] w fun e w' => ∃ v', e = .returned (.tuple #[v', .int .i64 (d.pairE p ⟨k, y, n, l⟩)]) ∧ Yu (Zs S w.heap.size) (d.pairD p ⟨k, y, n, l⟩) v' w' ∧ Zn w w'
def Zys : Prop := ∀ (S : Nat → Prop) (d : Dk) (p : Int) (v : Value) (w : World), (∀ b, S b → b < w.heap.size) → d.Fine 900 → Yu S d v w →
 Calls Tryz.prog 37 #[v, .int .i64 p] w fun e w' => ∃ D v' h, e = .returned (.tuple #[v', .int .i64 h]) ∧ Yu (Zs S w.heap.size) D v' w' ∧ Zn w w' ∧ (0 ≤ p → p < 6 → h = d.how p ∧ D = d.mendD p) ∧ D.blocks.length ≤ 1000 ∧ D.late.length ≤ 2000
theorem Zf8 : ∀ (n : Nat) (l : List Nat), l.Nodup → (∀ x ∈ l, x < n) → l.length ≤ n
 | 0, l, _, h => by
  cases l with
  | nil => simp
  | cons x l => exact absurd (h x (by simp)) (by omega)
 | n + 1, l, hn, h => by
  have h1 := Zf8 n (l.erase n) (hn.erase n) fun x hx => by
   have h2 := (hn.mem_erase_iff).1 hx;have := h x h2.2;omega
  by_cases hm : n ∈ l
  ·have := List.length_erase_of_mem hm;omega
  ·rw [List.erase_of_not_mem hm] at h1;omega
theorem Zpx {l : List Ent} (h : Qz l = true) : l.length ≤ 1001 := by
 obtain ⟨h1, h2⟩ := (Xp l).1 h;have hn : (l.map fun x => x.pair.toNat).Nodup := by
  rw [List.nodup_iff_pairwise_ne, List.pairwise_map];exact List.Pairwise.imp_of_mem (fun ha hb hR e => hR.2 (by have := (h2 _ ha).2.2; have := (h2 _ hb).2.2; omega)) h1
 have := Zf8 1001 _ hn fun n hn => by
  obtain ⟨x, hx, rfl⟩ := List.mem_map.1 hn;have := (h2 x hx).2.2;omega
 simpa using this
def Zx8 : Prop := ∀ (S : Nat → Prop) (l : List Ent) (pairs : Int) (v : Value) (w : World), Qz l = true → pairs ≤ 1000 → Ys S w v l →
 Calls Tryz.prog 156 #[v, .int .i64 pairs] w fun r w' => ∃ n, r = .returned (.int .i64 n) ∧ Zob l pairs n ∧ Zn w w'
def Zyw : Prop := ∀ (S : Nat → Prop) (l : List Ent) (e : Ent) (a : Option Addr) (c : Nat) (v : Value) (w : World), (∀ b, S b → b < w.heap.size) → Qz l = true → (∀ x ∈ l, x.pair ≠ e.pair) → Z9 e.rc = 0 → Ys S w v l → Z0 S w (.slice a e.rc.data.length c) e.rc.data →
 Calls Tryz.prog 158 #[v, .agg #[.int .i64 e.rc.kind, .int .i64 e.rc.key, .int .i64 e.rc.ver, .slice a e.rc.data.length c, .int .i64 e.pair]] w fun r w' => ∃ v', r = .returned v' ∧ Ys (Zs S w.heap.size) w' v' (Xw e l) ∧ Zn w w'
def Zya : Prop := ∀ (S : Nat → Prop) (l : List Ent) (p : Int) (v : Value) (w : World), (∀ b, S b → b < w.heap.size) → Qz l = true → Ys S w v l →
 Calls Tryz.prog 157 #[v, .int .i64 p] w fun r w' => ∃ v', r = .returned v' ∧ Ys (Zs S w.heap.size) w' v' (Q2 l p) ∧ Zn w w'
def Zrn (S : Nat → Prop) (o : Option Ent) (v : Value) (w : World) : Prop := ∃ (x : Ent) (a : Option Addr) (c : Nat), v = .tuple #[.agg #[.int .i64 x.rc.kind, .int .i64 x.rc.key, .int .i64 x.rc.ver, .slice a x.rc.data.length c, .int .i64 x.pair], .bool o.isSome] ∧ ∀ y, o = some y → y = x ∧ Z0 S w (.slice a x.rc.data.length c) x.rc.data
def Zx9 : Prop := ∀ (S : Nat → Prop) (l : List Ent) (key ver : Int) (v : Value) (w : World), (∀ b, S b → b < w.heap.size) → Qz l = true → Ys S w v l →
 Calls Tryz.prog 155 #[v, .int .i64 key, .int .i64 ver] w fun r w' => ∃ v', r = .returned v' ∧ Zrn (Zs S w.heap.size) (Zbc l key ver) v' w' ∧ Zn w w'
end Go.Proofs.YtpdnapbchcdhlacGreat
namespace Go.Proofs.YtpdnapbchcdhlacGreat
set_option maxRecDepth 100000
open Go.RowKit Go.Maps
open Plain Reg
variable {H : Type} {P : Program} {b n : Nat} {f : Int → Bool} {v : Value} {w w' : World}
theorem Zfy {e : TypeId} (he : P.underlying e = some .bool) {z : DataW H × List MemPlace} (h : plainElem P e v = some z) : ∃ x, v = .bool x ∧ z = (.lit (.bool x), []) := by
 unfold plainElem at h;rw [he] at h;cases v <;> simp at h
 case bool x => exact ⟨x, rfl, h.symm⟩
theorem Zpd (w : World) : (zeroValue 4).run Tryz.prog w = .ok (.bool false) w := by kernel_rfl
def Zaw (w : World) (b n : Nat) (f : Int → Bool) : Prop := ∃ D : DataW Unit, w.ownsMap Tryz.prog 3 (plainElem Tryz.prog 4) b n D ∧ ∀ x : Int, (Lit.int .i64 x).wf = true → D.atKey (.int .i64 x) (.lit (.bool false)) = .lit (.bool (f x))
theorem Zf1 {k : TypeId} {R : Value → Option (DataW H × List MemPlace)} {D : DataW H} (h : w.ownsMap P k R b n D) : IsMap D := by
 obtain ⟨es, clock, _, _, _, rfl⟩ := h; exact ⟨_, rfl⟩
theorem Zaw.made (w : World) : Zaw (w.alloc (.map #[] 0)) w.heap.size 0 (fun _ => false) := ⟨.map [], World.ownsMap_made _ _ _ _, fun _ _ => rfl⟩
theorem Zaw.lt (h : Zaw w b n f) : b < w.heap.size := by
 obtain ⟨D, h1, _⟩ := h; exact h1.lt
theorem Zaw.same (h : Zaw w b n f) (hb : w'.heap[b]? = w.heap[b]?) : Zaw w' b n f := by
 obtain ⟨D, ⟨es, clock, h1, h2⟩, h3⟩ := h;exact ⟨D, ⟨es, clock, hb.trans h1, h2⟩, h3⟩
theorem Zaw.grow (h : Zaw w b n f) (hg : Zn w w') : Zaw w' b n f := h.same (hg.block _ h.lt)
theorem Zaw.ask (h : Zaw w b n f) (x : Int) (hx : (Lit.int .i64 x).wf = true) : (Instr.lookup 127 (.map (some b)) (.int .i64 x) false).run Tryz.prog w = .ok (.bool (f x)) w := by
 obtain ⟨D, h1, h2⟩ := h;obtain ⟨v, ps, hrun, hv⟩ := h1.lookup (int_keyed Tryz.underlying3) Tryz.underlying127 (Zpd w) (plainElem_bool Tryz.underlying4 false) (keyOf_int_mk Tryz.underlying3 hx);obtain ⟨c, rfl, hc⟩ := Zfy Tryz.underlying4 hv;simp only [Prod.mk.injEq] at hc;have := h2 x hx;rw [this] at hc;have hcc : f x = c := by injection hc.1 with h; injection h
 rw [hcc]; exact hrun
theorem Zo.grown {g : Nat} (h : w.grownBy w' (some g)) : Zo g w w' := ⟨h.os, h.tape, h.output, h.size, fun k hk hg => h.block k hk (by intro e; exact hg (Option.some.inj e))⟩
theorem Zaw.put (h : Zaw w b n f) (x : Int) (hx : (Lit.int .i64 x).wf = true) (hn : n < 1000000) :
  ∃ w', (Instr.mapUpdate 127 (.map (some b)) (.int .i64 x) (.bool true)).run Tryz.prog w = .ok () w' ∧ Zaw w' b (n + 1) (fun y => decide (y = x) || f y) ∧ Zo b w w' := by
 obtain ⟨D, h1, h2⟩ := h;obtain ⟨w', hrun, h3, h4⟩ := h1.update (int_keyed Tryz.underlying3) Tryz.underlying127 (by unfold maxLen; omega) (keyOf_int_mk Tryz.underlying3 hx) (plainElem_bool Tryz.underlying4 true);refine ⟨w', hrun, ⟨_, h3, fun y hy => ?_⟩, Zo.grown h4⟩;by_cases e : y = x
 ·subst e;rw [atKey_put_same (Zf1 h1) (show WideAt.IsKeyLit (.int .i64 y) from trivial)];simp
 ·rw [atKey_put_other (by intro e2; injection e2 with _ e2; exact e e2), h2 y hy];simp [e]
theorem Zaw.on {m : Nat} {g : Int → Bool} (h : Zaw w b n f) (hf : ∀ x, f x = g x) (hn : n ≤ m) : Zaw w b m g := by
 obtain ⟨D, h1, h2⟩ := h;exact ⟨D, h1.mono hn, fun x hx => by rw [h2 x hx, hf x]⟩
theorem Yv.other {α : Type} {sh : Qr α} {S0 : Nat → Prop} {B q : Nat} {xs : List α} {css : List (List Value)} (h : Yv sh S0 B v xs css w) (hg : Zo q w w') (hq : q < B) (hn : ¬ S0 q) : Yv sh S0 B v xs css w' := by
 have hne : ∀ b, InS S0 B w b → b ≠ q := by
  rintro b (h1 | ⟨h1, _⟩) rfl
  ·exact hn h1
  ·omega
 refine ⟨h.len, fun i hi => (h.each i hi).imp fun _ x => ⟨x.1, sh.mono (sh.keep x.2 fun b hb hlt => hg.block b hlt (hne b hb)) fun b hb => ?_⟩, ?_⟩
 ·exact Xq hb (fun x => x) fun ⟨k1, c, f, k2⟩ => ⟨k1, c, f, (hg.block b (Za k2) (by omega)).trans k2⟩
 ·have hr := h.row;refine ⟨hr.1, Xq hr.2 (fun x => x) fun ⟨g, cap, cur, h1, h2, h3, r⟩ => ⟨g, cap, cur, h1, h2, ?_, r⟩⟩;rw [hg.block _ (Za h3) (by omega)]; exact h3
theorem Zq2 (l : List Ent) (p : Int) (k : Nat) (h : k < l.length) : Q2 (l.take (k + 1)) p = Q2 (l.take k) p ++ (if l[k].pair = p then [] else [l[k]]) := by
 unfold Q2;rw [List.take_succ_eq_append_getElem h, List.filter_append];by_cases e : l[k].pair = p
 ·simp [e]
 ·simp [e]
def Jd (l : List Ent) (y : Int) : Bool := l.any fun x => decide (y = x.pair)
theorem Zpe (l : List Ent) (k : Nat) (h : k < l.length) (y : Int) : (decide (y = l[k].pair) || Jd (l.take k) y) = Jd (l.take (k + 1)) y := by
 unfold Jd;rw [List.take_succ_eq_append_getElem h, List.any_append];simp [Bool.or_comm]
theorem Kq (l : List Ent) (y : Int) : Jd l y = true ↔ ∃ x ∈ l, x.pair = y := by
 unfold Jd;rw [List.any_eq_true];exact ⟨fun ⟨x, h1, h2⟩ => ⟨x, h1, (of_decide_eq_true h2).symm⟩, fun ⟨x, h1, h2⟩ => ⟨x, h1, by simp [h2]⟩⟩
theorem Zfc {x : Int} (h0 : 0 ≤ x) (h1 : x ≤ 1000000) : (Lit.int .i64 x).wf = true := WalkArith.wf_i64 (by omega)
end Go.Proofs.YtpdnapbchcdhlacGreat
namespace Go.Proofs.YtpdnapbchcdhlacGreat
set_option maxRecDepth 100000
open Go.RowKit
open Plain Reg
structure Dd where
 kind : Int
 key : Int
 num : Int
 data : List UInt8
def Yq (d : Dd) : Int :=
 if d.kind < 1 ∨ 3 < d.kind then 1
 else if d.key < 1 ∨ 255 < d.key ∨ d.num < (if d.kind = 3 then 1 else 0) ∨ (if d.kind = 3 then 60000 else 0) < d.num then 3
 else if 8 < d.data.length ∨ d.kind ≠ 1 ∧ d.data.length ≠ 0 then 4 else 0
theorem Zj3 (d : Dd) (a : Option Addr) (c : Nat) (w : World) (hm : d.data.length ≤ 140737488355328) :
  Calls Tryz.prog 67 #[.agg #[.int .i64 d.kind, .int .i64 d.key, .int .i64 d.num, .slice a d.data.length c]] w fun r w' => r = .returned (.int .i64 (Yq d)) ∧ Zn w w' := by
 have g0 := Zb w (.cells #[.int .i64 d.kind, .int .i64 d.key, .int .i64 d.num, .slice a d.data.length c] 47);obtain ⟨R, hR⟩ : ∃ R, R = Yq d := ⟨_, rfl⟩;rw [← hR];have HR : Hid _ := hR;clear hR;by_cases hk : d.kind < 1 ∨ 3 < d.kind
 ·have hRR : R = 1 := by rw [HR.out]; unfold Yq; rw [if_pos hk]
  subst hRR;rcases Int.lt_or_le d.kind 1 with h1 | h1
  ·clear hk;go_enter Tryz.func67, Tryz.ntmps67;go_wp2_with fail;go_ret;exact ⟨rfl, g0⟩
  ·have h2 : 3 < d.kind := by omega
   clear hk;go_enter Tryz.func67, Tryz.ntmps67;go_wp2_with fail;go_ret;exact ⟨rfl, g0⟩
 ·have h1 : 1 ≤ d.kind := by omega
  have h2 : d.kind ≤ 3 := by omega
  have HR2 : Hid (R = if d.key < 1 ∨ 255 < d.key ∨ d.num < (if d.kind = 3 then 1 else 0) ∨ (if d.kind = 3 then 60000 else 0) < d.num then 3 else if 8 < d.data.length ∨ d.kind ≠ 1 ∧ d.data.length ≠ 0 then 4 else 0) := by
   show R = _; rw [HR.out]; unfold Yq; rw [if_neg hk]
  clear hk HR;have key : ∀ lo hi : Int, (if d.kind = 3 then 1 else 0) = lo → (if d.kind = 3 then 60000 else 0) = hi → (d.key < 1 → R = 3) ∧ (255 < d.key → R = 3) ∧ (d.num < lo → R = 3) ∧ (hi < d.num → R = 3) ∧ (1 ≤ d.key → d.key ≤ 255 → lo ≤ d.num → d.num ≤ hi → (8 < d.data.length → R = 4) ∧ (d.kind ≠ 1 → d.data.length ≠ 0 → R = 4) ∧ (d.data.length ≤ 8 → (d.kind = 1 ∨ d.data.length = 0) → R = 0)) := by
   rintro lo hi rfl rfl;refine ⟨fun h => ?_, fun h => ?_, fun h => ?_, fun h => ?_, fun a1 a2 a3 a4 => ⟨fun h => ?_, fun h h' => ?_, fun h h' => ?_⟩⟩
   ·rw [HR2.out, if_pos (.inl h)]
   ·rw [HR2.out, if_pos (.inr (.inl h))]
   ·rw [HR2.out, if_pos (.inr (.inr (.inl h)))]
   ·rw [HR2.out, if_pos (.inr (.inr (.inr h)))]
   ·rw [HR2.out, if_neg (by omega), if_pos (.inl h)]
   ·rw [HR2.out, if_neg (by omega), if_pos (.inr ⟨h, h'⟩)]
   ·rw [HR2.out, if_neg (by omega), if_neg (by omega)]
  by_cases h3 : d.kind = 3
  ·obtain ⟨k1, k2, k3, k4, k5⟩ := key 1 60000 (by rw [if_pos h3]) (by rw [if_pos h3]);have K : Hid _ := And.intro k1 (And.intro k2 (And.intro k3 (And.intro k4 k5)));have d3 : (d.kind == 3) = true := by simp [h3]
   have d1 : (d.kind != 1) = true := by simp; omega
   clear key HR2 k1 k2 k3 k4 k5;by_cases y1 : d.key < 1
   ·obtain rfl := (K.out.1 y1).symm;clear h3 K;go_enter Tryz.func67, Tryz.ntmps67;go_wp2_with fail;go_ret;exact ⟨rfl, g0⟩
   ·by_cases y2 : 255 < d.key
    ·obtain rfl := (K.out.2.1 y2).symm;clear h3 K;go_enter Tryz.func67, Tryz.ntmps67;go_wp2_with fail;go_ret;exact ⟨rfl, g0⟩
    ·by_cases y3 : d.num < 1
     ·obtain rfl := (K.out.2.2.1 y3).symm;clear h3 K;go_enter Tryz.func67, Tryz.ntmps67;go_wp2_with fail;go_ret;exact ⟨rfl, g0⟩
     ·by_cases y4 : 60000 < d.num
      ·obtain rfl := (K.out.2.2.2.1 y4).symm;clear h3 K;go_enter Tryz.func67, Tryz.ntmps67;go_wp2_with fail;go_ret;exact ⟨rfl, g0⟩
      ·obtain ⟨k1, k2, k3⟩ := K.out.2.2.2.2 (by omega) (by omega) (by omega) (by omega);by_cases y5 : 8 < d.data.length
       ·obtain rfl := (k1 y5).symm;clear h3 K k1 k2 k3;go_enter Tryz.func67, Tryz.ntmps67;go_wp2_with fail;go_ret;exact ⟨rfl, g0⟩
       ·by_cases y6 : d.data.length = 0
        ·obtain rfl := (k3 (by omega) (.inr y6)).symm;have d6 : ((d.data.length : Int) != 0) = false := by simp; exact List.eq_nil_of_length_eq_zero y6
         clear h3 K k1 k2 k3 y6;go_enter Tryz.func67, Tryz.ntmps67;go_wp2_with fail;go_ret;exact ⟨rfl, g0⟩
        ·obtain rfl := (k2 (by omega) y6).symm;have d6 : ((d.data.length : Int) != 0) = true := by simp; intro e; exact y6 (by rw [e]; rfl)
         clear h3 K k1 k2 k3 y6;go_enter Tryz.func67, Tryz.ntmps67;go_wp2_with fail;go_ret;exact ⟨rfl, g0⟩
  ·obtain ⟨k1, k2, k3, k4, k5⟩ := key 0 0 (by rw [if_neg h3]) (by rw [if_neg h3]);have K : Hid _ := And.intro k1 (And.intro k2 (And.intro k3 (And.intro k4 k5)));have d3 : (d.kind == 3) = false := by simp [h3]
   clear key HR2 k1 k2 k3 k4 k5;by_cases y1 : d.key < 1
   ·obtain rfl := (K.out.1 y1).symm;clear h3 K;go_enter Tryz.func67, Tryz.ntmps67;go_wp2_with fail;go_ret;exact ⟨rfl, g0⟩
   ·by_cases y2 : 255 < d.key
    ·obtain rfl := (K.out.2.1 y2).symm;clear h3 K;go_enter Tryz.func67, Tryz.ntmps67;go_wp2_with fail;go_ret;exact ⟨rfl, g0⟩
    ·by_cases y3 : d.num < 0
     ·obtain rfl := (K.out.2.2.1 y3).symm;clear h3 K;go_enter Tryz.func67, Tryz.ntmps67;go_wp2_with fail;go_ret;exact ⟨rfl, g0⟩
     ·by_cases y4 : 0 < d.num
      ·obtain rfl := (K.out.2.2.2.1 y4).symm;clear h3 K;go_enter Tryz.func67, Tryz.ntmps67;go_wp2_with fail;go_ret;exact ⟨rfl, g0⟩
      ·obtain ⟨k1, k2, k3⟩ := K.out.2.2.2.2 (by omega) (by omega) (by omega) (by omega);by_cases y5 : 8 < d.data.length
       ·obtain rfl := (k1 y5).symm;clear h3 K k1 k2 k3;go_enter Tryz.func67, Tryz.ntmps67;go_wp2_with fail;go_ret;exact ⟨rfl, g0⟩
       ·by_cases y7 : d.kind = 1
        ·obtain rfl := (k3 (by omega) (.inl y7)).symm;have d7 : (d.kind != 1) = false := by simp [y7]
         clear h3 K k1 k2 k3 y7;go_enter Tryz.func67, Tryz.ntmps67;go_wp2_with fail;go_ret;exact ⟨rfl, g0⟩
        ·have d7 : (d.kind != 1) = true := by simp [y7]
         by_cases y6 : d.data.length = 0
         ·obtain rfl := (k3 (by omega) (.inr y6)).symm;have d6 : ((d.data.length : Int) != 0) = false := by simp; exact List.eq_nil_of_length_eq_zero y6
          clear h3 K k1 k2 k3 y6 y7;go_enter Tryz.func67, Tryz.ntmps67;go_wp2_with fail;go_ret;exact ⟨rfl, g0⟩
         ·obtain rfl := (k2 y7 y6).symm;have d6 : ((d.data.length : Int) != 0) = true := by simp; intro e; exact y6 (by rw [e]; rfl)
          clear h3 K k1 k2 k3 y6 y7;go_enter Tryz.func67, Tryz.ntmps67;go_wp2_with fail;go_ret;exact ⟨rfl, g0⟩
def Zwu (r : Rec) : Bool := decide (Z9 r = 0 ∧ r.kind ≠ 1)
def Za2 (l : List Rec) : Bool := l.all Zwu && decide (l.length ≤ 40)
def Xy (l : List Rec) : Int := l.foldl (fun n r => if n ≤ r.ver then r.ver + 1 else n) 1
theorem Zf9 (l : List Rec) (k : Nat) (h : k < l.length) : Xy (l.take (k + 1)) = if Xy (l.take k) ≤ l[k].ver then l[k].ver + 1 else Xy (l.take k) := by
 unfold Xy;rw [List.take_succ_eq_append_getElem h, List.foldl_append]; rfl
theorem Ztc (l : List Rec) (h : ∀ r ∈ l, r.ver ≤ 60000) : 1 ≤ Xy l ∧ Xy l ≤ 60001 := by
 have key : ∀ (l : List Rec) (n : Int), (∀ r ∈ l, r.ver ≤ 60000) → 1 ≤ n → n ≤ 60001 → 1 ≤ l.foldl (fun n r => if n ≤ r.ver then r.ver + 1 else n) n ∧ l.foldl (fun n r => if n ≤ r.ver then r.ver + 1 else n) n ≤ 60001 := by
  intro l
  induction l with
  | nil => intro n _ h1 h2; exact ⟨h1, h2⟩
  | cons x l ih =>
   intro n hb h1 h2;rw [List.foldl_cons];have hx := hb x (by simp);refine ih _ (fun r hr => hb r (by simp [hr])) ?_ ?_ <;> split <;> omega
 exact key l 1 h (by omega) (by omega)
theorem Zpt (S : Nat → Prop) (l : List Rec) (v : Value) (w : World) (hs : Qs S w v l) (hm : l.length ≤ 1000000) (hv : ∀ r ∈ l, r.ver ≤ 60000) :
  Calls Tryz.prog 102 #[v] w fun r w' => r = .returned (.int .i64 (Xy l)) ∧ Zn w w' := by
 obtain ⟨ao, cp, rfl⟩ := hs.form;obtain ⟨R, hR⟩ : ∃ R, R = Xy l := ⟨_, rfl⟩;rw [← hR];have HR : Hid _ := hR;have HV : Hid _ := hv;clear hR hv;go_enter Tryz.func102, Tryz.ntmps102;go_wp2_with fail;go_loopw [3, 8] (fun n i wr => ∃ (k : Nat) (N : Int), k ≤ l.length ∧ i = .int .i64 k ∧ n = .int .i64 N ∧ Hid (N = Xy (l.take k)) ∧ Zn w wr) (fun _ i _ => l.length - (intOf i).toNat)
 case atStart => exact ⟨0, 1, Nat.zero_le _, rfl, rfl, (by show _ = _; rfl), Zn.refl _⟩
 case round =>
  obtain ⟨k, N, hk, rfl, rfl, HK, gw⟩ := hrel;by_cases hlt : k < l.length
  ·obtain ⟨b, off, a1, c1, hv1, q0, q1, q2, q3, hu⟩ := Jx (hs.grow gw) k hlt;cases hv1;have HN : Hid (Xy (l.take (k + 1)) = if N ≤ l[k].ver then l[k].ver + 1 else N) := by show _ = _; rw [Zf9 l k hlt, HK.out]
   have hb1 : 1 ≤ N ∧ N ≤ 60001 := by rw [HK.out]; exact Ztc _ fun r hr => HV.out r (List.mem_of_mem_take hr)
   have hb2 : l[k].ver ≤ 60000 := HV.out _ (List.getElem_mem _);generalize l[k] = x at *;have g1 := Zb wr (.cells #[.int .i64 x.kind, .int .i64 x.key, .int .i64 x.ver, .slice a1 x.data.length c1] 61);have hX1 := Zg wr #[.int .i64 x.kind, .int .i64 x.key, .int .i64 x.ver, .slice a1 x.data.length c1] 61;have gw1 := gw.trans g1;have x2 := Zc hX1 2 _ rfl;clear g1 hu gw HK hX1;by_cases hn : N ≤ x.ver
   ·have HN2 : Hid (x.ver + 1 = Xy (l.take (k + 1))) := by show _ = _; rw [HN.out, if_pos hn]
    clear HN;go_wp2_with fail;go_roundw
    case rel => exact ⟨k + 1, x.ver + 1, by omega, by go_num, rfl, HN2, gw1⟩
    case measure => simp [intOf]; omega
   ·have HN2 : Hid (N = Xy (l.take (k + 1))) := by show _ = _; rw [HN.out, if_neg hn]
    clear HN;go_wp2_with fail;go_roundw
    case rel => exact ⟨k + 1, N, by omega, by go_num, rfl, HN2, gw1⟩
    case measure => simp [intOf]; omega
  ·have hNR : N = R := by rw [HK.out, HR.out, show k = l.length from by omega, List.take_length]
   subst hNR;clear HK HR;go_wp2_with fail;go_ret;exact ⟨rfl, gw⟩
def Y1 (d : Dd) (n : Int) : Rec := ⟨1 + d.kind, d.key, n, d.data⟩
theorem Zhv (d : Dd) (n : Int) (a : Option Addr) (c : Nat) (w : World) (hk0 : -1000 ≤ d.kind) (hk1 : d.kind ≤ 1000) :
  Calls Tryz.prog 93 #[.agg #[.int .i64 d.kind, .int .i64 d.key, .int .i64 d.num, .slice a d.data.length c], .int .i64 n] w fun r w' => r = .returned (.agg #[.int .i64 (1 + d.kind), .int .i64 d.key, .int .i64 n, .slice a d.data.length c]) ∧ Zn w w' := by
 have g0 := Zp w (.cells #[.int .i64 d.kind, .int .i64 d.key, .int .i64 d.num, .slice a d.data.length c] 47) (.cells #[.int .i64 (1 + d.kind), .int .i64 d.key, .int .i64 n, .slice a d.data.length c] 61);go_enter Tryz.func93, Tryz.ntmps93;go_wp2_with fail;exact bodyPost_ret (v := .agg #[.int .i64 (1 + d.kind), .int .i64 d.key, .int .i64 n, .slice a d.data.length c]) (by simp [results, Tryz.results93, go_sem]) rfl ⟨rfl, g0⟩
end Go.Proofs.YtpdnapbchcdhlacGreat
namespace Go.Proofs.YtpdnapbchcdhlacGreat
set_option maxRecDepth 100000
open Go.RowKit Go.Deep
open Plain Reg
variable {B : Nat} {S0 : Nat → Prop} {css : List (List Value)} {v : Value} {w w3 : World} {α : Type}
theorem Ztu {n size : Nat} {e : TypeId} {us : List Value} (hown : w.ownsRow B e size v n us) (hT : e ≠ 5) (hS0 : ∀ b, S0 b → b < B) (hg : w.grownBy w3 v.ownBlock) : ∀ b, InS S0 B w b → b < w.heap.size → w3.heap[b]? = w.heap[b]? := by
 intro b hb hlt;refine hg.block b hlt ?_;rcases hb with h | ⟨_, c, f, h⟩
 ·exact Kh hown (hS0 b h)
 ·exact Zsk hown hT h
theorem Yv.ext {sh : Qr α} {v' : Value} {xs ys : List α} {yss : List (List Value)} {w3 : World} (h : Yv sh S0 B v xs css w) (hT : sh.T ≠ 5) (hS0 : ∀ b, S0 b → b < B) (hl : yss.length = ys.length)
  (hy : ∀ i (hi : i < ys.length), ∃ cs, yss[i]? = some cs ∧ sh.enc (InS S0 B w) w ys[i] cs) (hg : w.grownBy w3 v.ownBlock) (hown : w3.ownsRow B sh.T sh.size v' (xs.length + ys.length) (css.flatten ++ yss.flatten)) : Yv sh S0 B v' (xs ++ ys) (css ++ yss) w3 := by
 have hk := Ztu (S0 := S0) h.row hT hS0 hg;have hm : ∀ b, InS S0 B w b → InS S0 B w3 b := fun b h1 => Xq h1 (fun x => x) fun ⟨k1, c, f, k2⟩ => ⟨k1, c, f, (hk b h1 (Za k2)).trans k2⟩
 refine ⟨by simp [h.len, hl], fun i hi => ?_, by simpa using hown⟩;by_cases hi2 : i < xs.length
 ·obtain ⟨y, h1, h2⟩ := h.each i hi2;refine ⟨y, by rw [List.getElem?_append_left (by rw [h.len]; exact hi2)]; exact h1, ?_⟩;rw [List.getElem_append_left hi2]; exact sh.mono (sh.keep h2 hk) hm
 ·have hi3 : i - xs.length < ys.length := by simp at hi; omega
  obtain ⟨y, h1, h2⟩ := hy (i - xs.length) hi3;refine ⟨y, by rw [List.getElem?_append_right (by rw [h.len]; omega), h.len]; exact h1, ?_⟩;rw [List.getElem_append_right (by omega)]; exact sh.mono (sh.keep h2 hk) hm
theorem Vt {k : Nat} : ∀ (css : List (List Value)), (∀ c ∈ css, c.length = k) → css.flatten.length = css.length * k
 | [], _ => by simp
 | c :: css, h => by
  rw [List.flatten_cons, List.length_append, Vt css fun c hc => h c (by simp [hc]), h c (by simp), List.length_cons, Nat.add_mul]; omega
theorem Yv.app {sh : Qr α} {S0 S : Nat → Prop} {B bytes : Nat} {v u z : Value} {xs ys : List α} {css : List (List Value)} {w : World} {t : TypeId} (ty : TypeId) {i : TypeInfo} (ht : Tryz.prog.underlying t = some (.slice sh.T)) (hif : Tryz.prog.info? sh.T = some i) (hz : i.zero = some z) (hsize : i.size = sh.size) (hby : i.bytes = bytes) (hzs : z.cells.size = sh.size)
  (hsz : 0 < sh.size) (hT : sh.T ≠ 5) (hS0 : ∀ b, S0 b → b < B) (h : Yv sh S0 B v xs css w) (hy : Z7 sh S w u ys) (hSS : ∀ b, S b → InS S0 B w b) (h63 : xs.length + ys.length ≤ maxLen) (hb : (xs.length + ys.length) * bytes ≤ 140737488355328) (hB : B ≤ w.heap.size) :
  ∃ v' w' css', (Builtin.append_ #[t, t] ty #[v, u]).run Tryz.prog w = .ok v' w' ∧ Yv sh S0 B v' (xs ++ ys) css' w' ∧ w.grownBy w' v.ownBlock := by
 rcases hy with ⟨ao, cap, rfl, rfl, h0⟩ | ⟨b, off, cap, hSb, rfl, hcap, hc⟩
 ·cases ao with
  | none =>
   obtain rfl := h0 rfl;exact ⟨v, w, css, run_append_owned_none (P := Tryz.prog) (w := w) B t ty sh.T i sh.size ht hif v xs.length css.flatten h.row, by simpa using h, ⟨rfl, rfl, rfl, Nat.le_refl _, fun _ _ _ => rfl⟩⟩
  | some ad =>
   obtain ⟨v', w', h1, h2, h3, -⟩ := run_append_own (P := Tryz.prog) (w := w) B t ty sh.T i z sh.size bytes ht hif hz hsize hby hzs hsz v xs.length css.flatten h.row ad 0 cap [] (by simp) (fun j u hj => by simp at hj) (by simp) (by simpa using h63) (by simpa using hb) hB;refine ⟨v', w', css ++ [], h1, ?_, h3⟩;exact h.ext hT hS0 rfl (fun i hi => by simp at hi) h3 (by simpa using h2)
 ·have hex : ∀ j, j < ys.length → ∃ cs : List Value, (∀ hj : j < ys.length, sh.enc S w ys[j] cs) ∧ ∀ (k : Nat) (u : Value), cs[k]? = some u → w.cell? ⟨b, off + j * sh.size + k, none⟩ = some u := fun j hj => by
   obtain ⟨cs, k1, k2⟩ := hc j hj;exact ⟨cs, fun _ => k1, k2⟩
  obtain ⟨f, hf⟩ := choose_lt hex;have hlen : ∀ c ∈ (List.range ys.length).map f, c.length = sh.size := by
   intro c hc2;obtain ⟨j, hj, rfl⟩ := List.mem_map.1 hc2;have hj' : j < ys.length := by simpa using hj
   exact sh.len ((hf j hj').1 hj')
  have hl1 : ((List.range ys.length).map f).flatten.length = ys.length * sh.size := by rw [Vt _ hlen]; simp
  have hcells : ∀ (j : Nat) (u : Value), ((List.range ys.length).map f).flatten[j]? = some u → w.cell? ((⟨b, off, none⟩ : Addr).add j) = some u := by
   intro j u hj;have hjl : j < ys.length * sh.size := by rw [← hl1]; exact (List.getElem?_eq_some_iff.1 hj).1
   have hq : j / sh.size < ys.length := Nat.div_lt_of_lt_mul (by rw [Nat.mul_comm]; exact hjl);have hr : j % sh.size < sh.size := Nat.mod_lt _ hsz;have hjd : j / sh.size * sh.size + j % sh.size = j := by rw [Nat.mul_comm]; exact Nat.div_add_mod j sh.size
   rw [← hjd, Jj _ (j / sh.size) (j % sh.size) (f (j / sh.size)) hlen (by simp [hq]) hr] at hj;have := (hf _ hq).2 _ _ hj;have e : (⟨b, off, none⟩ : Addr).add j = ⟨b, off + j, none⟩ := by
    unfold Addr.add;split
    ·rename_i h; rw [h]; rfl
    ·rfl
   rw [e, ← hjd, ← Nat.add_assoc]; exact this
  obtain ⟨v', w', h1, h2, h3, -⟩ := run_append_own (P := Tryz.prog) (w := w) B t ty sh.T i z sh.size bytes ht hif hz hsize hby hzs hsz v xs.length css.flatten h.row ⟨b, off, none⟩ ys.length cap ((List.range ys.length).map f).flatten hl1 hcells (fun u hu => by
   obtain ⟨cs, k1, k2⟩ := List.mem_flatten.1 hu;obtain ⟨j, hj, rfl⟩ := List.mem_map.1 k1;have hj' : j < ys.length := by simpa using hj
   exact sh.one ((hf j hj').1 hj') u k2) h63 hb hB
  refine ⟨v', w', _, h1, h.ext (yss := (List.range ys.length).map f) hT hS0 (by simp) (fun j hj => ⟨f j, by simp [hj], sh.mono ((hf j hj).1 hj) hSS⟩) h3 h2, h3⟩
end Go.Proofs.YtpdnapbchcdhlacGreat
