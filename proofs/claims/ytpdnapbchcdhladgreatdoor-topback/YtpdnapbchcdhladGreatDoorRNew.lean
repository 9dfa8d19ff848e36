import Derived.Test.YtpdnapbchcdhladGreatDoorJPd
import Derived.Maps.OwnOps
import Derived.Maps.Views
import Derived.Deep.Slices
set_option maxHeartbeats 8000000
namespace Go.Proofs.YtpdnapbchcdhladGreatDoor
set_option maxRecDepth 100000
open Go.RowKit
open Plain Reg
end Go.Proofs.YtpdnapbchcdhladGreatDoor
namespace Go.Proofs.YtpdnapbchcdhladGreatDoor
set_option maxRecDepth 100000
open Go.RowKit
open Plain Reg
end Go.Proofs.YtpdnapbchcdhladGreatDoor
namespace Go.Proofs.YtpdnapbchcdhladGreatDoor
set_option maxRecDepth 100000
open Go.RowKit
open Plain Reg
theorem Znh (l : List UInt8) (m : Nat) (y : Int) (hm : m < l.length) : (l.map bv).set m (.int .u8 ((l[m] ^^^ lo y).toNat : Int)) = (turned l (m : Int) y).map bv := by
 unfold turned;rw [if_pos (by omega), show ((m : Int)).toNat = m from by omega, V9 _ _ _ hm, List.map_set]; rfl
theorem Zca (l : List UInt8) (n y : Int) : (turned l n y).length = l.length := by unfold turned; split <;> simp
theorem Zuk {w : World} {base n : Nat} {e : TypeId} {v : Value} {xs : List Value} (h : w.ownsRow base e 1 v n xs) (hn : 0 < n) : ∃ q cap, v = .slice (some ⟨q, 0, none⟩) n cap := by
 rcases h.2 with ⟨_, e⟩ | ⟨q, cap, cur, e, _⟩
 ·omega
 ·exact ⟨q, cap, e⟩
variable {S : Nat → Prop} {n : Nat} {v : Value} {w w' : World}
def X1 (S : Nat → Prop) (d : Dk) (v : Value) (w : World) : Prop := ∃ vb vl, v = .agg #[vb, vl] ∧ Xc S w vb d.blocks ∧ Q4 S w vl d.late
theorem X1.grow {d : Dk} (h : X1 S d v w) (hg : Zj w w') : X1 S d v w' := by
 obtain ⟨vb, vl, h1, h2, h3⟩ := h; exact ⟨vb, vl, h1, h2.grow hg, h3.grow hg⟩
theorem X1.mono {S' : Nat → Prop} {d : Dk} (h : X1 S d v w) (hS : ∀ b, S b → S' b) : X1 S' d v w := by
 obtain ⟨vb, vl, h1, h2, h3⟩ := h; exact ⟨vb, vl, h1, h2.mono hS, h3.mono hS⟩
theorem X1.but {g : Nat} {d : Dk} (h : X1 S d v w) (hg : Zo g w w') (hn : ¬ S g) : X1 S d v w' := by
 obtain ⟨vb, vl, h1, h2, h3⟩ := h; exact ⟨vb, vl, h1, h2.but hg hn, h3.but hg hn⟩
theorem X1.p {d : Dk} (h : X1 S d v w) : Vo d v w := by
 obtain ⟨vb, vl, h1, h2, h3⟩ := h; exact ⟨vb, vl, h1, h2.p, h3.p⟩
theorem Vo.s {d : Dk} (h : Vo d v w) : X1 (fun b => b < w.heap.size) d v w := by
 obtain ⟨vb, vl, h1, h2, h3⟩ := h; exact ⟨vb, vl, h1, h2.s, h3.s⟩
theorem X1.form {d : Dk} (h : X1 S d v w) : ∃ ab cb al cl, v = .agg #[.slice ab d.blocks.length cb, .slice al d.late.length cl] ∧ Xc S w (.slice ab d.blocks.length cb) d.blocks ∧ Q4 S w (.slice al d.late.length cl) d.late := by
 obtain ⟨vb, vl, h1, h2, h3⟩ := h;obtain ⟨ab, cb, rfl⟩ := h2.p.form;obtain ⟨al, cl, rfl⟩ := h3.p.form;exact ⟨ab, cb, al, cl, h1, h2, h3⟩
theorem Qd.s {B : Nat} {d : Dk} (S : Nat → Prop) (h : Qd B d v w) : X1 (Z7 S B) d v w := by
 obtain ⟨vb, vl, h1, ⟨us, h2⟩, ⟨ut, h3⟩⟩ := h;refine ⟨vb, vl, h1, ?_, ?_⟩
 ·rcases h2.row.2 with ⟨rfl, h0⟩ | ⟨q, cap, cur, rfl, hb, hh, k1, k2, k3, k4⟩
  ·exact .inl ⟨none, 0, rfl, List.eq_nil_of_length_eq_zero h0, fun _ => rfl⟩
  ·refine .inr ⟨q, 0, cap, .inr hb, rfl, k1, fun i hi => ?_⟩;have c0 := h2.row.cellAt i (by omega);obtain ⟨u, hu1, hu2⟩ := h2.each i hi;rw [hu1] at c0;exact ⟨u, by rw [Nat.zero_add]; exact c0, Zf8 S hu2⟩
 ·exact (Zlx (S := Z7 S B) h3.row h3.len (fun i hi => (h3.each i hi).imp fun _ hu => ⟨hu.1, Zf8 S hu.2⟩)).mono (fun b hb => hb.elim (fun x => x) .inr)
structure Dk.Fine (n : Nat) (d : Dk) : Prop where
 len : d.blocks.length = 12
 few : d.late.length ≤ n
 block : ∀ x ∈ d.blocks, x.length = 16
 late : ∀ x ∈ d.late, x.2.length = 16
 place : ∀ x ∈ d.late, 0 ≤ x.1 ∧ x.1 < 12
theorem Dk.Fine.mono {m : Nat} {d : Dk} (h : d.Fine n) (hm : n ≤ m) : d.Fine m := ⟨h.len, Nat.le_trans h.few hm, h.block, h.late, h.place⟩
theorem Dk.Fine.b16 {d : Dk} (h : d.Fine n) : ∀ x ∈ d.blocks, x.length ≤ 1000 := fun x hx => by rw [h.block x hx]; omega
theorem Dk.Fine.l16 {d : Dk} (h : d.Fine n) : ∀ x ∈ d.late, x.2.length ≤ 1000 := fun x hx => by rw [h.late x hx]; omega
theorem Dk.Fine.pl {d : Dk} (h : d.Fine n) : ∀ x ∈ d.late, 0 ≤ x.1 ∧ x.1 < (d.blocks.length : Int) := fun x hx => by rw [h.len]; exact h.place x hx
theorem Dk.Fine.pair {d : Dk} (h : d.Fine n) (p : Int) (r : Rec) : (d.pairD p r).Fine (n + 2) := by
 unfold Dk.pairD;by_cases he : d.pairE p r = 0
 ·rw [if_pos he];unfold Dk.pairE at he;by_cases ho : p < 0 ∨ ((d.blocks.length / 2 : Nat) : Int) ≤ p
  ·rw [if_pos ho] at he; omega
  ·rw [if_neg ho] at he;have hl := (Kc he).2.2.2.2.2.2;have h12 := h.len;rw [h12] at ho;refine ⟨h.len, by show (d.late ++ [_, _]).length ≤ _; have := h.few; simp; omega, h.block, fun x hx => ?_, fun x hx => ?_⟩
   ·rcases List.mem_append.1 (show x ∈ d.late ++ [_, _] from hx) with h1 | h1
    ·exact h.late x h1
    ·rcases List.mem_cons.1 h1 with rfl | h2
     ·exact Vg r _ hl
     ·rw [List.mem_singleton.1 h2]; exact Vg r _ hl
   ·rcases List.mem_append.1 (show x ∈ d.late ++ [_, _] from hx) with h1 | h1
    ·exact h.place x h1
    ·rcases List.mem_cons.1 h1 with rfl | h2
     ·show 0 ≤ 2 * p ∧ 2 * p < 12; omega
     ·rw [List.mem_singleton.1 h2]; show 0 ≤ 2 * p + 1 ∧ 2 * p + 1 < 12; omega
 ·rw [if_neg he]; exact h.mono (by omega)
theorem Dk.Fine.mend {d : Dk} (h : d.Fine n) (p : Int) : (d.mendD p).Fine (n + 2) := by
 unfold Dk.mendD;split
 ·exact h.pair p _
 ·exact h.mono (by omega)
theorem Dk.Fine.keep {d : Dk} (h : d.Fine n) (on : Nat → Bool) : ∀ k, k ≤ d.late.length → ∀ x ∈ d.keepTo on k, x.length = 16
 | 0, _ => h.block
 | k + 1, hk => by
  have ih := keep h on k (by omega);show ∀ x ∈ (if on k = true then _ else _ : List (List UInt8)), x.length = 16;split
  ·intro x hx;rcases List.mem_or_eq_of_mem_set hx with h1 | h1
   ·exact ih x h1
   ·rw [h1, V9 _ _ _ (by omega)]; exact h.late _ (List.getElem_mem _)
  ·exact ih
theorem Dk.Fine.kept {d : Dk} (h : d.Fine n) (bt : Int) : (d.keep bt).Fine 0 :=
 ⟨(d.keepTo_length _ _).trans h.len, Nat.le_refl _, h.keep _ _ (Nat.le_refl _), (fun x hx => by cases hx), (fun x hx => by cases hx)⟩
theorem Dk.Fine.flush {d : Dk} (h : d.Fine n) : d.flush.Fine 0 :=
 ⟨(d.keepTo_length _ _).trans h.len, Nat.le_refl _, h.keep _ _ (Nat.le_refl _), (fun x hx => by cases hx), (fun x hx => by cases hx)⟩
theorem Dk.Fine.spoil {d : Dk} (h : d.Fine n) (a k y : Int) : (d.spoil a k y).Fine n := by
 unfold Dk.spoil;split
 ·rename_i ha;refine ⟨by rw [List.length_set]; exact h.len, h.few, fun x hx => ?_, h.late, h.place⟩;rcases List.mem_or_eq_of_mem_set hx with h1 | h1
  ·exact h.block x h1
  ·rw [h1, Zca, V9 _ _ _ (by omega)]; exact h.block _ (List.getElem_mem _)
 ·exact h
theorem Zdg : Dk.new.Fine 0 :=
 ⟨rfl, Nat.le_refl _, fun x hx => by
  obtain ⟨i, hi, rfl⟩ := List.mem_iff_getElem.1 hx;rw [Zvp i hi]; exact Vg _ _ (by simp), (fun x hx => by cases hx), (fun x hx => by cases hx)⟩
def Z1a : Prop := ∀ (d : Dk) (p : Int) (v : Value) (w : World), d.Fine 900 → Vo d v w →
 Calls Tryz.prog 67 #[v, .int .i64 p] w fun e w' => ∃ dv, e = .returned (.tuple #[.int .i64 (d.how p), .agg #[.int .i64 (d.tell p).kind, .int .i64 (d.tell p).key, .int .i64 (d.tell p).ver, dv]]) ∧ w'.ownsRow w.heap.size 5 1 dv (d.tell p).data.length ((d.tell p).data.map bv) ∧ Zj w w'
def Z1j : Prop := ∀ (S : Nat → Prop) (d : Dk) (p k y n : Int) (l : List UInt8) (v u : Value) (w : World), (∀ b, S b → b < w.heap.size) → d.Fine 900 → X1 S d v w → Bytes w u l →
 Calls Tryz.prog 62 #[v, .int .i64 p, .agg #[.int .i64 k, .int .i64 y, .int .i64 n, u]] w fun e w' => ∃ v', e = .returned (.tuple #[v', .int .i64 (d.pairE p ⟨k, y, n, l⟩)]) ∧ X1 (Z7 S w.heap.size) (d.pairD p ⟨k, y, n, l⟩) v' w' ∧ Zj w w'
def Z07 : Prop := ∀ (S : Nat → Prop) (d : Dk) (p : Int) (v : Value) (w : World), (∀ b, S b → b < w.heap.size) → d.Fine 900 → X1 S d v w →
 Calls Tryz.prog 40 #[v, .int .i64 p] w fun e w' => ∃ D v' h, e = .returned (.tuple #[v', .int .i64 h]) ∧ X1 (Z7 S w.heap.size) D v' w' ∧ Zj w w' ∧ (0 ≤ p → p < 6 → h = d.how p ∧ D = d.mendD p) ∧ D.blocks.length ≤ 1000 ∧ D.late.length ≤ 2000
theorem Zgf : ∀ (n : Nat) (l : List Nat), l.Nodup → (∀ x ∈ l, x < n) → l.length ≤ n
 | 0, l, _, h => by
  cases l with
  | nil => simp
  | cons x l => exact absurd (h x (by simp)) (by omega)
 | n + 1, l, hn, h => by
  have h1 := Zgf n (l.erase n) (hn.erase n) fun x hx => by
   have h2 := (hn.mem_erase_iff).1 hx;have := h x h2.2;omega
  by_cases hm : n ∈ l
  ·have := List.length_erase_of_mem hm;omega
  ·rw [List.erase_of_not_mem hm] at h1;omega
theorem Zra {l : List Ent} (h : Xr l = true) : l.length ≤ 1001 := by
 obtain ⟨h1, h2⟩ := (Yr l).1 h;have hn : (l.map fun x => x.pair.toNat).Nodup := by
  rw [List.nodup_iff_pairwise_ne, List.pairwise_map];exact List.Pairwise.imp_of_mem (fun ha hb hR e => hR.2 (by have := (h2 _ ha).2.2; have := (h2 _ hb).2.2; omega)) h1
 have := Zgf 1001 _ hn fun n hn => by
  obtain ⟨x, hx, rfl⟩ := List.mem_map.1 hn;have := (h2 x hx).2.2;omega
 simpa using this
def Z0g : Prop := ∀ (S : Nat → Prop) (l : List Ent) (pairs : Int) (v : Value) (w : World), Xr l = true → pairs ≤ 1000 → Yn S w v l →
 Calls Tryz.prog 103 #[v, .int .i64 pairs] w fun r w' => ∃ n, r = .returned (.int .i64 n) ∧ Zpk l pairs n ∧ Zj w w'
def Z1b : Prop := ∀ (S : Nat → Prop) (l : List Ent) (e : Ent) (a : Option Addr) (c : Nat) (v : Value) (w : World), (∀ b, S b → b < w.heap.size) → Xr l = true → (∀ x ∈ l, x.pair ≠ e.pair) → Z6 e.rc = 0 → Yn S w v l → Z0 S w (.slice a e.rc.data.length c) e.rc.data →
 Calls Tryz.prog 108 #[v, .agg #[.int .i64 e.rc.kind, .int .i64 e.rc.key, .int .i64 e.rc.ver, .slice a e.rc.data.length c, .int .i64 e.pair]] w fun r w' => ∃ v', r = .returned v' ∧ Yn (Z7 S w.heap.size) w' v' (Qh e l) ∧ Zj w w'
def Z0i : Prop := ∀ (S : Nat → Prop) (l : List Ent) (p : Int) (v : Value) (w : World), (∀ b, S b → b < w.heap.size) → Xr l = true → Yn S w v l →
 Calls Tryz.prog 107 #[v, .int .i64 p] w fun r w' => ∃ v', r = .returned v' ∧ Yn (Z7 S w.heap.size) w' v' (Jb l p) ∧ Zj w w'
def Ztn (S : Nat → Prop) (o : Option Ent) (v : Value) (w : World) : Prop := ∃ (x : Ent) (a : Option Addr) (c : Nat), v = .tuple #[.agg #[.int .i64 x.rc.kind, .int .i64 x.rc.key, .int .i64 x.rc.ver, .slice a x.rc.data.length c, .int .i64 x.pair], .bool o.isSome] ∧ ∀ y, o = some y → y = x ∧ Z0 S w (.slice a x.rc.data.length c) x.rc.data
def Z0h : Prop := ∀ (S : Nat → Prop) (l : List Ent) (key ver : Int) (v : Value) (w : World), (∀ b, S b → b < w.heap.size) → Xr l = true → Yn S w v l →
 Calls Tryz.prog 101 #[v, .int .i64 key, .int .i64 ver] w fun r w' => ∃ v', r = .returned v' ∧ Ztn (Z7 S w.heap.size) (Zar l key ver) v' w' ∧ Zj w w'
end Go.Proofs.YtpdnapbchcdhladGreatDoor
namespace Go.Proofs.YtpdnapbchcdhladGreatDoor
set_option maxRecDepth 100000
open Go.RowKit Go.Maps
open Plain Reg
theorem Zo.grown {g : Nat} {w w' : World} (h : w.grownBy w' (some g)) : Zo g w w' := ⟨h.os, h.tape, h.output, h.size, fun k hk hg => h.block k hk (by intro e; exact hg (Option.some.inj e))⟩
def Zkl (l : List Ent) (y : Int) : Bool := l.any fun x => decide (y = x.pair)
theorem Zfl (l : List Ent) (y : Int) : Zkl l y = true ↔ ∃ x ∈ l, x.pair = y := by
 unfold Zkl;rw [List.any_eq_true];exact ⟨fun ⟨x, h1, h2⟩ => ⟨x, h1, (of_decide_eq_true h2).symm⟩, fun ⟨x, h1, h2⟩ => ⟨x, h1, by simp [h2]⟩⟩
theorem Zts {x : Int} (h0 : 0 ≤ x) (h1 : x ≤ 1000000) : (Lit.int .i64 x).wf = true := WalkArith.wf_i64 (by omega)
end Go.Proofs.YtpdnapbchcdhladGreatDoor
namespace Go.Proofs.YtpdnapbchcdhladGreatDoor
set_option maxRecDepth 100000
open Go.RowKit
open Plain Reg
structure Dd where
 kind : Int
 key : Int
 num : Int
 data : List UInt8
def Z1 (d : Dd) : Int :=
 if d.kind < 1 ∨ 3 < d.kind then 1
 else if d.key < 1 ∨ 255 < d.key ∨ d.num < (if d.kind = 3 then 1 else 0) ∨ (if d.kind = 3 then 60000 else 0) < d.num then 3
 else if 8 < d.data.length ∨ d.kind ≠ 1 ∧ d.data.length ≠ 0 then 4 else 0
def Zy3 (r : Rec) : Bool := decide (Z6 r = 0 ∧ r.kind ≠ 1)
def Q7 (l : List Rec) : Bool := l.all Zy3 && decide (l.length ≤ 40)
def Yw (l : List Rec) : Int := l.foldl (fun n r => if n ≤ r.ver then r.ver + 1 else n) 1
theorem Zog (l : List Rec) (k : Nat) (h : k < l.length) : Yw (l.take (k + 1)) = if Yw (l.take k) ≤ l[k].ver then l[k].ver + 1 else Yw (l.take k) := by
 unfold Yw;rw [List.take_succ_eq_append_getElem h, List.foldl_append]; rfl
def Y5 (d : Dd) (n : Int) : Rec := ⟨1 + d.kind, d.key, n, d.data⟩
structure Got where
 n : Int
 e : Int
 data : List UInt8
def X7 (key : Int) (g : Got) (r : Rec) : Got := if r.key ≠ key ∨ r.ver ≤ g.n then g else if r.kind = 3 then ⟨r.ver, 10, []⟩ else ⟨r.ver, 0, r.data⟩
def X6 (l : List Rec) (key : Int) : Got := l.foldl (X7 key) ⟨0, 6, []⟩
theorem Zsl (l : List Rec) (key : Int) (k : Nat) (h : k < l.length) : X6 (l.take (k + 1)) key = X7 key (X6 (l.take k) key) l[k] := by
 unfold X6;rw [List.take_succ_eq_append_getElem h, List.foldl_append]; rfl
end Go.Proofs.YtpdnapbchcdhladGreatDoor
namespace Go.Proofs.YtpdnapbchcdhladGreatDoor
set_option maxRecDepth 100000
open Go.RowKit Go.Deep
open Plain Reg
variable {B : Nat} {S0 : Nat → Prop} {css : List (List Value)} {v : Value} {w w3 : World} {α : Type}
theorem Zv1 {n size : Nat} {e : TypeId} {us : List Value} (hown : w.ownsRow B e size v n us) (hT : e ≠ 5) (hS0 : ∀ b, S0 b → b < B) (hg : w.grownBy w3 v.ownBlock) : ∀ b, InS S0 B w b → b < w.heap.size → w3.heap[b]? = w.heap[b]? := by
 intro b hb hlt;refine hg.block b hlt ?_;rcases hb with h | ⟨_, c, f, h⟩
 ·exact Zf1 hown (hS0 b h)
 ·exact Zul hown hT h
theorem Yo.ext {sh : Xz α} {v' : Value} {xs ys : List α} {yss : List (List Value)} {w3 : World} (h : Yo sh S0 B v xs css w) (hT : sh.T ≠ 5) (hS0 : ∀ b, S0 b → b < B) (hl : yss.length = ys.length)
  (hy : ∀ i (hi : i < ys.length), ∃ cs, yss[i]? = some cs ∧ sh.enc (InS S0 B w) w ys[i] cs) (hg : w.grownBy w3 v.ownBlock) (hown : w3.ownsRow B sh.T sh.size v' (xs.length + ys.length) (css.flatten ++ yss.flatten)) : Yo sh S0 B v' (xs ++ ys) (css ++ yss) w3 := by
 have hk := Zv1 (S0 := S0) h.row hT hS0 hg;have hm : ∀ b, InS S0 B w b → InS S0 B w3 b := fun b h1 => Xh h1 (fun x => x) fun ⟨k1, c, f, k2⟩ => ⟨k1, c, f, (hk b h1 (Za k2)).trans k2⟩
 refine ⟨by simp [h.len, hl], fun i hi => ?_, by simpa using hown⟩;by_cases hi2 : i < xs.length
 ·obtain ⟨y, h1, h2⟩ := h.each i hi2;refine ⟨y, by rw [List.getElem?_append_left (by rw [h.len]; exact hi2)]; exact h1, ?_⟩;rw [List.getElem_append_left hi2]; exact sh.mono (sh.keep h2 hk) hm
 ·have hi3 : i - xs.length < ys.length := by simp at hi; omega
  obtain ⟨y, h1, h2⟩ := hy (i - xs.length) hi3;refine ⟨y, by rw [List.getElem?_append_right (by rw [h.len]; omega), h.len]; exact h1, ?_⟩;rw [List.getElem_append_right (by omega)]; exact sh.mono (sh.keep h2 hk) hm
theorem Q0 {k : Nat} : ∀ (css : List (List Value)), (∀ c ∈ css, c.length = k) → css.flatten.length = css.length * k
 | [], _ => by simp
 | c :: css, h => by
  rw [List.flatten_cons, List.length_append, Q0 css fun c hc => h c (by simp [hc]), h c (by simp), List.length_cons, Nat.add_mul]; omega
theorem Yo.app {sh : Xz α} {S0 S : Nat → Prop} {B bytes : Nat} {v u z : Value} {xs ys : List α} {css : List (List Value)} {w : World} {t : TypeId} (ty : TypeId) {i : TypeInfo} (ht : Tryz.prog.underlying t = some (.slice sh.T)) (hif : Tryz.prog.info? sh.T = some i) (hz : i.zero = some z) (hsize : i.size = sh.size) (hby : i.bytes = bytes) (hzs : z.cells.size = sh.size)
  (hsz : 0 < sh.size) (hT : sh.T ≠ 5) (hS0 : ∀ b, S0 b → b < B) (h : Yo sh S0 B v xs css w) (hy : Zv sh S w u ys) (hSS : ∀ b, S b → InS S0 B w b) (h63 : xs.length + ys.length ≤ maxLen) (hb : (xs.length + ys.length) * bytes ≤ 140737488355328) (hB : B ≤ w.heap.size) :
  ∃ v' w' css', (Builtin.append_ #[t, t] ty #[v, u]).run Tryz.prog w = .ok v' w' ∧ Yo sh S0 B v' (xs ++ ys) css' w' ∧ w.grownBy w' v.ownBlock := by
 rcases hy with ⟨ao, cap, rfl, rfl, h0⟩ | ⟨b, off, cap, hSb, rfl, hcap, hc⟩
 ·cases ao with
  | none =>
   obtain rfl := h0 rfl;exact ⟨v, w, css, run_append_owned_none (P := Tryz.prog) (w := w) B t ty sh.T i sh.size ht hif v xs.length css.flatten h.row, by simpa using h, ⟨rfl, rfl, rfl, Nat.le_refl _, fun _ _ _ => rfl⟩⟩
  | some ad =>
   obtain ⟨v', w', h1, h2, h3, -⟩ := run_append_own (P := Tryz.prog) (w := w) B t ty sh.T i z sh.size bytes ht hif hz hsize hby hzs hsz v xs.length css.flatten h.row ad 0 cap [] (by simp) (fun j u hj => by simp at hj) (by simp) (by simpa using h63) (by simpa using hb) hB;refine ⟨v', w', css ++ [], h1, ?_, h3⟩;exact h.ext hT hS0 rfl (fun i hi => by simp at hi) h3 (by simpa using h2)
 ·have hex : ∀ j, j < ys.length → ∃ cs : List Value, (∀ hj : j < ys.length, sh.enc S w ys[j] cs) ∧ ∀ (k : Nat) (u : Value), cs[k]? = some u → w.cell? ⟨b, off + j * sh.size + k, none⟩ = some u := fun j hj => by
   obtain ⟨cs, k1, k2⟩ := hc j hj;exact ⟨cs, fun _ => k1, k2⟩
  obtain ⟨f, hf⟩ := choose_lt hex;have hlen : ∀ c ∈ (List.range ys.length).map f, c.length = sh.size := by
   intro c hc2;obtain ⟨j, hj, rfl⟩ := List.mem_map.1 hc2;have hj' : j < ys.length := by simpa using hj
   exact sh.len ((hf j hj').1 hj')
  have hl1 : ((List.range ys.length).map f).flatten.length = ys.length * sh.size := by rw [Q0 _ hlen]; simp
  have hcells : ∀ (j : Nat) (u : Value), ((List.range ys.length).map f).flatten[j]? = some u → w.cell? ((⟨b, off, none⟩ : Addr).add j) = some u := by
   intro j u hj;have hjl : j < ys.length * sh.size := by rw [← hl1]; exact (List.getElem?_eq_some_iff.1 hj).1
   have hq : j / sh.size < ys.length := Nat.div_lt_of_lt_mul (by rw [Nat.mul_comm]; exact hjl);have hr : j % sh.size < sh.size := Nat.mod_lt _ hsz;have hjd : j / sh.size * sh.size + j % sh.size = j := by rw [Nat.mul_comm]; exact Nat.div_add_mod j sh.size
   rw [← hjd, K9 _ (j / sh.size) (j % sh.size) (f (j / sh.size)) hlen (by simp [hq]) hr] at hj;have := (hf _ hq).2 _ _ hj;have e : (⟨b, off, none⟩ : Addr).add j = ⟨b, off + j, none⟩ := by
    unfold Addr.add;split
    ·rename_i h; rw [h]; rfl
    ·rfl
   rw [e, ← hjd, ← Nat.add_assoc]; exact this
  obtain ⟨v', w', h1, h2, h3, -⟩ := run_append_own (P := Tryz.prog) (w := w) B t ty sh.T i z sh.size bytes ht hif hz hsize hby hzs hsz v xs.length css.flatten h.row ⟨b, off, none⟩ ys.length cap ((List.range ys.length).map f).flatten hl1 hcells (fun u hu => by
   obtain ⟨cs, k1, k2⟩ := List.mem_flatten.1 hu;obtain ⟨j, hj, rfl⟩ := List.mem_map.1 k1;have hj' : j < ys.length := by simpa using hj
   exact sh.one ((hf j hj').1 hj') u k2) h63 hb hB
  refine ⟨v', w', _, h1, h.ext (yss := (List.range ys.length).map f) hT hS0 (by simp) (fun j hj => ⟨f j, by simp [hj], sh.mono ((hf j hj).1 hj) hSS⟩) h3 h2, h3⟩
end Go.Proofs.YtpdnapbchcdhladGreatDoor
