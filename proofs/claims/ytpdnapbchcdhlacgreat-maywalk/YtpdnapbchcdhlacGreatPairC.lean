import Derived.Test.YtpdnapbchcdhlacGreatRIndex
import Derived.Test.YtpdnapbchcdhlacGreatRNew
import Derived.Test.YtpdnapbchcdhlacGreatJRd
import Derived.Maps.OwnOps
import Derived.Maps.Views
set_option maxHeartbeats 8000000
namespace Go.Proofs.YtpdnapbchcdhlacGreat
set_option maxRecDepth 100000
open Go.RowKit
open Plain Reg
variable {S : Nat → Prop} {n : Nat} {v : Value} {w w' : World}
def Yt (S : Nat → Prop) (d : Dk) (v : Value) (w : World) : Prop := ∃ vb vl, v = .agg #[vb, vl] ∧ Y5 S w vb d.blocks ∧ Qk S w vl d.late
theorem Yt.grow {d : Dk} (h : Yt S d v w) (hg : Zl w w') : Yt S d v w' := by
 obtain ⟨vb, vl, h1, h2, h3⟩ := h; exact ⟨vb, vl, h1, h2.grow hg, h3.grow hg⟩
theorem Yt.mono {S' : Nat → Prop} {d : Dk} (h : Yt S d v w) (hS : ∀ b, S b → S' b) : Yt S' d v w := by
 obtain ⟨vb, vl, h1, h2, h3⟩ := h; exact ⟨vb, vl, h1, h2.mono hS, h3.mono hS⟩
theorem Yt.but {g : Nat} {d : Dk} (h : Yt S d v w) (hg : Zp g w w') (hn : ¬ S g) : Yt S d v w' := by
 obtain ⟨vb, vl, h1, h2, h3⟩ := h; exact ⟨vb, vl, h1, h2.but hg hn, h3.but hg hn⟩
theorem Yt.p {d : Dk} (h : Yt S d v w) : Q8 d v w := by
 obtain ⟨vb, vl, h1, h2, h3⟩ := h; exact ⟨vb, vl, h1, h2.p, h3.p⟩
theorem Q8.s {d : Dk} (h : Q8 d v w) : Yt (fun b => b < w.heap.size) d v w := by
 obtain ⟨vb, vl, h1, h2, h3⟩ := h; exact ⟨vb, vl, h1, h2.s, h3.s⟩
theorem Yt.form {d : Dk} (h : Yt S d v w) : ∃ ab cb al cl, v = .agg #[.slice ab d.blocks.length cb, .slice al d.late.length cl] ∧ Y5 S w (.slice ab d.blocks.length cb) d.blocks ∧ Qk S w (.slice al d.late.length cl) d.late := by
 obtain ⟨vb, vl, h1, h2, h3⟩ := h;obtain ⟨ab, cb, rfl⟩ := h2.p.form;obtain ⟨al, cl, rfl⟩ := h3.p.form;exact ⟨ab, cb, al, cl, h1, h2, h3⟩
theorem Qw.s {B : Nat} {d : Dk} (S : Nat → Prop) (h : Qw B d v w) : Yt (Z2 S B) d v w := by
 obtain ⟨vb, vl, h1, ⟨us, h2⟩, ⟨ut, h3⟩⟩ := h;refine ⟨vb, vl, h1, ?_, ?_⟩
 ·rcases h2.row.2 with ⟨rfl, h0⟩ | ⟨q, cap, cur, rfl, hb, hh, k1, k2, k3, k4⟩
  ·exact .inl ⟨none, 0, rfl, List.eq_nil_of_length_eq_zero h0, fun _ => rfl⟩
  ·refine .inr ⟨q, 0, cap, .inr hb, rfl, k1, fun i hi => ?_⟩;have c0 := h2.row.cellAt i (by omega);obtain ⟨u, hu1, hu2⟩ := h2.each i hi;rw [hu1] at c0;exact ⟨u, by rw [Nat.zero_add]; exact c0, Zff S hu2⟩
 ·exact (Zkb (S := Z2 S B) h3.row h3.len (fun i hi => (h3.each i hi).imp fun _ hu => ⟨hu.1, Zff S hu.2⟩)).mono (fun b hb => hb.elim (fun x => x) .inr)
structure Dk.Fine (n : Nat) (d : Dk) : Prop where
 len : d.blocks.length = 12
 few : d.late.length ≤ n
 block : ∀ x ∈ d.blocks, x.length = 16
 late : ∀ x ∈ d.late, x.2.length = 16
 place : ∀ x ∈ d.late, 0 ≤ x.1 ∧ x.1 < 12
theorem Dk.Fine.mono {m : Nat} {d : Dk} (h : d.Fine n) (hm : n ≤ m) : d.Fine m := ⟨h.len, Nat.le_trans h.few hm, h.block, h.late, h.place⟩
theorem Dk.Fine.b16 {d : Dk} (h : d.Fine n) : ∀ x ∈ d.blocks, x.length ≤ 1000 := fun x hx => by rw [h.block x hx]; omega
theorem Dk.Fine.l16 {d : Dk} (h : d.Fine n) : ∀ x ∈ d.late, x.2.length ≤ 1000 := fun x hx => by rw [h.late x hx]; omega
theorem Dk.Fine.pl {d : Dk} (h : d.Fine n) : ∀ x ∈ d.late, 0 ≤ x.1 ∧ x.1 < (d.blocks.length : Int) := fun x hx => by rw [h.len]; exact h.place x hx
theorem Dk.Fine.pair {d : Dk} (h : d.Fine n) (p : Int) (r : Rec) : (d.pairD p r).Fine (n + 2) := by
 unfold Dk.pairD;by_cases he : d.pairE p r = 0
 ·rw [if_pos he];unfold Dk.pairE at he;by_cases ho : p < 0 ∨ ((d.blocks.length / 2 : Nat) : Int) ≤ p
  ·rw [if_pos ho] at he; omega
  ·rw [if_neg ho] at he;have hl := (Vw he).2.2.2.2.2.2;have h12 := h.len;rw [h12] at ho;refine ⟨h.len, by show (d.late ++ [_, _]).length ≤ _; have := h.few; simp; omega, h.block, fun x hx => ?_, fun x hx => ?_⟩
   ·rcases List.mem_append.1 (show x ∈ d.late ++ [_, _] from hx) with h1 | h1
    ·exact h.late x h1
    ·rcases List.mem_cons.1 h1 with rfl | h2
     ·exact Vd r _ hl
     ·rw [List.mem_singleton.1 h2]; exact Vd r _ hl
   ·rcases List.mem_append.1 (show x ∈ d.late ++ [_, _] from hx) with h1 | h1
    ·exact h.place x h1
    ·rcases List.mem_cons.1 h1 with rfl | h2
     ·show 0 ≤ 2 * p ∧ 2 * p < 12; omega
     ·rw [List.mem_singleton.1 h2]; show 0 ≤ 2 * p + 1 ∧ 2 * p + 1 < 12; omega
 ·rw [if_neg he]; exact h.mono (by omega)
theorem Dk.Fine.mend {d : Dk} (h : d.Fine n) (p : Int) : (d.mendD p).Fine (n + 2) := by
 unfold Dk.mendD;split
 ·exact h.pair p _
 ·exact h.mono (by omega)
theorem Dk.Fine.keep {d : Dk} (h : d.Fine n) (on : Nat → Bool) : ∀ k, k ≤ d.late.length → ∀ x ∈ d.keepTo on k, x.length = 16
 | 0, _ => h.block
 | k + 1, hk => by
  have ih := keep h on k (by omega);show ∀ x ∈ (if on k = true then _ else _ : List (List UInt8)), x.length = 16;split
  ·intro x hx;rcases List.mem_or_eq_of_mem_set hx with h1 | h1
   ·exact ih x h1
   ·rw [h1, Q1 _ _ _ (by omega)]; exact h.late _ (List.getElem_mem _)
  ·exact ih
theorem Dk.Fine.kept {d : Dk} (h : d.Fine n) (bt : Int) : (d.keep bt).Fine 0 :=
 ⟨(d.keepTo_length _ _).trans h.len, Nat.le_refl _, h.keep _ _ (Nat.le_refl _), (fun x hx => by cases hx), (fun x hx => by cases hx)⟩
theorem Dk.Fine.flush {d : Dk} (h : d.Fine n) : d.flush.Fine 0 :=
 ⟨(d.keepTo_length _ _).trans h.len, Nat.le_refl _, h.keep _ _ (Nat.le_refl _), (fun x hx => by cases hx), (fun x hx => by cases hx)⟩
theorem Dk.Fine.spoil {d : Dk} (h : d.Fine n) (a k y : Int) : (d.spoil a k y).Fine n := by
 unfold Dk.spoil;split
 ·rename_i ha;refine ⟨by rw [List.length_set]; exact h.len, h.few, fun x hx => ?_, h.late, h.place⟩;rcases List.mem_or_eq_of_mem_set hx with h1 | h1
  ·exact h.block x h1
  ·rw [h1, Zbw, Q1 _ _ _ (by omega)]; exact h.block _ (List.getElem_mem _)
 ·exact h
theorem J4 : Dk.new.Fine 0 :=
 ⟨rfl, Nat.le_refl _, fun x hx => by
  obtain ⟨i, hi, rfl⟩ := List.mem_iff_getElem.1 hx;rw [Zmi i hi]; exact Vd _ _ (by simp), (fun x hx => by cases hx), (fun x hx => by cases hx)⟩
theorem Zur (S : Nat → Prop) (n : Nat) (d : Dk) (bt : Int) (v : Value) (w : World) (hS : ∀ b, S b → b < w.heap.size) (hd : Yt S d v w) (hF : d.Fine n) (hn : n ≤ 1000) :
  Calls Tryz.prog 57 #[v, .int .i64 bt] w fun e w' => ∃ v', e = .returned v' ∧ Yt (Z2 S w.heap.size) (d.keep bt) v' w' ∧ Zl w w' := by
 obtain ⟨vb, vl, rfl, h1, h2⟩ := hd;have h12 := hF.len;have hfw := hF.few;exact (Zs2 S d bt vb vl w hS h1 h2 (by omega) (by omega) (by omega) hF.pl).mono fun e w' ⟨vb', h3, h4, h5⟩ => ⟨_, h3, ⟨vb', _, rfl, h4, .inl ⟨none, 0, rfl, rfl, fun _ => rfl⟩⟩, h5⟩
theorem Zwf (S : Nat → Prop) (w : World) : Calls Tryz.prog 61 #[] w fun e w' => ∃ v, e = .returned v ∧ Yt (Z2 S w.heap.size) Dk.new v w' ∧ Zl w w' :=
 (Zj2 w).mono fun _ _ ⟨v, h1, h2, h3⟩ => ⟨v, h1, h2.s S, h3⟩
def Zx4 : Prop := ∀ (d : Dk) (p : Int) (v : Value) (w : World), d.Fine 900 → Q8 d v w →
 Calls Tryz.prog 44 #[v, .int .i64 p] w fun e w' => ∃ dv, e = .returned (.tuple #[.int .i64 (d.how p), .agg #[.int .i64 (d.tell p).kind, .int .i64 (d.tell p).key, .int .i64 (d.tell p).ver, dv]]) ∧ w'.ownsRow w.heap.size 5 1 dv (d.tell p).data.length ((d.tell p).data.map bv) ∧ Zl w w'
def Zx9 : Prop := ∀ (S : Nat → Prop) (d : Dk) (p k y n : Int) (l : List UInt8) (v u : Value) (w : World), (∀ b, S b → b < w.heap.size) → d.Fine 900 → Yt S d v w → Bytes w u l →
 Calls Tryz.prog 70 #[v, .int .i64 p, .agg #[.int .i64 k, .int .i64 y, .int .i64 n, u]] w fun e w' => ∃ v', e = .returned (.tuple #[v', .int .i64 (d.pairE p ⟨k, y, n, l⟩)]) ∧ Yt (Z2 S w.heap.size) (d.pairD p ⟨k, y, n, l⟩) v' w' ∧ Zl w w'
def Zx1 : Prop := ∀ (S : Nat → Prop) (d : Dk) (p : Int) (v : Value) (w : World), (∀ b, S b → b < w.heap.size) → d.Fine 900 → Yt S d v w →
 Calls Tryz.prog 37 #[v, .int .i64 p] w fun e w' => ∃ D v' h, e = .returned (.tuple #[v', .int .i64 h]) ∧ Yt (Z2 S w.heap.size) D v' w' ∧ Zl w w' ∧ (0 ≤ p → p < 6 → h = d.how p ∧ D = d.mendD p) ∧ D.blocks.length ≤ 1000 ∧ D.late.length ≤ 2000
theorem Zfm : ∀ (n : Nat) (l : List Nat), l.Nodup → (∀ x ∈ l, x < n) → l.length ≤ n
 | 0, l, _, h => by
  cases l with
  | nil => simp
  | cons x l => exact absurd (h x (by simp)) (by omega)
 | n + 1, l, hn, h => by
  have h1 := Zfm n (l.erase n) (hn.erase n) fun x hx => by
   have h2 := (hn.mem_erase_iff).1 hx;have := h x h2.2;omega
  by_cases hm : n ∈ l
  ·have := List.length_erase_of_mem hm;omega
  ·rw [List.erase_of_not_mem hm] at h1;omega
theorem Zo3 {l : List Ent} (h : Ql l = true) : l.length ≤ 1001 := by
 obtain ⟨h1, h2⟩ := (Xi l).1 h;have hn : (l.map fun x => x.pair.toNat).Nodup := by
  rw [List.nodup_iff_pairwise_ne, List.pairwise_map];exact List.Pairwise.imp_of_mem (fun ha hb hR e => hR.2 (by have := (h2 _ ha).2.2; have := (h2 _ hb).2.2; omega)) h1
 have := Zfm 1001 _ hn fun n hn => by
  obtain ⟨x, hx, rfl⟩ := List.mem_map.1 hn;have := (h2 x hx).2.2;omega
 simpa using this
def Zxe : Prop := ∀ (S : Nat → Prop) (l : List Ent) (pairs : Int) (v : Value) (w : World), Ql l = true → pairs ≤ 1000 → Yq S w v l →
 Calls Tryz.prog 156 #[v, .int .i64 pairs] w fun r w' => ∃ n, r = .returned (.int .i64 n) ∧ Zno l pairs n ∧ Zl w w'
def Zx5 : Prop := ∀ (S : Nat → Prop) (l : List Ent) (e : Ent) (a : Option Addr) (c : Nat) (v : Value) (w : World), (∀ b, S b → b < w.heap.size) → Ql l = true → (∀ x ∈ l, x.pair ≠ e.pair) → Z3 e.rc = 0 → Yq S w v l → Z1 S w (.slice a e.rc.data.length c) e.rc.data →
 Calls Tryz.prog 158 #[v, .agg #[.int .i64 e.rc.kind, .int .i64 e.rc.key, .int .i64 e.rc.ver, .slice a e.rc.data.length c, .int .i64 e.pair]] w fun r w' => ∃ v', r = .returned v' ∧ Yq (Z2 S w.heap.size) w' v' (X6 e l) ∧ Zl w w'
def Zxg : Prop := ∀ (S : Nat → Prop) (l : List Ent) (p : Int) (v : Value) (w : World), (∀ b, S b → b < w.heap.size) → Ql l = true → Yq S w v l →
 Calls Tryz.prog 157 #[v, .int .i64 p] w fun r w' => ∃ v', r = .returned v' ∧ Yq (Z2 S w.heap.size) w' v' (Jl l p) ∧ Zl w w'
def Zqy (S : Nat → Prop) (o : Option Ent) (v : Value) (w : World) : Prop := ∃ (x : Ent) (a : Option Addr) (c : Nat), v = .tuple #[.agg #[.int .i64 x.rc.kind, .int .i64 x.rc.key, .int .i64 x.rc.ver, .slice a x.rc.data.length c, .int .i64 x.pair], .bool o.isSome] ∧ ∀ y, o = some y → y = x ∧ Z1 S w (.slice a x.rc.data.length c) x.rc.data
def Zxf : Prop := ∀ (S : Nat → Prop) (l : List Ent) (key ver : Int) (v : Value) (w : World), (∀ b, S b → b < w.heap.size) → Ql l = true → Yq S w v l →
 Calls Tryz.prog 155 #[v, .int .i64 key, .int .i64 ver] w fun r w' => ∃ v', r = .returned v' ∧ Zqy (Z2 S w.heap.size) (Zam l key ver) v' w' ∧ Zl w w'
end Go.Proofs.YtpdnapbchcdhlacGreat
namespace Go.Proofs.YtpdnapbchcdhlacGreat
set_option maxRecDepth 100000
open Go.RowKit Go.Maps
open Plain Reg
variable {w w' : World}
theorem Zmd {H : Type} {P : Program} {k : TypeId} {R : Value → Option (DataW H × List MemPlace)} {b n : Nat} {D : DataW H} (h : w.ownsMap P k R b n D) : IsMap D := by
 obtain ⟨es, clock, _, _, _, rfl⟩ := h; exact ⟨_, rfl⟩
theorem Zp.grown {g : Nat} (h : w.grownBy w' (some g)) : Zp g w w' := ⟨h.os, h.tape, h.output, h.size, fun k hk hg => h.block k hk (by intro e; exact hg (Option.some.inj e))⟩
theorem Yv.other {α : Type} {sh : Qg α} {S0 : Nat → Prop} {B q : Nat} {v : Value} {xs : List α} {css : List (List Value)} (h : Yv sh S0 B v xs css w) (hg : Zp q w w') (hq : q < B) (hn : ¬ S0 q) : Yv sh S0 B v xs css w' := by
 have hne : ∀ b, InS S0 B w b → b ≠ q := by
  rintro b (h1 | ⟨h1, _⟩) rfl
  ·exact hn h1
  ·omega
 refine ⟨h.len, fun i hi => (h.each i hi).imp fun _ x => ⟨x.1, sh.mono (sh.keep x.2 fun b hb hlt => hg.block b hlt (hne b hb)) fun b hb => ?_⟩, ?_⟩
 ·exact Xk hb (fun x => x) fun ⟨k1, c, f, k2⟩ => ⟨k1, c, f, (hg.block b (Za k2) (by omega)).trans k2⟩
 ·have hr := h.row;refine ⟨hr.1, Xk hr.2 (fun x => x) fun ⟨g, cap, cur, h1, h2, h3, r⟩ => ⟨g, cap, cur, h1, h2, ?_, r⟩⟩;rw [hg.block _ (Za h3) (by omega)]; exact h3
def Zi1 (l : List Ent) (y : Int) : Bool := l.any fun x => decide (y = x.pair)
theorem Zeu (l : List Ent) (y : Int) : Zi1 l y = true ↔ ∃ x ∈ l, x.pair = y := by
 unfold Zi1;rw [List.any_eq_true];exact ⟨fun ⟨x, h1, h2⟩ => ⟨x, h1, (of_decide_eq_true h2).symm⟩, fun ⟨x, h1, h2⟩ => ⟨x, h1, by simp [h2]⟩⟩
theorem Zq2 {x : Int} (h0 : 0 ≤ x) (h1 : x ≤ 1000000) : (Lit.int .i64 x).wf = true := WalkArith.wf_i64 (by omega)
end Go.Proofs.YtpdnapbchcdhlacGreat
namespace Go.Proofs.YtpdnapbchcdhlacGreat
set_option maxRecDepth 100000
open Go.RowKit
open Plain Reg
structure Dd where
 kind : Int
 key : Int
 num : Int
 data : List UInt8
def Yh (d : Dd) : Int :=
 if d.kind < 1 ∨ 3 < d.kind then 1
 else if d.key < 1 ∨ 255 < d.key ∨ d.num < (if d.kind = 3 then 1 else 0) ∨ (if d.kind = 3 then 60000 else 0) < d.num then 3
 else if 8 < d.data.length ∨ d.kind ≠ 1 ∧ d.data.length ≠ 0 then 4 else 0
def Zb3 (r : Rec) : Bool := decide (Z3 r = 0 ∧ r.kind ≠ 1)
def Qp (l : List Rec) : Bool := l.all Zb3 && decide (l.length ≤ 40)
theorem Zjj (S : Nat → Prop) (l : List Rec) (v : Value) (w : World) (hs : Y4 S w v l) (hm : l.length ≤ 140737488355328) :
  Calls Tryz.prog 32 #[v] w fun r w' => r = .returned (.bool (Qp l)) ∧ Zl w w' := by
 obtain ⟨ao, cp, rfl⟩ := hs.form;obtain ⟨R, hR⟩ : ∃ R, R = Qp l := ⟨_, rfl⟩;rw [← hR];have HR : Hid _ := hR;clear hR;go_enter Tryz.func32, Tryz.ntmps32;go_wp2_with fail;go_loopw [7] (fun i wr => ∃ k : Nat, k ≤ l.length ∧ i = .int .i64 k ∧ Hid ((l.take k).all Zb3 = true) ∧ Zl w wr) (fun i _ => l.length - (intOf i).toNat)
 case atStart => exact ⟨0, Nat.zero_le _, rfl, (by show _ = true; simp), Zl.refl _⟩
 case round =>
  obtain ⟨k, hk, rfl, HK, gw⟩ := hrel;by_cases hlt : k < l.length
  ·obtain ⟨b, off, a1, c1, hv1, q0, q1, q2, q3, hu⟩ := Jf (hs.grow gw) k hlt;cases hv1;have HN : Hid ((Zb3 l[k] = true → (l.take (k + 1)).all Zb3 = true) ∧ (Zb3 l[k] = false → R = false)) := by
    refine ⟨fun h => ?_, fun h => ?_⟩
    ·rw [List.take_succ_eq_append_getElem hlt, List.all_append, HK.out]; simp [h]
    ·rw [HR.out];unfold Qp;have : l.all Zb3 = false := by
      rw [List.all_eq_false];exact ⟨l[k], List.getElem_mem _, by simp [h]⟩
     rw [this]; rfl
   generalize l[k] = x at *;have g1 := Zb wr (.cells #[.int .i64 x.kind, .int .i64 x.key, .int .i64 x.ver, .slice a1 x.data.length c1] 61);have hX1 := Zk wr #[.int .i64 x.kind, .int .i64 x.key, .int .i64 x.ver, .slice a1 x.data.length c1] 61;have gw1 := gw.trans g1;have hu1 := Zz hu.p g1;obtain ⟨x0, x1, x2, x3⟩ := Yk hX1 rfl rfl rfl rfl;clear g1 hu gw HK;go_wp2_with fail;refine (Ze9 _ _ _ x.data _ _ hu1).mono ?_;have HW : Hid (Z3 ⟨x.kind, x.key, x.ver, x.data⟩ = Z3 x) := rfl;rw [HW.out];by_cases hw : Z3 x = 0
   ·rw [hw];rintro r w2 ⟨rfl, g2⟩;have hX2 := (g2.block _ (Za hX1)).trans hX1;have gw2 := gw1.trans g2;clear x0 x1 x2 x3 gw1 hu1 hX1;have x0 := Zc hX2 0 _ rfl;by_cases hk1 : x.kind = 1
    ·have d1 : (x.kind == 1) = true := by simp [hk1]
     have hRf : R = false := HN.out.2 (by simp [Zb3, hk1]);subst hRf;clear HN hk1 hw HW;go_wp2_with fail;go_ret;exact ⟨rfl, gw2⟩
    ·have d1 : (x.kind == 1) = false := by simp [hk1]
     have HN2 : Hid _ := HN.out.1 (by simp [Zb3, hk1, hw]);clear HN hk1 hw HW;go_wp2_with fail;go_roundw
     case rel => exact ⟨k + 1, by omega, by go_num, HN2, gw2⟩
     case measure => simp [intOf]; omega
   ·have hRf : R = false := HN.out.2 (by simp [Zb3, hw]);subst hRf;have d0 : (Z3 x != 0) = true := by simp [hw]
    generalize Z3 x = E at *;clear HN HW hw;rintro r w2 ⟨rfl, g2⟩;have gw2 := gw1.trans g2;clear x0 x1 x2 x3 gw1 hu1 hX1;go_wp2_with fail;go_ret;exact ⟨rfl, gw2⟩
  ·have HE : Hid (R = decide (l.length ≤ 40)) := by
    show R = _;have h := HK.out;rw [show k = l.length from by omega, List.take_length] at h;rw [HR.out]; unfold Qp; rw [h, Bool.true_and]
   clear HK HR;go_wp2_with fail;go_ret;refine ⟨?_, gw⟩;show Ending.returned (.bool (decide ((l.length : Int) ≤ 40))) = _;rw [HE.out];by_cases h40 : l.length ≤ 40
   ·rw [decide_eq_true h40, decide_eq_true (by omega)]
   ·rw [decide_eq_false h40, decide_eq_false (by omega)]
def X9 (l : List Rec) : Int := l.foldl (fun n r => if n ≤ r.ver then r.ver + 1 else n) 1
theorem Zmh (l : List Rec) (k : Nat) (h : k < l.length) : X9 (l.take (k + 1)) = if X9 (l.take k) ≤ l[k].ver then l[k].ver + 1 else X9 (l.take k) := by
 unfold X9;rw [List.take_succ_eq_append_getElem h, List.foldl_append]; rfl
def X5 (d : Dd) (n : Int) : Rec := ⟨1 + d.kind, d.key, n, d.data⟩
end Go.Proofs.YtpdnapbchcdhlacGreat
