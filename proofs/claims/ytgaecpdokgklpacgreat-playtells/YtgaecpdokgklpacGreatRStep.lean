import Derived.Test.YtgaecpdokgklpacGreatRStepB
set_option maxHeartbeats 8000000
namespace Go.Proofs.YtgaecpdokgklpacGreat
set_option maxRecDepth 100000
open Go.RowKit
open Plain Reg
theorem Zg4 (S : Nat → Prop) (s : St) (x : Sp) (v : Value) (ad : Option Addr) (c : Nat) (w : World) (hS : ∀ b, S b → b < w.heap.size) (hs : Z4 S s v w) (hd : Z3 S w (.slice ad x.deed.data.length c) x.deed.data) (hA : s.At) (hdl : x.deed.data.length ≤ 140737488355328) :
  Calls Tryz.prog 18 #[v, .agg #[.int .i64 x.kind, .int .i64 x.n, .int .i64 x.m, .int .i64 x.deed.kind, .int .i64 x.deed.key, .int .i64 x.deed.num, .slice ad x.deed.data.length c]] w fun r w' => ∃ v', r = .returned (.tuple #[v', .int .i64 (s.step x).n, .int .i64 (s.step x).e]) ∧ Z4 (Zw S w.heap.size) (s.step x).st v' w' ∧ Zo w w' := by
 by_cases k1 : x.kind = 1
 ·exact Zt8 S s x v ad c w hS hs hd hA hdl k1
 ·by_cases k2 : x.kind = 2
  ·exact Zt7 S s x v ad c w hS hs hd hA hdl k1 k2
  ·by_cases k3 : x.kind = 3
   ·exact Zt6 S s x v ad c w hS hs hd hA hdl k1 k2 k3
   ·by_cases k4 : x.kind = 4
    ·exact Zt5 S s x v ad c w hS hs hd hA hdl k1 k2 k3 k4
    ·by_cases k5 : x.kind = 5
     ·exact Zt4 S s x v ad c w hS hs hd hA hdl k1 k2 k3 k4 k5
     ·by_cases k6 : x.kind = 6
      ·exact Zt3 S s x v ad c w hS hs hd hA hdl k1 k2 k3 k4 k5 k6
      ·exact Zrh S s x v ad c w hS hs hd hA hdl k1 k2 k3 k4 k5 k6
def Zns : Qk Sp where
 T := 49
 size := 7
 enc S w x cs := ∃ u, cs = [.int .i64 x.kind, .int .i64 x.n, .int .i64 x.m, .int .i64 x.deed.kind, .int .i64 x.deed.key, .int .i64 x.deed.num, u] ∧ Z3 S w u x.deed.data
 len := by rintro S w x cs ⟨u, rfl, _⟩; rfl
 keep := by rintro S w w' x cs ⟨u, rfl, h⟩ hk; exact ⟨u, rfl, h.keeps hk⟩
 mono := by rintro S S' w x cs ⟨u, rfl, h⟩ hS; exact ⟨u, rfl, h.mono hS⟩
 cap := by rintro S w x cs ⟨u, rfl, h⟩; exact ⟨u, rfl, h.caps⟩
 one := by
  rintro S w x cs ⟨u, rfl, h⟩ c hc;simp only [List.mem_cons, List.not_mem_nil, or_false] at hc;rcases hc with rfl | rfl | rfl | rfl | rfl | rfl | rfl
  ·rfl
  ·rfl
  ·rfl
  ·rfl
  ·rfl
  ·rfl
  ·exact h.one
abbrev Zci (S : Nat → Prop) (w : World) (v : Value) (l : List Sp) : Prop := Z9 Zns S w v l
theorem Zi9 {S : Nat → Prop} {w : World} {ao : Option Addr} {n cap : Nat} {l : List Sp} (h : Zci S w (.slice ao n cap) l) (i : Nat) (hi : i < l.length) :
  ∃ b off a c, ao = some ⟨b, off, none⟩ ∧ w.cell? ⟨b, off + i * 7, none⟩ = some (.int .i64 l[i].kind) ∧ w.cell? ⟨b, off + i * 7 + 1, none⟩ = some (.int .i64 l[i].n) ∧ w.cell? ⟨b, off + i * 7 + 2, none⟩ = some (.int .i64 l[i].m) ∧ w.cell? ⟨b, off + i * 7 + 3, none⟩ = some (.int .i64 l[i].deed.kind) ∧ w.cell? ⟨b, off + i * 7 + 4, none⟩ = some (.int .i64 l[i].deed.key) ∧ w.cell? ⟨b, off + i * 7 + 5, none⟩ = some (.int .i64 l[i].deed.num) ∧
   w.cell? ⟨b, off + i * 7 + 6, none⟩ = some (.slice a l[i].deed.data.length c) ∧ Z3 S w (.slice a l[i].deed.data.length c) l[i].deed.data := by
 obtain ⟨b, off, rfl, _, cs, ⟨u, rfl, hu⟩, hc⟩ := h.at i hi;obtain ⟨a, c, rfl⟩ := hu.form;exact ⟨b, off, a, c, rfl, hc 0 _ rfl, hc 1 _ rfl, hc 2 _ rfl, hc 3 _ rfl, hc 4 _ rfl, hc 5 _ rfl, hc 6 _ rfl, hu⟩
theorem Zih : Xf.At := Zcy Zfl
end Go.Proofs.YtgaecpdokgklpacGreat
namespace Go.Proofs.YtgaecpdokgklpacGreat
set_option maxRecDepth 100000
open Go.RowKit Go.ChangeShapes Go.WideShapes Go.ChangeAt Go.Deep
open Plain Reg
section
variable {H : Type} {enc : TypeId × Value → H} {W : World}
theorem Zet {P : Program} {e : TypeId} : ∀ {l : List (DataW H)} {d : DataW H}, d ∈ l → ∀ n ∈ d.weights P e, n ∈ DataW.weightsAll P e l
 | c :: r, d, h, n, hn => by
  rw [DataW.weightsAll, List.mem_append];rcases List.mem_cons.1 h with rfl | h
  ·exact .inl hn
  ·exact .inr (Zet h n hn)
theorem Zmb {α : Type} (i0 : Inhabited α) (sh : Qk α) (Q : α → Prop) {t : TypeId} {fuel : Nat} {v : Value} {x : DataW H × List MemPlace} (ht : Tryz.prog.underlying t = some (.slice sh.T)) (hc : Tryz.prog.cellsOf sh.T = sh.size) (hz : 0 < sh.size) {by_ : Nat} (hby : Tryz.prog.bytesOf sh.T = by_)
  (hopen : ∀ (fuel : Nat) (cs : List Value) (y : DataW H × List MemPlace), DataW.trod enc Tryz.prog W 0 (fun _ => true) true fuel sh.T cs = some y → (y.1.weights Tryz.prog sh.T).all (· ≤ reachBytes) = true → ∃ z : α, sh.enc (fun b => b < W.heap.size) W z cs ∧ Q z)
  (h : DataW.trod enc Tryz.prog W 0 (fun _ => true) true fuel t [v] = some x) (hs : (x.1.weights Tryz.prog t).all (· ≤ reachBytes) = true) :
  ∃ xs, Z9 sh (fun b => b < W.heap.size) W v xs ∧ xs.length * by_ ≤ 140737488351232 ∧ ∀ z ∈ xs, Q z := by
 rcases open_slice ht h with ⟨hcs, _⟩ | ⟨a, len, cap, m, n, D, Pl, hcs, _, hl, hm, hmm, hx, hV⟩
 ·simp only [List.cons.injEq, and_true] at hcs;subst hcs;exact ⟨[], .inl ⟨none, 0, rfl, rfl, fun _ => rfl⟩, by simp, by simp⟩
 ·simp only [List.cons.injEq, and_true] at hcs;subst hcs;have hmc : m = cap := by simpa using hmm
  subst hmc;subst hx;have hex : ∀ i, i < len → ∃ z : α, ∃ cs, (sh.enc (fun b => b < W.heap.size) W z cs ∧ Q z) ∧ ∀ (j : Nat) (u : Value), cs[j]? = some u → W.cell? (a.add (i * sh.size + j)) = some u := by
   intro i hi;obtain ⟨cs, h1, h2⟩ := hV i (by omega);rw [hc] at h1;obtain ⟨_, hlen, hcell⟩ := World.cells?_some h1;have hwt : ((D i).weights Tryz.prog sh.T).all (· ≤ reachBytes) = true := by
    rw [List.all_eq_true] at hs ⊢;intro k hk;refine hs k ?_;have := Zet (P := Tryz.prog) (e := sh.T) (l := (List.range len).map D) (List.mem_map.2 ⟨i, List.mem_range.2 hi, rfl⟩) k hk;simp only [DataW.weights, ht];exact List.mem_cons_of_mem _ (List.mem_append_left _ this)
   obtain ⟨z, hz⟩ := hopen _ _ _ h2 hwt;refine ⟨z, cs, hz, fun j u hj => ?_⟩;have hjl := (List.getElem?_eq_some_iff.1 hj).1;have := hcell j (by omega);rw [add_add] at this;rw [this]; exact hj
  obtain ⟨f, hf⟩ := choose_lt hex;have hw : len * by_ ≤ reachBytes := by
   have h3 := (List.all_eq_true.1 hs) ((((List.range len).map D).length + ((List.range (m - len)).map fun j => D (len + j)).length) * Tryz.prog.bytesOf sh.T) (by simp [DataW.weights, ht]);rw [hby] at h3;simp only [List.length_map, List.length_range, decide_eq_true_eq] at h3;exact Nat.le_trans (Nat.mul_le_mul_right _ (by omega)) h3
  refine ⟨(List.range len).map f, ?_, by simp [reachBytes] at hw ⊢; omega, fun z hz => by
   obtain ⟨i, hi, rfl⟩ := List.mem_map.1 hz;obtain ⟨_, k1, _⟩ := hf i (List.mem_range.1 hi);exact k1.2⟩
  by_cases h0 : len = 0
  ·subst h0;exact .inl ⟨some a, m, rfl, by simp, fun h => by cases h⟩
  ·obtain ⟨cs0, e1, e2⟩ := hf 0 (by omega);have hl0 := sh.len e1.1;have e3 := e2 0 cs0[0] (List.getElem?_eq_getElem (by omega));rw [Nat.zero_mul, Nat.zero_add] at e3;obtain ⟨b, off, rfl⟩ := Zl6 e3;refine .inr ⟨b, off, m, ?_, by simp, by simpa using hl, fun i hi => ?_⟩
   ·rw [Zhb] at e3;exact Zu e3
   ·obtain ⟨cs, k1, k2⟩ := hf i (by simpa using hi);refine ⟨cs, by simpa using k1.1, fun j u hj => ?_⟩;have := k2 j u hj;rw [Zhb] at this;rw [Nat.add_assoc]; exact this
theorem Zmw {fuel : Nat} {cs : List Value} {x : DataW H × List MemPlace} (h : DataW.trod enc Tryz.prog W 0 (fun _ => true) true fuel 47 cs = some x) (hs : (x.1.weights Tryz.prog 47).all (· ≤ reachBytes) = true) :
  ∃ (e : Dd) (u : Value), cs = [.int .i64 e.kind, .int .i64 e.key, .int .i64 e.num, u] ∧ Bytes W u e.data ∧ e.data.length ≤ 140737488351232 := by
 obtain ⟨y0, y1, y2, y3, m, hx, hl, h0, h1, h2, h3⟩ := Go.Joins.trod_struct4 Tryz.underlying47 h;have hc4 : Tryz.prog.cellsOf 47 = 4 := by kernel_rfl
 have t0 : Tryz.prog.cellsOf 3 = 1 := by kernel_rfl
 have t1 : Tryz.prog.cellsOf 45 = 1 := by kernel_rfl
 rw [hc4] at hl;subst hx;have hw3 : (y3.1.weights Tryz.prog 45).all (· ≤ reachBytes) = true := by
  simp only [DataW.weights, Tryz.underlying47] at hs;exact Zeh (j := 3) hs rfl rfl
 match cs, hl with
 | [c0, c1, c2, c3], _ =>
  simp only [t0, t1, List.drop_zero, List.drop_succ_cons, List.take_succ_cons, List.take_zero] at h0 h1 h2 h3;obtain ⟨a0, e0, f0, -⟩ := DataW.trod_int Tryz.underlying3 h0;obtain ⟨a1, e1, f1, -⟩ := DataW.trod_int Tryz.underlying3 h1;obtain ⟨a2, e2, f2, -⟩ := DataW.trod_int Tryz.underlying3 h2;simp only [List.cons.injEq, and_true] at e0 e1 e2;subst e0; subst e1; subst e2;obtain ⟨l, hb, hlb⟩ := Zmc h3 hw3;exact ⟨⟨a0, a1, a2, l⟩, c3, rfl, hb, hlb⟩
theorem Zex {fuel : Nat} {cs : List Value} {x : DataW H × List MemPlace} (h : DataW.trod enc Tryz.prog W 0 (fun _ => true) true fuel 49 cs = some x) (hs : (x.1.weights Tryz.prog 49).all (· ≤ reachBytes) = true) :
  ∃ (e : Sp) (u : Value), cs = [.int .i64 e.kind, .int .i64 e.n, .int .i64 e.m, .int .i64 e.deed.kind, .int .i64 e.deed.key, .int .i64 e.deed.num, u] ∧ Bytes W u e.deed.data ∧ e.deed.data.length ≤ 140737488351232 := by
 obtain ⟨y0, y1, y2, y3, m, hx, hl, h0, h1, h2, h3⟩ := Go.Joins.trod_struct4 Tryz.underlying49 h;have hc7 : Tryz.prog.cellsOf 49 = 7 := by kernel_rfl
 have hc4 : Tryz.prog.cellsOf 47 = 4 := by kernel_rfl
 have t0 : Tryz.prog.cellsOf 3 = 1 := by kernel_rfl
 rw [hc7] at hl;subst hx;have hw3 : (y3.1.weights Tryz.prog 47).all (· ≤ reachBytes) = true := by
  simp only [DataW.weights, Tryz.underlying49] at hs;exact Zeh (j := 3) hs rfl rfl
 match cs, hl with
 | [c0, c1, c2, c3, c4, c5, c6], _ =>
  simp only [t0, hc4, List.drop_zero, List.drop_succ_cons, List.take_succ_cons, List.take_zero] at h0 h1 h2 h3;obtain ⟨a0, e0, f0, -⟩ := DataW.trod_int Tryz.underlying3 h0;obtain ⟨a1, e1, f1, -⟩ := DataW.trod_int Tryz.underlying3 h1;obtain ⟨a2, e2, f2, -⟩ := DataW.trod_int Tryz.underlying3 h2;simp only [List.cons.injEq, and_true] at e0 e1 e2;subst e0; subst e1; subst e2;obtain ⟨d, u, e3, hb, hlb⟩ := Zmw h3 hw3;simp only [List.cons.injEq, and_true] at e3;obtain ⟨rfl, rfl, rfl, rfl⟩ := e3;exact ⟨⟨a0, a1, a2, d⟩, c6, rfl, hb, hlb⟩
theorem Zma {fuel : Nat} {v : Value} {x : DataW H × List MemPlace} (h : DataW.trod enc Tryz.prog W 0 (fun _ => true) true fuel 22 [v] = some x) (hs : (x.1.weights Tryz.prog 22).all (· ≤ reachBytes) = true) : ∃ l, Zci (fun b => b < W.heap.size) W v l ∧ l.length ≤ 140737488351232 ∧ ∀ z ∈ l, z.deed.data.length ≤ 140737488351232 := by
 obtain ⟨l, h1, h2, h3⟩ := Zmb ⟨⟨0, 0, 0, ⟨0, 0, 0, []⟩⟩⟩ Zns (fun z => z.deed.data.length ≤ 140737488351232) Tryz.underlying22 (by kernel_rfl) (by decide) (by_ := 72) (by kernel_rfl) (fun _ cs _ h hw => by
  obtain ⟨e, u, rfl, hb, hl⟩ := Zex h hw;exact ⟨e, ⟨u, rfl, Zc4 hb⟩, hl⟩) h hs
 exact ⟨l, h1, by omega, h3⟩
end
section
variable {H : Type} {enc : TypeId × Value → H} {W : World}
theorem Zpd {r : Reach} {b0 : Nat} {v : Value} {d : DataW H} {p : List MemPlace} (hok : Value.okWide Tryz.prog W r b0 49 v) (h : DataW.Trod enc Tryz.prog W 0 (fun _ => true) true 49 v d p)
  (hs : (d.weights Tryz.prog 49).all (· ≤ reachBytes) = true) :
  ∃ (e : Sp) (a : Option Addr) (c : Nat), v = .agg #[.int .i64 e.kind, .int .i64 e.n, .int .i64 e.m, .int .i64 e.deed.kind, .int .i64 e.deed.key, .int .i64 e.deed.num, .slice a e.deed.data.length c] ∧ Z3 (fun b => b < W.heap.size) W (.slice a e.deed.data.length c) e.deed.data ∧ e.deed.data.length ≤ 140737488351232 := by
 obtain ⟨cs, rfl, hsz⟩ := okWide_struct Tryz.underlying49 hok;obtain ⟨fuel, hf⟩ := h;obtain ⟨e, u, hcs, hb, hl⟩ := Zex hf hs;obtain ⟨a, c, rfl⟩ := (Zc4 hb).form;refine ⟨e, a, c, ?_, Zc4 hb, hl⟩
 congr 1
 have : cs.toList = _ := hcs;rw [← Array.toList_inj, this]
end
end Go.Proofs.YtgaecpdokgklpacGreat
namespace Go.Proofs.YtgaecpdokgklpacGreat
set_option maxRecDepth 100000
open Plain
theorem J5 {d : Dk} (h : d.Fine 0) : d.late = [] := List.eq_nil_of_length_eq_zero (by have := h.few; omega)
theorem Zco {d : Dk} (h : d.Fine 0) {a : Nat} (ha : a < 12) : Yv d (a : Int) = d.blocks.getD a [] := by
 unfold Yv Dk.get;rw [if_neg (by have := h.len; omega), J5 h];simp [Qu]
theorem Zhg {d d' : Dk} (hl : d'.blocks.length = d.blocks.length) {p : Int} (h0 : Yv d' (2 * p) = Yv d (2 * p)) (h1 : Yv d' (2 * p + 1) = Yv d (2 * p + 1)) : d'.how p = d.how p ∧ d'.tell p = d.tell p := by
 unfold Dk.how Dk.tell Jq Yu Xs Yn Qz Dk.noPair;rw [h0, h1, hl]; exact ⟨rfl, rfl⟩
theorem Zg1 {d d' : Dk} {a : Int} (h : Yv d' a = Yv d a) : Yn d' a = Yn d a ∧ Xs d' a = Xs d a := by
 unfold Yn Xs Qz;rw [h]; exact ⟨rfl, rfl⟩
theorem Zca {d : Dk} (h : d.blocks.length = 12) {p : Nat} (hp : p < 6) : d.noPair (p : Int) = false := Zds (by omega) (by rw [h]; omega)
def Zxp (d : Dk) (p : Nat) : Prop :=
 (∃ r : Rec, r.kind ≠ 1 ∧ Yn d (2 * (p : Int)) = r ∧ Yn d (2 * (p : Int) + 1) = r) ∨
 (∃ r : Rec, r.kind ≠ 1 ∧ (Yn d (2 * (p : Int)) = r ∧ (Yn d (2 * (p : Int) + 1)).kind = 1 ∨ Yn d (2 * (p : Int) + 1) = r ∧ (Yn d (2 * (p : Int))).kind = 1)) ∨
 ((Yn d (2 * (p : Int))).kind = 1 ∧ (Yn d (2 * (p : Int) + 1)).kind = 1 ∧ Xs d (2 * (p : Int)) + Xs d (2 * (p : Int) + 1) ≤ 1)
def Dk.half (d : Dk) (p : Nat) (r : Rec) (x y : Bool) : Dk :=
 ⟨if y = true then (if x = true then d.blocks.set (2 * p) (blk r (2 * (p : Int))) else d.blocks).set (2 * p + 1) (blk r (2 * (p : Int) + 1)) else (if x = true then d.blocks.set (2 * p) (blk r (2 * (p : Int))) else d.blocks), []⟩
theorem Zr1 {d : Dk} (h : d.Fine 0) {p : Nat} (hp : p < 6) {r : Rec} (hr : Ye r = 0) : d.pairD (p : Int) r = ⟨d.blocks, [(2 * (p : Int), blk r (2 * (p : Int))), (2 * (p : Int) + 1, blk r (2 * (p : Int) + 1))]⟩ := by
 have he : d.pairE (p : Int) r = 0 := by rw [Zcs (by omega) (by rw [h.len]; omega), hr]
 unfold Dk.pairD;rw [if_pos he];unfold Dk.pairW;rw [J5 h]; rfl
theorem Zjz {d : Dk} (h : d.Fine 0) {p : Nat} (hp : p < 6) {r : Rec} (hr : Ye r = 0) (on : Nat → Bool) : (⟨(d.pairD (p : Int) r).keepTo on (d.pairD (p : Int) r).late.length, []⟩ : Dk) = d.half p r (on 0) (on 1) := by
 rw [Zr1 h hp hr];have e0 : (2 * (p : Int)).toNat = 2 * p := by omega
 have e1 : (2 * (p : Int) + 1).toNat = 2 * p + 1 := by omega
 simp only [Dk.half, Dk.keepTo, List.length_cons, List.length_nil, List.getD_cons_zero, List.getD_cons_succ, e0, e1]
theorem Zcr {d : Dk} (h : d.Fine 0) {p : Nat} (hp : p < 6) {r : Rec} (hr : Ye r = 0) : (d.pairD (p : Int) r).flush = d.half p r true true := Zjz h hp hr _
theorem Zdw {d : Dk} (h : d.Fine 0) {p : Nat} (_hp : p < 6) {r : Rec} (hr : Ye r = 0) (x y : Bool) : (d.half p r x y).Fine 0 := by
 have hl := h.len;refine ⟨?_, Nat.le_refl _, ?_, (fun x hx => by cases hx), (fun x hx => by cases hx)⟩
 ·unfold Dk.half;cases x <;> cases y <;> simp [hl]
 ·have key : ∀ (l : List (List UInt8)) (i : Nat) (a : Int), (∀ z ∈ l, z.length = 16) → ∀ z ∈ l.set i (blk r a), z.length = 16 := fun l i a hh z hz => by
   rcases List.mem_or_eq_of_mem_set hz with h1 | h1
   ·exact hh z h1
   ·rw [h1]; exact Zm6 r a hr
  unfold Dk.half;cases x <;> cases y
  ·exact h.block
  ·exact key _ _ _ h.block
  ·exact key _ _ _ h.block
  ·exact key _ _ _ (key _ _ _ h.block)
theorem J4 {d : Dk} (h : d.Fine 0) {p : Nat} (hp : p < 6) {r : Rec} (hr : Ye r = 0) (x y : Bool) (a : Nat) (ha : a < 12) :
  Yv (d.half p r x y) (a : Int) = if a = 2 * p + 1 ∧ y = true then blk r (2 * (p : Int) + 1) else if a = 2 * p ∧ x = true then blk r (2 * (p : Int)) else Yv d (a : Int) := by
 have hl := h.len;rw [Zco (Zdw h hp hr x y) ha, Zco h ha];unfold Dk.half;cases x <;> cases y <;> simp only [Bool.false_eq_true, if_false, if_true, and_false, and_true]
 ·rw [Q4 _ _ _ _ _ (by omega)];by_cases e : 2 * p + 1 = a
  ·rw [if_pos e, if_pos e.symm]
  ·rw [if_neg e, if_neg (fun h => e h.symm)]
 ·rw [Q4 _ _ _ _ _ (by omega)];by_cases e : 2 * p = a
  ·rw [if_pos e, if_pos e.symm]
  ·rw [if_neg e, if_neg (fun h => e h.symm)]
 ·rw [Q4 _ _ _ _ _ (by rw [List.length_set]; omega), Q4 _ _ _ _ _ (by omega)];by_cases e : 2 * p + 1 = a
  ·rw [if_pos e, if_pos e.symm]
  ·have e' : ¬ a = 2 * p + 1 := fun h => e h.symm
   rw [if_neg e, if_neg e'];by_cases e2 : 2 * p = a
   ·rw [if_pos e2, if_pos e2.symm]
   ·have e2' : ¬ a = 2 * p := fun h => e2 h.symm
    rw [if_neg e2, if_neg e2']
theorem Zcg {d : Dk} (h : d.Fine 0) {p q : Nat} (hp : p < 6) (hq : q < 6) (hne : q ≠ p) {r : Rec} (hr : Ye r = 0) (x y : Bool) : (d.half p r x y).how (q : Int) = d.how (q : Int) ∧ (d.half p r x y).tell (q : Int) = d.tell (q : Int) := by
 have h0 := J4 h hp hr x y (2 * q) (by omega);have h1 := J4 h hp hr x y (2 * q + 1) (by omega);rw [if_neg (by omega), if_neg (by omega)] at h0 h1;exact Zhg ((Zdw h hp hr x y).len.trans h.len.symm) (by simpa using h0) (by simpa using h1)
theorem Zf4 {d : Dk} (h : d.Fine 0) {p : Nat} (hp : p < 6) {r : Rec} (hr : Ye r = 0) (x y : Bool) :
  ((x = true → Yn (d.half p r x y) (2 * (p : Int)) = r ∧ Xs (d.half p r x y) (2 * (p : Int)) = 0) ∧ (x = false → Yn (d.half p r x y) (2 * (p : Int)) = Yn d (2 * (p : Int)) ∧ Xs (d.half p r x y) (2 * (p : Int)) = Xs d (2 * (p : Int)))) ∧
  ((y = true → Yn (d.half p r x y) (2 * (p : Int) + 1) = r ∧ Xs (d.half p r x y) (2 * (p : Int) + 1) = 0) ∧ (y = false → Yn (d.half p r x y) (2 * (p : Int) + 1) = Yn d (2 * (p : Int) + 1) ∧ Xs (d.half p r x y) (2 * (p : Int) + 1) = Xs d (2 * (p : Int) + 1))) := by
 have h0 := J4 h hp hr x y (2 * p) (by omega);have h1 := J4 h hp hr x y (2 * p + 1) (by omega);rw [if_neg (by omega)] at h0;have c0 : ((2 * p : Nat) : Int) = 2 * (p : Int) := by omega
 have c1 : ((2 * p + 1 : Nat) : Int) = 2 * (p : Int) + 1 := by omega
 rw [c0] at h0;rw [c1] at h1;have key : ∀ a : Int, 0 ≤ a → a ≤ 255 → Yv (d.half p r x y) a = blk r a → Yn (d.half p r x y) a = r ∧ Xs (d.half p r x y) a = 0 := fun a ha ha' hb => by
  obtain ⟨he, hR⟩ := Zjq r a hr ha ha';unfold Xs Yn Qz;rw [hb, if_pos he, if_pos he]; exact ⟨hR, rfl⟩
 refine ⟨⟨fun e => ?_, fun e => ?_⟩, fun e => ?_, fun e => ?_⟩
 ·rw [if_pos ⟨rfl, e⟩] at h0; exact key _ (by omega) (by omega) h0
 ·rw [if_neg (by simp [e])] at h0; exact Zg1 h0
 ·rw [if_pos ⟨rfl, e⟩] at h1; exact key _ (by omega) (by omega) h1
 ·rw [if_neg (by simp [e]), if_neg (by omega)] at h1; exact Zg1 h1
end Go.Proofs.YtgaecpdokgklpacGreat
