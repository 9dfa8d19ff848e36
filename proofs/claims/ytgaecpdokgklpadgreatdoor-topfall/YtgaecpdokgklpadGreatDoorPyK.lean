import Derived.Test.YtgaecpdokgklpadGreatDoorFsk
import Derived.Test.YtgaecpdokgklpadGreatDoorRows
import Derived.Deep.DeepHandedRow
import Derived.Deep.DeepWitnessRowRef
import Derived.Lib.LaidTab
import Derived.Stop.LaidErr
import Derived.ProofKit
import Derived.OpenShut
import Derived.SizedLaws
import Derived.Lib.SmallJoins
import Derived.Deep.SlicePairs
set_option maxHeartbeats 8000000
namespace Go.Proofs.YtgaecpdokgklpadGreatDoor
set_option maxRecDepth 100000
theorem Zwf : Zgi [1] := fun S s x v ad c w hk hS hs hd hA hdl => Zsn S s x v ad c w hS hs hd hA hdl (by simpa using hk)
theorem Zw6 : Zgi [1, 2] := fun S s x v ad c w hk hS hs hd hA hdl => by
 by_cases k1 : x.kind = 1
 ·exact Zsn S s x v ad c w hS hs hd hA hdl k1
 ·exact Zw4 S s x v ad c w hS hs hd hA hdl k1 (by simpa [k1] using hk)
theorem Zw5 : Zgi [3, 6] := fun S s x v ad c w hk hS hs _ hA _ => by
 by_cases k3 : x.kind = 3
 ·exact Zw3 S s x v ad c w hS hs hA (by omega) (by omega) k3
 ·have k6 : x.kind = 6 := by simpa [k3] using hk
  exact Zw2 S s x v ad c w hS hs hA (by omega) (by omega) k3 (by omega) (by omega) k6
theorem Zid : Za8 Vl := Zl4 Vl Kr Zxw Zwf tRT
theorem Ze0 : J3 Vl := Zjj Vl Kr Zid Zw0 Zxx
end Go.Proofs.YtgaecpdokgklpadGreatDoor
namespace Go.Proofs.YtgaecpdokgklpadGreatDoor
set_option maxRecDepth 100000
open Go.RowKit Go.ChangeShapes Go.WideShapes Go.ChangeAt
open Plain Reg
def Zgc : DataW Unit → Array Value
 | .agg l => (l.flatMap fun
  | .lit (.int k z) => [Value.int k z]
  | .agg m => m.flatMap fun
   | .lit (.int k z) => [Value.int k z]
   | _ => []
  | _ => []).toArray
 | _ => #[]
def Zmo (h : Array Obj) (g : Nat) (cs : Array Value) : Array Obj := h.modify g fun
 | .cells _ t frozen => .cells cs t frozen
 | o => o
def Zfx (os : Os) (W : World) : Prop := W =
 (let N := (World.settled Tryz.prog os).heap.size; let w0 := World.holding Tryz.prog os ⟨#[.cells #[.string ⟨#[118, 97, 108, 117, 101, 32, 111, 117, 116, 32, 111, 102, 32, 114, 97, 110, 103, 101]⟩] 237, .cells #[.string ⟨#[105, 110, 118, 97, 108, 105, 100, 32, 115, 121, 110, 116, 97, 120]⟩] 237], #[], []⟩; let h0 := Zmo (Zmo w0.heap 4 #[.iface 235 (.pointer (some ⟨N, 0, none⟩))]) 3 #[.iface 235 (.pointer (some ⟨N + 1, 0, none⟩))]; let h1 := Zmo (Zmo h0 6 (Zgc Rows.laid_math_bits_deBruijn32tab)) 7 (Zgc Rows.laid_math_bits_deBruijn64tab); let h2 := Zmo (Zmo h1 5 (Zgc Rows.laid_internal_strconv_uint64pow10)) 2 (Zgc Rows.laid_unicode_utf8_acceptRanges); { w0 with heap := Zmo h2 1 (Zgc Rows.laid_unicode_utf8_first) })
theorem Zfw {os : Os} {W : World} (h : Zfx os W) (args : Array Value) : laidMet Tryz.prog Rows.topRotRow.laid (W.forCall (fun _ _ => 0) ⟨#[], args, []⟩).memory := by
 unfold Zfx at h;subst h;exact laidMet_of_run' 8 (by kernel_rfl) (by kernel_rfl)
theorem Zwd : "*" ++ "errors.errorString" = "*errors.errorString" := by decide
theorem Zxy (u : TypeId) (h : Tryz.prog.typeName? 3 u = some "*errors.errorString") : u = 235 :=
 typeName_ptr_named (nm := "errors.errorString") (by rw [Zwd]; kernel_rfl) (by kernel_rfl) (by decide) u (by rw [Zwd]; exact h)
theorem Zyo : Tryz.prog.globalNamed "internal/strconv.uint64pow10" = some 5 := by kernel_rfl
theorem gER : Tryz.prog.globalNamed "strconv.ErrRange" = some 4 := by kernel_rfl
theorem gES : Tryz.prog.globalNamed "strconv.ErrSyntax" = some 3 := by kernel_rfl
theorem Zeu {W : World} (hL : laidMetH Tryz.prog Rows.topRotRow.laid W) : Vl W := by
 have hL' : laidMet Tryz.prog Rows.topRotRow.laid W := hL;obtain ⟨a0, s0, hv0, -, -, -⟩ := laid_sentinel hL'.tail.tail.tail.tail gER (by kernel_rfl) Tryz.underlying146 Zxy Tryz.underlying235 Tryz.underlying237 rfl rfl Tryz.underlying9 (by kernel_rfl) (by kernel_rfl);obtain ⟨a1, s1, hv1, -, -, -⟩ := laid_sentinel hL'.tail.tail.tail.tail.tail gES (by kernel_rfl) Tryz.underlying146 Zxy Tryz.underlying235 Tryz.underlying237 rfl rfl Tryz.underlying9 (by kernel_rfl) (by kernel_rfl);refine ⟨Lib.tabIs_of_head Zyo (by kernel_rfl) Tryz.underlying239 Tryz.underlying142 (by kernel_rfl) (by kernel_rfl) hL'.tail.tail, ⟨_, by have h0 := World.var?_cell gES hv1 0; simpa using h0, .inr ⟨_, _, rfl⟩⟩, _, by have h0 := World.var?_cell gER hv0 0; simpa using h0, .inr ⟨_, _, rfl⟩⟩
theorem Zus {n : Int} (h : (Lit.int .u8 n).wf = true) : 0 ≤ n ∧ n < 256 := by
 have : 0 ≤ n ∧ n ≤ 255 := by simpa [Lit.wf, IntKind.min, IntKind.max, IntKind.signed, IntKind.bits] using h
 omega
def K6 (zs : List Int) : List UInt8 := zs.map fun n => UInt8.ofNat n.toNat
theorem Zq2 {w : World} {x : Addr} {len cap : Nat} {zs : List Int} (hl : len ≤ cap) (hz : zs.length = cap)
  (hc : ∀ i, i < zs.length → w.cell? (x.add i) = some (.int .u8 (zs.getD i 0))) (hw : ∀ n ∈ zs, (Lit.int .u8 n).wf = true) :
  Bytes w (.slice (some x) len cap) (K6 (zs.take len)) := by
 have e : (K6 (zs.take len)).length = len := by simp [K6]; omega
 by_cases h0 : len = 0
 ·subst h0;exact .inl ⟨some x, cap, rfl, by simp [K6], fun h => by cases h⟩
 ·obtain ⟨b, off, rfl, hc'⟩ := ints_at hc (by omega);refine .inr ⟨b, off, cap, by rw [e], by omega, fun i hi => ?_⟩;have hi' : i < zs.length := by omega
  rw [hc' i hi'];have h1 : zs.getD i 0 = zs[i] := by rw [List.getD_eq_getElem?_getD, List.getElem?_eq_getElem hi']; rfl
  have h2 := Zus (hw zs[i] (List.getElem_mem hi'));have h3 : ((K6 (zs.take len))[i].toNat : Int) = zs[i] := by
   simp only [K6, List.getElem_map, List.getElem_take];rw [UInt8.toNat_ofNat'];omega
  rw [h1, h3]
end Go.Proofs.YtgaecpdokgklpadGreatDoor
namespace Go.Proofs.YtgaecpdokgklpadGreatDoor
set_option maxRecDepth 100000
open Go.RowKit Go.ChangeShapes Go.WideShapes Go.ChangeAt Go.Deep
open Plain Reg
section
variable {H : Type} {enc : TypeId × Value → H} {W : World}
theorem Zh6 {P : Program} {ts : List TypeId} {ds : List (DataW H)} (h : (DataW.weightsEach P ts ds).all (· ≤ reachBytes) = true) {j : Nat} {t : TypeId} {d : DataW H} (ht : ts[j]? = some t) (hd : ds[j]? = some d) : (d.weights P t).all (· ≤ reachBytes) = true := by
 rw [List.all_eq_true] at h ⊢;exact fun n hn => h n (DataW.weights_mem_each ht hd n hn)
theorem Zfk {fuel : Nat} {v : Value} {x : DataW H × List MemPlace} (h : DataW.trod enc Tryz.prog W 0 (fun _ => true) true fuel 38 [v] = some x) (hs : (x.1.weights Tryz.prog 38).all (· ≤ reachBytes) = true) :
  ∃ l, Bytes W v l ∧ l.length ≤ 140737488351232 := by
 rcases open_ints Tryz.underlying38 Tryz.underlying5 (by kernel_rfl) h with ⟨hcs, _⟩ | ⟨a, len, cap, zs, hcs, _, hl, hm, hz, hx, hcell, hwz⟩
 ·simp only [List.cons.injEq, and_true] at hcs;subst hcs;exact ⟨[], .inl ⟨none, 0, rfl, rfl, fun _ => rfl⟩, by simp⟩
 ·simp only [List.cons.injEq, and_true] at hcs;subst hcs;have hzz : zs.length = cap := by simpa using hz
  subst hx;have hs2 : (lits (H := H) .u8 (zs.take len)).length + (lits (H := H) .u8 (zs.drop len)).length ≤ reachBytes := by
   have h3 := (List.all_eq_true.1 hs) (((lits (H := H) .u8 (zs.take len)).length + (lits (H := H) .u8 (zs.drop len)).length) * Tryz.prog.bytesOf 5) (by simp [DataW.weights, Tryz.underlying38]);rw [show Tryz.prog.bytesOf 5 = 1 from by kernel_rfl, Nat.mul_one] at h3;simpa using h3
  simp only [lits, List.length_map, List.length_take, List.length_drop, reachBytes] at hs2;refine ⟨K6 (zs.take len), Zq2 hl hzz hcell hwz, ?_⟩;simp [K6]; omega
end
end Go.Proofs.YtgaecpdokgklpadGreatDoor
namespace Go.Proofs.YtgaecpdokgklpadGreatDoor
set_option maxRecDepth 100000
open Go.RowKit Go.ChangeShapes Go.WideShapes Go.ChangeAt Go.Deep
open Plain Reg
section
variable {H : Type} {enc : TypeId × Value → H} {W : World}
theorem Zff {a : Addr} {u : Value} (h : W.cell? (a.add 0) = some u) : ∃ b off, a = ⟨b, off, none⟩ := by
 obtain ⟨b, off, spot⟩ := a;cases spot with
 | none => exact ⟨b, off, rfl⟩
 | some s =>
  exfalso;unfold World.cell? Addr.add at h;simp only [if_true] at h;split at h <;> simp_all
theorem Zbi (b off i : Nat) : (⟨b, off, none⟩ : Addr).add i = ⟨b, off + i, none⟩ := by
 unfold Addr.add;split
 ·rename_i h; rw [h]; rfl
 ·rfl
end
section
variable {H : Type} {enc : TypeId × Value → H} {W : World}
theorem Zpw {α : Type} (i0 : Inhabited α) (sh : Xz α) {t : TypeId} {fuel : Nat} {v : Value} {x : DataW H × List MemPlace} (ht : Tryz.prog.underlying t = some (.slice sh.T)) (hc : Tryz.prog.cellsOf sh.T = sh.size) (hz : 0 < sh.size) {by_ : Nat} (hby : Tryz.prog.bytesOf sh.T = by_)
  (hopen : ∀ (fuel : Nat) (cs : List Value) (y : DataW H × List MemPlace), DataW.trod enc Tryz.prog W 0 (fun _ => true) true fuel sh.T cs = some y → ∃ z : α, sh.enc (fun b => b < W.heap.size) W z cs)
  (h : DataW.trod enc Tryz.prog W 0 (fun _ => true) true fuel t [v] = some x) (hs : (x.1.weights Tryz.prog t).all (· ≤ reachBytes) = true) :
  ∃ xs, Z4 sh (fun b => b < W.heap.size) W v xs ∧ xs.length * by_ ≤ 140737488351232 := by
 rcases open_slice ht h with ⟨hcs, _⟩ | ⟨a, len, cap, m, n, D, Pl, hcs, _, hl, hm, hmm, hx, hV⟩
 ·simp only [List.cons.injEq, and_true] at hcs;subst hcs;exact ⟨[], .inl ⟨none, 0, rfl, rfl, fun _ => rfl⟩, by simp⟩
 ·simp only [List.cons.injEq, and_true] at hcs;subst hcs;have hmc : m = cap := by simpa using hmm
  subst hmc;have hex : ∀ i, i < len → ∃ z : α, ∃ cs, sh.enc (fun b => b < W.heap.size) W z cs ∧ ∀ (j : Nat) (u : Value), cs[j]? = some u → W.cell? (a.add (i * sh.size + j)) = some u := by
   intro i hi;obtain ⟨cs, h1, h2⟩ := hV i (by omega);rw [hc] at h1;obtain ⟨_, hlen, hcell⟩ := World.cells?_some h1;obtain ⟨z, hz⟩ := hopen _ _ _ h2;refine ⟨z, cs, hz, fun j u hj => ?_⟩;have hjl := (List.getElem?_eq_some_iff.1 hj).1;have := hcell j (by omega);rw [add_add] at this;rw [this]; exact hj
  obtain ⟨f, hf⟩ := choose_lt hex;subst hx;have hw : len * by_ ≤ reachBytes := by
   have h3 := (List.all_eq_true.1 hs) ((((List.range len).map D).length + ((List.range (m - len)).map fun j => D (len + j)).length) * Tryz.prog.bytesOf sh.T) (by simp [DataW.weights, ht]);rw [hby] at h3;simp only [List.length_map, List.length_range, decide_eq_true_eq] at h3;exact Nat.le_trans (Nat.mul_le_mul_right _ (by omega)) h3
  refine ⟨(List.range len).map f, ?_, by simp [reachBytes] at hw ⊢; omega⟩;by_cases h0 : len = 0
  ·subst h0;exact .inl ⟨some a, m, rfl, by simp, fun h => by cases h⟩
  ·obtain ⟨cs0, e1, e2⟩ := hf 0 (by omega);have hl0 := sh.len e1;have e3 := e2 0 cs0[0] (List.getElem?_eq_getElem (by omega));rw [Nat.zero_mul, Nat.zero_add] at e3;obtain ⟨b, off, rfl⟩ := Zff e3;refine .inr ⟨b, off, m, ?_, by simp, by simpa using hl, fun i hi => ?_⟩
   ·rw [Zbi] at e3;exact Zs e3
   ·obtain ⟨cs, k1, k2⟩ := hf i (by simpa using hi);refine ⟨cs, by simpa using k1, fun j u hj => ?_⟩;have := k2 j u hj;rw [Zbi] at this;rw [Nat.add_assoc]; exact this
end
section
variable {H : Type} {enc : TypeId × Value → H} {W : World}
end
section
variable {H : Type} {enc : TypeId × Value → H} {W : World}
theorem Zes {P : Program} {e : TypeId} : ∀ {l : List (DataW H)} {d : DataW H}, d ∈ l → ∀ n ∈ d.weights P e, n ∈ DataW.weightsAll P e l
 | c :: r, d, h, n, hn => by
  rw [DataW.weightsAll, List.mem_append];rcases List.mem_cons.1 h with rfl | h
  ·exact .inl hn
  ·exact .inr (Zes h n hn)
theorem Zmv {α : Type} (i0 : Inhabited α) (sh : Xz α) (Q : α → Prop) {t : TypeId} {fuel : Nat} {v : Value} {x : DataW H × List MemPlace} (ht : Tryz.prog.underlying t = some (.slice sh.T)) (hc : Tryz.prog.cellsOf sh.T = sh.size) (hz : 0 < sh.size) {by_ : Nat} (hby : Tryz.prog.bytesOf sh.T = by_)
  (hopen : ∀ (fuel : Nat) (cs : List Value) (y : DataW H × List MemPlace), DataW.trod enc Tryz.prog W 0 (fun _ => true) true fuel sh.T cs = some y → (y.1.weights Tryz.prog sh.T).all (· ≤ reachBytes) = true → ∃ z : α, sh.enc (fun b => b < W.heap.size) W z cs ∧ Q z)
  (h : DataW.trod enc Tryz.prog W 0 (fun _ => true) true fuel t [v] = some x) (hs : (x.1.weights Tryz.prog t).all (· ≤ reachBytes) = true) :
  ∃ xs, Z4 sh (fun b => b < W.heap.size) W v xs ∧ xs.length * by_ ≤ 140737488351232 ∧ ∀ z ∈ xs, Q z := by
 rcases open_slice ht h with ⟨hcs, _⟩ | ⟨a, len, cap, m, n, D, Pl, hcs, _, hl, hm, hmm, hx, hV⟩
 ·simp only [List.cons.injEq, and_true] at hcs;subst hcs;exact ⟨[], .inl ⟨none, 0, rfl, rfl, fun _ => rfl⟩, by simp, by simp⟩
 ·simp only [List.cons.injEq, and_true] at hcs;subst hcs;have hmc : m = cap := by simpa using hmm
  subst hmc;subst hx;have hex : ∀ i, i < len → ∃ z : α, ∃ cs, (sh.enc (fun b => b < W.heap.size) W z cs ∧ Q z) ∧ ∀ (j : Nat) (u : Value), cs[j]? = some u → W.cell? (a.add (i * sh.size + j)) = some u := by
   intro i hi;obtain ⟨cs, h1, h2⟩ := hV i (by omega);rw [hc] at h1;obtain ⟨_, hlen, hcell⟩ := World.cells?_some h1;have hwt : ((D i).weights Tryz.prog sh.T).all (· ≤ reachBytes) = true := by
    rw [List.all_eq_true] at hs ⊢;intro k hk;refine hs k ?_;have := Zes (P := Tryz.prog) (e := sh.T) (l := (List.range len).map D) (List.mem_map.2 ⟨i, List.mem_range.2 hi, rfl⟩) k hk;simp only [DataW.weights, ht];exact List.mem_cons_of_mem _ (List.mem_append_left _ this)
   obtain ⟨z, hz⟩ := hopen _ _ _ h2 hwt;refine ⟨z, cs, hz, fun j u hj => ?_⟩;have hjl := (List.getElem?_eq_some_iff.1 hj).1;have := hcell j (by omega);rw [add_add] at this;rw [this]; exact hj
  obtain ⟨f, hf⟩ := choose_lt hex;have hw : len * by_ ≤ reachBytes := by
   have h3 := (List.all_eq_true.1 hs) ((((List.range len).map D).length + ((List.range (m - len)).map fun j => D (len + j)).length) * Tryz.prog.bytesOf sh.T) (by simp [DataW.weights, ht]);rw [hby] at h3;simp only [List.length_map, List.length_range, decide_eq_true_eq] at h3;exact Nat.le_trans (Nat.mul_le_mul_right _ (by omega)) h3
  refine ⟨(List.range len).map f, ?_, by simp [reachBytes] at hw ⊢; omega, fun z hz => by
   obtain ⟨i, hi, rfl⟩ := List.mem_map.1 hz;obtain ⟨_, k1, _⟩ := hf i (List.mem_range.1 hi);exact k1.2⟩
  by_cases h0 : len = 0
  ·subst h0;exact .inl ⟨some a, m, rfl, by simp, fun h => by cases h⟩
  ·obtain ⟨cs0, e1, e2⟩ := hf 0 (by omega);have hl0 := sh.len e1.1;have e3 := e2 0 cs0[0] (List.getElem?_eq_getElem (by omega));rw [Nat.zero_mul, Nat.zero_add] at e3;obtain ⟨b, off, rfl⟩ := Zff e3;refine .inr ⟨b, off, m, ?_, by simp, by simpa using hl, fun i hi => ?_⟩
   ·rw [Zbi] at e3;exact Zs e3
   ·obtain ⟨cs, k1, k2⟩ := hf i (by simpa using hi);refine ⟨cs, by simpa using k1.1, fun j u hj => ?_⟩;have := k2 j u hj;rw [Zbi] at this;rw [Nat.add_assoc]; exact this
end
section
variable {H : Type} {enc : TypeId × Value → H} {W : World}
def Zge : Xz (List UInt8) where
 T := 38
 size := 1
 enc S w x cs := ∃ u, cs = [u] ∧ Z3 S w u x
 len := by rintro S w x cs ⟨u, rfl, _⟩; rfl
 keep := by rintro S w w' x cs ⟨u, rfl, h⟩ hk; exact ⟨u, rfl, h.keeps hk⟩
 mono := by rintro S S' w x cs ⟨u, rfl, h⟩ hS; exact ⟨u, rfl, h.mono hS⟩
 cap := by rintro S w x cs ⟨u, rfl, h⟩; exact ⟨u, rfl, h.caps⟩
 one := by
  rintro S w x cs ⟨u, rfl, h⟩ c hc;rw [List.mem_singleton.1 hc]; exact h.one
theorem Zt2 {S : Nat → Prop} {v : Value} {l : List (List UInt8)} (h : Z4 Zge S W v l) : Xc S W v l := by
 rcases h with h | ⟨b, off, cap, hS, rfl, h1, hc⟩
 ·exact .inl h
 ·refine .inr ⟨b, off, cap, hS, rfl, h1, fun i hi => ?_⟩;obtain ⟨cs, ⟨u, rfl, hu⟩, hcc⟩ := hc i hi;refine ⟨u, ?_, hu⟩;have := hcc 0 u rfl;rw [show off + i * Zge.size + 0 = off + i from by show off + i * 1 + 0 = _; omega] at this;exact this
theorem Zpy {fuel : Nat} {v : Value} {x : DataW H × List MemPlace} (h : DataW.trod enc Tryz.prog W 0 (fun _ => true) true fuel 24 [v] = some x) (hs : (x.1.weights Tryz.prog 24).all (· ≤ reachBytes) = true) : ∃ l, Xc (fun b => b < W.heap.size) W v l ∧ l.length ≤ 140737488351232 ∧ ∀ z ∈ l, z.length ≤ 140737488351232 := by
 obtain ⟨l, h1, h2, h3⟩ := Zmv ⟨[]⟩ Zge (fun z => z.length ≤ 140737488351232) Tryz.underlying24 (by kernel_rfl) (by decide) (by_ := 24) (by kernel_rfl) (fun _ cs _ h hw => by
  have hl : ∃ c, cs = [c] := by
   rcases open_ints Tryz.underlying38 Tryz.underlying5 (by kernel_rfl) h with ⟨hcs, _⟩ | ⟨a, len, cap, zs, hcs, _⟩
   ·exact ⟨_, hcs⟩
   ·exact ⟨_, hcs⟩
  obtain ⟨c, rfl⟩ := hl;obtain ⟨e, hb, hle⟩ := Zfk h hw;exact ⟨e, ⟨c, rfl, Zdf hb⟩, hle⟩) h hs
 exact ⟨l, Zt2 h1, by omega, h3⟩
theorem Zpx {fuel : Nat} {v : Value} {x : DataW H × List MemPlace} (h : DataW.trod enc Tryz.prog W 0 (fun _ => true) true fuel 22 [v] = some x) (hs : (x.1.weights Tryz.prog 22).all (· ≤ reachBytes) = true) : ∃ l, Z4 Za4 (fun b => b < W.heap.size) W v l ∧ l.length ≤ 140737488351232 := by
 obtain ⟨l, h1, h2⟩ := Zpw ⟨0⟩ Za4 Tryz.underlying22 (by kernel_rfl) (by decide) (by_ := 8) (by kernel_rfl) (fun _ cs _ h => by
  obtain ⟨a, e, -, -⟩ := DataW.trod_int Tryz.underlying3 h;exact ⟨a, e⟩) h hs
 exact ⟨l, h1, by omega⟩
end
end Go.Proofs.YtgaecpdokgklpadGreatDoor
