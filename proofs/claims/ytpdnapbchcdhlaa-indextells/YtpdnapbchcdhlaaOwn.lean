import Derived.Test.YtpdnapbchcdhlaaWrong
import Derived.Lib.SliceRun
import Derived.Laws.CopyRow
set_option maxHeartbeats 8000000
namespace Go.Proofs.Ytpdnapbchcdhlaa
set_option maxRecDepth 100000
open Go.RowKit
open Plain Reg
variable {W w : World} {base n : Nat} {e : TypeId} {v : Value} {xs : List Value}
theorem Zj7 {w1 : World} (hb : Zm W w1) : (∀ b o, b < W.heap.size → w1.cell? ⟨b, o, none⟩ = W.cell? ⟨b, o, none⟩) ∧ (∀ b o, b < W.heap.size → w1.frozen? ⟨b, o, none⟩ = W.frozen? ⟨b, o, none⟩) :=
 ⟨fun b o h => Below.cell hb (p := ⟨b, o, none⟩) h, fun b o h => Below.frozen hb (p := ⟨b, o, none⟩) h⟩
theorem Z6 (W : World) (a : Addr) (x : Value) : (W.setCell a x).cell? a = (W.cell? a).map fun _ => x := by
 cases h : W.cell? a with
 | some u => exact World.cell?_setCell_same W a x h
 | none =>
  unfold World.cell? at h ⊢;simp only [World.setCell, Array.getElem?_modify, ↓reduceIte];cases hb : W.heap[a.block]? with
  | none => simp
  | some o =>
   cases o with
   | cells c e f =>
    simp only [hb] at h;simp only [Option.map_some];split at h
    ·simp_all
    ·simp_all
   | _ => simp_all
theorem Xj {a b c d : Prop} (h : a ∨ b) (f : a → c) (g : b → d) : c ∨ d := by
 rcases h with h | h
 ·exact .inl (f h)
 ·exact .inr (g h)
theorem Z8 {base' : Nat} {size : Nat} (h : w.ownsRow base e size v n xs) (hb : base' ≤ base) : w.ownsRow base' e size v n xs :=
 ⟨h.1, Xj h.2 (fun x => x) fun ⟨g, cap, cur, h1, h2, r⟩ => ⟨g, cap, cur, h1, Nat.le_trans hb h2, r⟩⟩
theorem Xa {size : Nat} (h : w.ownsRow base e size v n xs) {a : Addr} (ha : a.block < base) (u : Value) : (w.setCell a u).ownsRow base e size v n xs :=
 ownsRow_setCell_below h ha u
theorem Zt (h : Zm w W) {a : Addr} (ha : w.heap.size ≤ a.block) (u : Value) : Zm w (W.setCell a u) := Below.setCell h ha u
theorem Yg (h : w.ownsRow base e 1 v n xs) : ∃ ao cap, v = .slice ao n cap := by
 rcases h.2 with ⟨h1, h0⟩ | ⟨g, cap, cur, rfl, hb, _⟩
 ·subst h0; exact ⟨none, 0, h1⟩
 ·exact ⟨_, cap, rfl⟩
theorem Zgz (w : World) :
  Calls Try.prog 72 #[.slice none 0 0] w fun e w' => ∃ v', e = .returned v' ∧ w'.ownsRow w.heap.size 5 1 v' 0 [] ∧ Zm w w' := by
 have q := fun (w : World) (a : Option Addr) (n c n' c' : Nat) => Lib.run_eql_slice_nil (P := Try.prog) w 22 5 a n c n' c' Try.underlying22
 go_enter Try.func72, Try.ntmps72;go_wp2;go_ret;exact ⟨_, rfl, World.ownsRow_nil _ _ _ _, Zm.refl _⟩
theorem Zes (l : List UInt8) (ad : Addr) (cap : Nat) (w : World) (hm : l.length ≤ 140737488355328)
  (hcells : ∀ (j : Nat) u, (l.map bv)[j]? = some u → w.cell? (ad.add j) = some u) :
  Calls Try.prog 72 #[.slice (some ad) l.length cap] w fun e w' => ∃ v', e = .returned v' ∧ w'.ownsRow w.heap.size 5 1 v' l.length (l.map bv) ∧ Zm w w' := by
 obtain ⟨i0, hif, hz0, hz1, hz2⟩ := info_parts Vi;have ho := Jm w;have hc1 : ∀ (j : Nat) u, (l.map bv)[j]? = some u → (w.alloc (.cells #[] 5)).cell? (ad.add j) = some u := by
  intro j u hj;have h2 := hcells j u hj;rw [← h2];exact Below.cell (Zh w _) (Zn h2)
 clear hcells;have q := fun (w : World) (a : Option Addr) (n c n' c' : Nat) => Lib.run_eql_slice_nil (P := Try.prog) w 22 5 a n c n' c' Try.underlying22
 go_enter Try.func72, Try.ntmps72;go_wp2_with (at_builtin; refine wpList_append_own _ rfl (.tmp 5) (.tmp 6) 22 rfl w.heap.size 5 i0 (.int .u8 0) 1 1 Try.underlying22 hif hz0 hz1 hz2 rfl (by decide) (.slice (some ⟨w.heap.size, 0, none⟩) 0 0) 0 [] rfl ho ad l.length cap (l.map bv) rfl (by simp) hc1 (Kt l) (by unfold maxLen; omega) (by omega) (by simp) ?_; intro v2 w2 hown2 hgrow2 _; simp only [Nat.zero_add, List.nil_append] at hown2);have g2 : Zm w w2 := Z1 (Zh w _) hgrow2 (fun k e => by simp [Value.ownBlock] at e; omega);go_ret;exact ⟨_, rfl, hown2, g2⟩
theorem Ke (l : List UInt8) (v : Value) (w : World) (hm : l.length ≤ 140737488355328) (h : Bytes w v l) :
  Calls Try.prog 72 #[v] w fun e w' => ∃ v', e = .returned v' ∧ w'.ownsRow w.heap.size 5 1 v' l.length (l.map bv) ∧ Zm w w' := by
 obtain ⟨ao, cap, rfl, hnone, hcells⟩ := Yn h;cases ao with
 | some ad => exact Zes l ad cap w hm (hcells ad rfl)
 | none =>
  obtain ⟨h1, rfl⟩ := hnone rfl;obtain rfl := List.eq_nil_of_length_eq_zero h1;exact Zgz w
theorem Zjn (k y n : Int) (l : List UInt8) (v : Value) (w : World) (hm : l.length ≤ 140737488355328) (h : Bytes w v l) :
  Calls Try.prog 28 #[.agg #[.int .i64 k, .int .i64 y, .int .i64 n, v]] w fun e w' => ∃ v', e = .returned (.agg #[.int .i64 k, .int .i64 y, .int .i64 n, v']) ∧ w'.ownsRow w.heap.size 5 1 v' l.length (l.map bv) ∧ Zm w w' := by
 obtain ⟨ao, cap, rfl, -, -⟩ := Yn h;go_enter Try.func28, Try.ntmps28;go_wp2_with fail;refine (Ke l _ _ hm (by exact Zw h (Yb _ _ _))).mono ?_;rintro e w1 ⟨v', rfl, ho, g1⟩;obtain ⟨ao', cap', rfl⟩ := Yg ho;obtain ⟨hc, hf⟩ := Zj7 g1;have cs := Z6;clear h;go_wp2_with fail;refine bodyPost_ret (v := .agg #[.int .i64 k, .int .i64 y, .int .i64 n, .slice ao' l.length cap']) (by simp [results, Try.results28, go_sem, hc, cs]) rfl ⟨_, rfl, Z8 (base := w.heap.size + 2) ?_ (by omega), ?_⟩
 ·replace ho : w1.ownsRow (w.heap.size + 2) 5 1 (.slice ao' l.length cap') l.length (l.map bv) := by simpa using ho
  exact Xa (Xa (Xa (Xa (Xa ho (by simp) _) (by simp) _) (by simp) _) (by simp) _) (by simp) _
 ·exact Zt (Zt (Zt (Zt (Zt ((Yb _ _ _).trans g1) (by simp) _) (by simp) _) (by simp) _) (by simp) _) (by simp) _
variable {a b w w' : World} {g : Nat} {xs ys : List UInt8}
structure Zs (g : Nat) (w w' : World) : Prop where
 os : w'.os = w.os
 tape : w'.tape = w.tape
 output : w'.output = w.output
 size : w.heap.size ≤ w'.heap.size
 block : ∀ k, k < w.heap.size → k ≠ g → w'.heap[k]? = w.heap[k]?
theorem Zs.refl (g : Nat) (w : World) : Zs g w w := ⟨rfl, rfl, rfl, Nat.le_refl _, fun _ _ _ => rfl⟩
theorem Zs.trans {c : World} (h : Zs g a b) (k : Zs g b c) : Zs g a c :=
 ⟨k.os.trans h.os, k.tape.trans h.tape, k.output.trans h.output, Nat.le_trans h.size k.size, fun i hi hg => (k.block i (Nat.lt_of_lt_of_le hi h.size) hg).trans (h.block i hi hg)⟩
theorem Zs.of (h : Zm a b) : Zs g a b := ⟨h.os, h.tape, h.output, h.size, fun k hk _ => h.block k hk⟩
theorem Zs.row (h : Zs g a b) (c : Array Value) : Zs g a (b.setRow g c) :=
 h.trans ⟨rfl, rfl, rfl, by simp [World.setRow], fun k _ hk => by simp only [World.setRow, Array.getElem?_modify]; rw [if_neg (fun e => hk e.symm)]⟩
theorem Zs.set (h : Zs g a b) (o : Nat) (s) (x : Value) : Zs g a (b.setCell ⟨g, o, s⟩ x) :=
 h.trans ⟨rfl, rfl, rfl, by simp, fun k _ hk => Below.heap_setCell _ _ _ _ hk⟩
theorem Zs.cell (h : Zs g a b) {p : Addr} (hp : p.block < a.heap.size) (hg : p.block ≠ g) : b.cell? p = a.cell? p := World.cell?_of_block (h.block _ hp hg)
theorem Zs.grow (h : Zs g a b) (hw : Zm w a) (hg : w.heap.size ≤ g) : Zm w b :=
 Below.trans (a := w) (b := a) hw ⟨h.os, h.tape, h.output, h.size, fun k hk => h.block k (Nat.lt_of_lt_of_le hk hw.size) (by omega)⟩
theorem Zs.drew (h : Zs g a b) : Zs g a b.drew := ⟨h.os, h.tape, h.output, h.size, h.block⟩
theorem Zs.frozen (h : Zs g a b) {p : Addr} (hp : p.block < a.heap.size) (hg : p.block ≠ g) : b.frozen? p = a.frozen? p := World.frozen?_of_block (h.block _ hp hg)
def Qp (w : World) (g : Nat) (xs : List UInt8) : Prop := w.heap[g]? = some (.cells (xs.map bv).toArray 5 (0, 0))
theorem Qp.lt (h : Qp w g xs) : g < w.heap.size := by
 rcases Nat.lt_or_ge g w.heap.size with hl | hl
 ·exact hl
 ·unfold Qp at h; rw [Array.getElem?_eq_none hl] at h; cases h
theorem Qp.grow (h : Qp w g xs) (hg : Zm w w') : Qp w' g xs := (hg.block g h.lt).trans h
theorem Qp.drew (h : Qp w g xs) : Qp w.drew g xs := h
theorem Qp.cell (h : Qp w g xs) (i : Nat) (hi : i < xs.length) : w.cell? ⟨g, i, none⟩ = some (.int .u8 (xs[i].toNat : Int)) := by
 unfold Qp at h;simp [World.cell?, h, hi, bv]
theorem Qp.frozen (h : Qp w g xs) (i : Nat) : w.frozen? ⟨g, i, none⟩ = false := by
 unfold Qp at h;simp [World.frozen?, h]
theorem Qp.set (h : Qp w g xs) (i : Nat) (c : UInt8) : Qp (w.setCell ⟨g, i, none⟩ (.int .u8 (c.toNat : Int))) g (xs.set i c) := by
 unfold Qp at h ⊢;simp only [World.setCell, Array.getElem?_modify, if_true, h, Option.map_some];simp [List.map_set, bv]
theorem Qp.row (h : Qp w g xs) : Qp (w.setRow g (ys.map bv).toArray) g ys := by
 unfold Qp at h ⊢;simp only [World.setRow, Array.getElem?_modify, if_true, h, Option.map_some]
def Way (g : Nat) (W : World) (xs ys : List UInt8) (w : World) : Prop := Zs g W w ∧ (Qp w g xs ∨ Qp w g ys)
theorem Way.grow {W : World} (h : Way g W xs ys w) (hg : Zm w w') : Way g W xs ys w' := ⟨h.1.trans (Zs.of hg), Xj h.2 (·.grow hg) (·.grow hg)⟩
def Zky (g : Nat) (W : World) (xs ys : List UInt8) (w : World) : Prop := Zs g W w ∧ ∃ zs, Qp w g zs ∧ zs.length = xs.length ∧ ∀ i : Nat, zs[i]? = xs[i]? ∨ zs[i]? = ys[i]?
theorem Zky.grow {g : Nat} {W w w' : World} {xs ys : List UInt8} (h : Zky g W xs ys w) (hg : Zm w w') : Zky g W xs ys w' :=
 ⟨h.1.trans (Zs.of hg), by obtain ⟨zs, h1, h2⟩ := h.2; exact ⟨zs, h1.grow hg, h2⟩⟩
def Zll (k y n at_ : Int) (l : List UInt8) : List UInt8 := [lo k, lo at_, lo y, hi n, lo n, lo (l.length : Int)] ++ List.replicate 8 0
end Go.Proofs.Ytpdnapbchcdhlaa
