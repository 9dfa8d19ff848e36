import Derived.Test.YtpdnapbchcdhlabWrong
import Derived.Lib.SliceRun
set_option maxHeartbeats 8000000
namespace Go.Proofs.Ytpdnapbchcdhlab
set_option maxRecDepth 100000
open Go.RowKit
open Plain Reg
variable {W w : World} {base n size : Nat} {e : TypeId} {v : Value} {xs : List Value}
theorem Zbz {w1 : World} (hb : Zi W w1) : (∀ b o, b < W.heap.size → w1.cell? ⟨b, o, none⟩ = W.cell? ⟨b, o, none⟩) ∧ (∀ b o, b < W.heap.size → w1.frozen? ⟨b, o, none⟩ = W.frozen? ⟨b, o, none⟩) :=
 ⟨fun b o h => Below.cell hb (p := ⟨b, o, none⟩) h, fun b o h => Below.frozen hb (p := ⟨b, o, none⟩) h⟩
theorem K5 (W : World) (a : Addr) (x : Value) : (W.setCell a x).cell? a = (W.cell? a).map fun _ => x := by
 cases h : W.cell? a with
 | some u => exact World.cell?_setCell_same W a x h
 | none =>
  unfold World.cell? at h ⊢;simp only [World.setCell, Array.getElem?_modify, ↓reduceIte];cases hb : W.heap[a.block]? with
  | none => simp
  | some o =>
   cases o with
   | cells c e f =>
    simp only [hb] at h;simp only [Option.map_some];split at h
    ·simp_all
    ·simp_all
   | _ => simp_all
theorem Xa {a b c d : Prop} (h : a ∨ b) (f : a → c) (g : b → d) : c ∨ d := by
 rcases h with h | h
 ·exact .inl (f h)
 ·exact .inr (g h)
theorem X7 {base' : Nat} (h : w.ownsRow base e size v n xs) (hb : base' ≤ base) : w.ownsRow base' e size v n xs :=
 ⟨h.1, Xa h.2 (fun x => x) fun ⟨g, cap, cur, h1, h2, r⟩ => ⟨g, cap, cur, h1, Nat.le_trans hb h2, r⟩⟩
theorem Xe (h : w.ownsRow base e size v n xs) {a : Addr} (ha : a.block < base) (u : Value) : (w.setCell a u).ownsRow base e size v n xs :=
 ownsRow_setCell_below h ha u
theorem Y2 (h : Zi w W) {a : Addr} (ha : w.heap.size ≤ a.block) (u : Value) : Zi w (W.setCell a u) := Below.setCell h ha u
theorem Qv (h : w.ownsRow base e 1 v n xs) : ∃ ao cap, v = .slice ao n cap := by
 rcases h.2 with ⟨h1, h0⟩ | ⟨g, cap, cur, rfl, hb, _⟩
 ·subst h0; exact ⟨none, 0, h1⟩
 ·exact ⟨_, cap, rfl⟩
theorem Zat (w : World) :
  Calls Try.prog 82 #[.slice none 0 0] w fun e w' => ∃ v', e = .returned v' ∧ w'.ownsRow w.heap.size 5 1 v' 0 [] ∧ Zi w w' := by
 have q := fun (w : World) (a : Option Addr) (n c n' c' : Nat) => Lib.run_eql_slice_nil (P := Try.prog) w 31 5 a n c n' c' Try.underlying31
 go_enter Try.func82, Try.ntmps82;go_wp2;go_ret;exact ⟨_, rfl, World.ownsRow_nil _ _ _ _, Zi.refl _⟩
theorem Js (l : List UInt8) (ad : Addr) (cap : Nat) (w : World) (hm : l.length ≤ 140737488355328)
  (hcells : ∀ (j : Nat) u, (l.map bv)[j]? = some u → w.cell? (ad.add j) = some u) :
  Calls Try.prog 82 #[.slice (some ad) l.length cap] w fun e w' => ∃ v', e = .returned v' ∧ w'.ownsRow w.heap.size 5 1 v' l.length (l.map bv) ∧ Zi w w' := by
 obtain ⟨i0, hif, hz0, hz1, hz2⟩ := info_parts Zao;have ho := Zag w;have hc1 : ∀ (j : Nat) u, (l.map bv)[j]? = some u → (w.alloc (.cells #[] 5)).cell? (ad.add j) = some u := by
  intro j u hj;have h2 := hcells j u hj;rw [← h2];exact Below.cell (Ze w _) (Zr h2)
 clear hcells;have q := fun (w : World) (a : Option Addr) (n c n' c' : Nat) => Lib.run_eql_slice_nil (P := Try.prog) w 31 5 a n c n' c' Try.underlying31
 go_enter Try.func82, Try.ntmps82;go_wp2_with (at_builtin; refine wpList_append_own _ rfl (.tmp 5) (.tmp 6) 31 rfl w.heap.size 5 i0 (.int .u8 0) 1 1 Try.underlying31 hif hz0 hz1 hz2 rfl (by decide) (.slice (some ⟨w.heap.size, 0, none⟩) 0 0) 0 [] rfl ho ad l.length cap (l.map bv) rfl (by simp) hc1 (Jt l) (by unfold maxLen; omega) (by omega) (by simp) ?_; intro v2 w2 hown2 hgrow2 _; simp only [Nat.zero_add, List.nil_append] at hown2);have g2 : Zi w w2 := Ys (Ze w _) hgrow2 (fun k e => by simp [Value.ownBlock] at e; omega);go_ret;exact ⟨_, rfl, hown2, g2⟩
theorem Zau (l : List UInt8) (v : Value) (w : World) (hm : l.length ≤ 140737488355328) (h : Bytes w v l) :
  Calls Try.prog 82 #[v] w fun e w' => ∃ v', e = .returned v' ∧ w'.ownsRow w.heap.size 5 1 v' l.length (l.map bv) ∧ Zi w w' := by
 obtain ⟨ao, cap, rfl, hnone, hcells⟩ := Xg h;cases ao with
 | some ad => exact Js l ad cap w hm (hcells ad rfl)
 | none =>
  obtain ⟨h1, rfl⟩ := hnone rfl;obtain rfl := List.eq_nil_of_length_eq_zero h1;exact Zat w
theorem Kh (k y n : Int) (l : List UInt8) (v : Value) (w : World) (hm : l.length ≤ 140737488355328) (h : Bytes w v l) :
  Calls Try.prog 57 #[.agg #[.int .i64 k, .int .i64 y, .int .i64 n, v]] w fun e w' => ∃ v', e = .returned (.agg #[.int .i64 k, .int .i64 y, .int .i64 n, v']) ∧ w'.ownsRow w.heap.size 5 1 v' l.length (l.map bv) ∧ Zi w w' := by
 obtain ⟨ao, cap, rfl, -, -⟩ := Xg h;go_enter Try.func57, Try.ntmps57;go_wp2_with fail;refine (Zau l _ _ hm (by exact Zo h (Zt _ _ _))).mono ?_;rintro e w1 ⟨v', rfl, ho, g1⟩;obtain ⟨ao', cap', rfl⟩ := Qv ho;obtain ⟨hc, hf⟩ := Zbz g1;have cs := K5;clear h;go_wp2_with fail;refine bodyPost_ret (v := .agg #[.int .i64 k, .int .i64 y, .int .i64 n, .slice ao' l.length cap']) (by simp [results, Try.results57, go_sem, hc, cs]) rfl ⟨_, rfl, X7 (base := w.heap.size + 2) ?_ (by omega), ?_⟩
 ·replace ho : w1.ownsRow (w.heap.size + 2) 5 1 (.slice ao' l.length cap') l.length (l.map bv) := by simpa using ho
  exact Xe (Xe (Xe (Xe (Xe ho (by simp) _) (by simp) _) (by simp) _) (by simp) _) (by simp) _
 ·exact Y2 (Y2 (Y2 (Y2 (Y2 ((Zt _ _ _).trans g1) (by simp) _) (by simp) _) (by simp) _) (by simp) _) (by simp) _
end Go.Proofs.Ytpdnapbchcdhlab
