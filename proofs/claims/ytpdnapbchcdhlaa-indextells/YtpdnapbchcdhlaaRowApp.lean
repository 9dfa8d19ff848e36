import Derived.Test.YtpdnapbchcdhlaaRow
import Derived.Deep.Slices
set_option maxHeartbeats 8000000
namespace Go.Proofs.Ytpdnapbchcdhlaa
set_option maxRecDepth 100000
open Go.RowKit Go.Deep
open Plain Reg
variable {B : Nat} {S0 : Nat → Prop} {css : List (List Value)} {v : Value} {w w3 : World} {α : Type}
theorem Zii {n size : Nat} {e : TypeId} {us : List Value} (hown : w.ownsRow B e size v n us) (hT : e ≠ 5) (hS0 : ∀ b, S0 b → b < B) (hg : w.grownBy w3 v.ownBlock) : ∀ b, InS S0 B w b → b < w.heap.size → w3.heap[b]? = w.heap[b]? := by
 intro b hb hlt;refine hg.block b hlt ?_;rcases hb with h | ⟨_, c, f, h⟩
 ·exact Xp hown (hS0 b h)
 ·exact Zhp hown hT h
theorem Yo.ext {sh : Xh α} {v' : Value} {xs ys : List α} {yss : List (List Value)} {w3 : World} (h : Yo sh S0 B v xs css w) (hT : sh.T ≠ 5) (hS0 : ∀ b, S0 b → b < B) (hl : yss.length = ys.length)
  (hy : ∀ i (hi : i < ys.length), ∃ cs, yss[i]? = some cs ∧ sh.enc (InS S0 B w) w ys[i] cs) (hg : w.grownBy w3 v.ownBlock) (hown : w3.ownsRow B sh.T sh.size v' (xs.length + ys.length) (css.flatten ++ yss.flatten)) : Yo sh S0 B v' (xs ++ ys) (css ++ yss) w3 := by
 have hk := Zii (S0 := S0) h.row hT hS0 hg;have hm : ∀ b, InS S0 B w b → InS S0 B w3 b := fun b h1 => Xj h1 (fun x => x) fun ⟨k1, c, f, k2⟩ => ⟨k1, c, f, (hk b h1 (Zg k2)).trans k2⟩
 refine ⟨by simp [h.len, hl], fun i hi => ?_, by simpa using hown⟩;by_cases hi2 : i < xs.length
 ·obtain ⟨y, h1, h2⟩ := h.each i hi2;refine ⟨y, by rw [List.getElem?_append_left (by rw [h.len]; exact hi2)]; exact h1, ?_⟩;rw [List.getElem_append_left hi2]; exact sh.mono (sh.keep h2 hk) hm
 ·have hi3 : i - xs.length < ys.length := by simp at hi; omega
  obtain ⟨y, h1, h2⟩ := hy (i - xs.length) hi3;refine ⟨y, by rw [List.getElem?_append_right (by rw [h.len]; omega), h.len]; exact h1, ?_⟩;rw [List.getElem_append_right (by omega)]; exact sh.mono (sh.keep h2 hk) hm
theorem V2 {k : Nat} : ∀ (css : List (List Value)), (∀ c ∈ css, c.length = k) → css.flatten.length = css.length * k
 | [], _ => by simp
 | c :: css, h => by
  rw [List.flatten_cons, List.length_append, V2 css fun c hc => h c (by simp [hc]), h c (by simp), List.length_cons, Nat.add_mul]; omega
theorem Yo.app {sh : Xh α} {S0 S : Nat → Prop} {B bytes : Nat} {v u z : Value} {xs ys : List α} {css : List (List Value)} {w : World} {t : TypeId} (ty : TypeId) {i : TypeInfo} (ht : Try.prog.underlying t = some (.slice sh.T)) (hif : Try.prog.info? sh.T = some i) (hz : i.zero = some z) (hsize : i.size = sh.size) (hby : i.bytes = bytes) (hzs : z.cells.size = sh.size)
  (hsz : 0 < sh.size) (hT : sh.T ≠ 5) (hS0 : ∀ b, S0 b → b < B) (h : Yo sh S0 B v xs css w) (hy : Z5 sh S w u ys) (hSS : ∀ b, S b → InS S0 B w b) (h63 : xs.length + ys.length ≤ maxLen) (hb : (xs.length + ys.length) * bytes ≤ 140737488355328) (hB : B ≤ w.heap.size) :
  ∃ v' w' css', (Builtin.append_ #[t, t] ty #[v, u]).run Try.prog w = .ok v' w' ∧ Yo sh S0 B v' (xs ++ ys) css' w' ∧ w.grownBy w' v.ownBlock := by
 rcases hy with ⟨ao, cap, rfl, rfl, h0⟩ | ⟨b, off, cap, hSb, rfl, hcap, hc⟩
 ·cases ao with
  | none =>
   obtain rfl := h0 rfl;exact ⟨v, w, css, run_append_owned_none (P := Try.prog) (w := w) B t ty sh.T i sh.size ht hif v xs.length css.flatten h.row, by simpa using h, ⟨rfl, rfl, rfl, Nat.le_refl _, fun _ _ _ => rfl⟩⟩
  | some ad =>
   obtain ⟨v', w', h1, h2, h3, -⟩ := run_append_own (P := Try.prog) (w := w) B t ty sh.T i z sh.size bytes ht hif hz hsize hby hzs hsz v xs.length css.flatten h.row ad 0 cap [] (by simp) (fun j u hj => by simp at hj) (by simp) (by simpa using h63) (by simpa using hb) hB;refine ⟨v', w', css ++ [], h1, ?_, h3⟩;exact h.ext hT hS0 rfl (fun i hi => by simp at hi) h3 (by simpa using h2)
 ·have hex : ∀ j, j < ys.length → ∃ cs : List Value, (∀ hj : j < ys.length, sh.enc S w ys[j] cs) ∧ ∀ (k : Nat) (u : Value), cs[k]? = some u → w.cell? ⟨b, off + j * sh.size + k, none⟩ = some u := fun j hj => by
   obtain ⟨cs, k1, k2⟩ := hc j hj;exact ⟨cs, fun _ => k1, k2⟩
  obtain ⟨f, hf⟩ := choose_lt hex;have hlen : ∀ c ∈ (List.range ys.length).map f, c.length = sh.size := by
   intro c hc2;obtain ⟨j, hj, rfl⟩ := List.mem_map.1 hc2;have hj' : j < ys.length := by simpa using hj
   exact sh.len ((hf j hj').1 hj')
  have hl1 : ((List.range ys.length).map f).flatten.length = ys.length * sh.size := by rw [V2 _ hlen]; simp
  have hcells : ∀ (j : Nat) (u : Value), ((List.range ys.length).map f).flatten[j]? = some u → w.cell? ((⟨b, off, none⟩ : Addr).add j) = some u := by
   intro j u hj;have hjl : j < ys.length * sh.size := by rw [← hl1]; exact (List.getElem?_eq_some_iff.1 hj).1
   have hq : j / sh.size < ys.length := Nat.div_lt_of_lt_mul (by rw [Nat.mul_comm]; exact hjl);have hr : j % sh.size < sh.size := Nat.mod_lt _ hsz;have hjd : j / sh.size * sh.size + j % sh.size = j := by rw [Nat.mul_comm]; exact Nat.div_add_mod j sh.size
   rw [← hjd, Vp _ (j / sh.size) (j % sh.size) (f (j / sh.size)) hlen (by simp [hq]) hr] at hj;have := (hf _ hq).2 _ _ hj;have e : (⟨b, off, none⟩ : Addr).add j = ⟨b, off + j, none⟩ := by
    unfold Addr.add;split
    ·rename_i h; rw [h]; rfl
    ·rfl
   rw [e, ← hjd, ← Nat.add_assoc]; exact this
  obtain ⟨v', w', h1, h2, h3, -⟩ := run_append_own (P := Try.prog) (w := w) B t ty sh.T i z sh.size bytes ht hif hz hsize hby hzs hsz v xs.length css.flatten h.row ⟨b, off, none⟩ ys.length cap ((List.range ys.length).map f).flatten hl1 hcells (fun u hu => by
   obtain ⟨cs, k1, k2⟩ := List.mem_flatten.1 hu;obtain ⟨j, hj, rfl⟩ := List.mem_map.1 k1;have hj' : j < ys.length := by simpa using hj
   exact sh.one ((hf j hj').1 hj') u k2) h63 hb hB
  refine ⟨v', w', _, h1, h.ext (yss := (List.range ys.length).map f) hT hS0 (by simp) (fun j hj => ⟨f j, by simp [hj], sh.mono ((hf j hj).1 hj) hSS⟩) h3 h2, h3⟩
end Go.Proofs.Ytpdnapbchcdhlaa
