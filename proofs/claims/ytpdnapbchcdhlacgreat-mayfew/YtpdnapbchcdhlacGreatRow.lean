import Derived.Test.YtpdnapbchcdhlacGreatDk
set_option maxHeartbeats 8000000
namespace Go.Proofs.YtpdnapbchcdhlacGreat
set_option maxRecDepth 100000
open Go.RowKit
open Plain Reg
variable {B b cap n size : Nat} {S S0 : Nat → Prop} {ao : Option Addr} {css : List (List Value)} {e : TypeId} {o : Obj} {us : List Value} {v : Value} {w w' w3 : World} {α : Type}
structure Qg (α : Type) where
 T : TypeId
 size : Nat
 enc : (Nat → Prop) → World → α → List Value → Prop
 len : ∀ {S : Nat → Prop} {w : World} {x : α} {cs : List Value}, enc S w x cs → cs.length = size
 keep : ∀ {S : Nat → Prop} {w w' : World} {x : α} {cs : List Value}, enc S w x cs → (∀ b, S b → b < w.heap.size → w'.heap[b]? = w.heap[b]?) → enc S w' x cs
 mono : ∀ {S S' : Nat → Prop} {w : World} {x : α} {cs : List Value}, enc S w x cs → (∀ b, S b → S' b) → enc S' w x cs
 cap : ∀ {S : Nat → Prop} {w : World} {x : α} {cs : List Value}, enc S w x cs → enc (fun b => S b ∧ b < w.heap.size) w x cs
 one : ∀ {S : Nat → Prop} {w : World} {x : α} {cs : List Value}, enc S w x cs → ∀ u ∈ cs, u.oneCell' = true
theorem Z1.keeps {l : List UInt8} (h : Z1 S w v l) (hk : ∀ b, S b → b < w.heap.size → w'.heap[b]? = w.heap[b]?) : Z1 S w' v l := by
 rcases h with h | ⟨b, off, cap, hS, rfl, h1, hc⟩
 ·exact .inl h
 ·refine .inr ⟨b, off, cap, hS, rfl, h1, fun i hi => ?_⟩;have h2 := hc i hi;rw [← h2];simp only [World.cell?, hk b hS (Zs h2)]
theorem Z1.caps {l : List UInt8} (h : Z1 S w v l) : Z1 (fun b => S b ∧ b < w.heap.size) w v l := by
 by_cases h0 : l = []
 ·subst h0;rcases h with h | ⟨b, off, cap, hS, rfl, h1, hc⟩
  ·exact .inl h
  ·exact .inl ⟨_, cap, rfl, rfl, fun h => by cases h⟩
 ·rcases h with ⟨_, _, _, h1, _⟩ | ⟨b, off, cap, hS, h2, h1, hc⟩
  ·exact absurd h1 h0
  ·exact .inr ⟨b, off, cap, ⟨hS, Zs (hc 0 (List.length_pos_iff.2 h0))⟩, h2, h1, hc⟩
theorem Z1.form {l : List UInt8} (h : Z1 S w v l) : ∃ ao cap, v = .slice ao l.length cap := by
 rcases h with ⟨ao, cap, rfl, rfl, _⟩ | ⟨b, off, cap, _, rfl, _⟩
 ·exact ⟨ao, cap, rfl⟩
 ·exact ⟨_, cap, rfl⟩
theorem Z1.one {l : List UInt8} (h : Z1 S w v l) : v.oneCell' = true := by
 obtain ⟨ao, cap, rfl⟩ := h.form; rfl
def Zt (sh : Qg α) (S : Nat → Prop) (w : World) (v : Value) (xs : List α) : Prop :=
 (∃ ao cap, v = .slice ao 0 cap ∧ xs = [] ∧ (ao = none → cap = 0)) ∨
 (∃ b off cap, S b ∧ v = .slice (some ⟨b, off, none⟩) xs.length cap ∧ xs.length ≤ cap ∧ ∀ (i : Nat) (h : i < xs.length), ∃ cs, sh.enc S w xs[i] cs ∧ ∀ (j : Nat) (u : Value), cs[j]? = some u → w.cell? ⟨b, off + i * sh.size + j, none⟩ = some u)
theorem Zt.keep {sh : Qg α} {xs : List α} (h : Zt sh S w v xs) (hk : ∀ b, S b → b < w.heap.size → w'.heap[b]? = w.heap[b]?) : Zt sh S w' v xs := by
 rcases h with h | ⟨b, off, cap, hS, rfl, h1, hc⟩
 ·exact .inl h
 ·refine .inr ⟨b, off, cap, hS, rfl, h1, fun i hi => ?_⟩;obtain ⟨cs, h2, h3⟩ := hc i hi;refine ⟨cs, sh.keep h2 hk, fun j u hj => ?_⟩;have h4 := h3 j u hj;rw [← h4];simp only [World.cell?, hk b hS (Zs h4)]
theorem Zt.grow {sh : Qg α} {xs : List α} (h : Zt sh S w v xs) (hg : Zl w w') : Zt sh S w' v xs := h.keep fun b _ hb => hg.block b hb
theorem Zt.but {sh : Qg α} {g : Nat} {xs : List α} (h : Zt sh S w v xs) (hg : Zp g w w') (hn : ¬ S g) : Zt sh S w' v xs := h.keep fun b hS hb => hg.block b hb (by rintro rfl; exact hn hS)
theorem Zt.mono {sh : Qg α} {S' : Nat → Prop} {xs : List α} (h : Zt sh S w v xs) (hS : ∀ b, S b → S' b) : Zt sh S' w v xs := by
 rcases h with h | ⟨b, off, cap, hb, rfl, h1, hc⟩
 ·exact .inl h
 ·exact .inr ⟨b, off, cap, hS b hb, rfl, h1, fun i hi => (hc i hi).imp fun _ x => ⟨sh.mono x.1 hS, x.2⟩⟩
theorem Zt.form {sh : Qg α} {xs : List α} (h : Zt sh S w v xs) : ∃ ao cap, v = .slice ao xs.length cap := by
 rcases h with ⟨ao, cap, rfl, rfl, _⟩ | ⟨b, off, cap, _, rfl, _⟩
 ·exact ⟨ao, cap, rfl⟩
 ·exact ⟨_, cap, rfl⟩
theorem Zt.nil (sh : Qg α) (S : Nat → Prop) (w : World) : Zt sh S w (.slice none 0 0) [] := .inl ⟨none, 0, rfl, rfl, fun _ => rfl⟩
theorem Zt.at {sh : Qg α} {xs : List α} (h : Zt sh S w (.slice ao n cap) xs) (i : Nat) (hi : i < xs.length) :
  ∃ b off, ao = some ⟨b, off, none⟩ ∧ S b ∧ ∃ cs, sh.enc S w xs[i] cs ∧ ∀ (j : Nat) (u : Value), cs[j]? = some u → w.cell? ⟨b, off + i * sh.size + j, none⟩ = some u := by
 rcases h with ⟨_, _, _, rfl, _⟩ | ⟨b, off, cp, hS, h2, h3, h4⟩
 ·simp at hi
 ·cases h2;exact ⟨b, off, rfl, hS, h4 i hi⟩
theorem Zt.caps {sh : Qg α} {xs : List α} (h : Zt sh S w v xs) (hs : 0 < sh.size) : Zt sh (fun b => S b ∧ b < w.heap.size) w v xs := by
 by_cases h0 : xs = []
 ·subst h0;rcases h with h | ⟨b, off, cap, hS, rfl, h1, hc⟩
  ·exact .inl h
  ·exact .inl ⟨_, cap, rfl, rfl, fun h => by cases h⟩
 ·rcases h with ⟨_, _, _, h1, _⟩ | ⟨b, off, cap, hS, h2, h1, hc⟩
  ·exact absurd h1 h0
  ·refine .inr ⟨b, off, cap, ⟨hS, ?_⟩, h2, h1, fun i hi => (hc i hi).imp fun _ x => ⟨sh.cap x.1, x.2⟩⟩;obtain ⟨cs, k1, k2⟩ := hc 0 (List.length_pos_iff.2 h0);have hl := sh.len k1;have := k2 0 cs[0] (List.getElem?_eq_getElem (by omega));exact Zs this
theorem K4 {k : Nat} : ∀ (css : List (List α)) (i j : Nat) (cs : List α), (∀ c ∈ css, c.length = k) → css[i]? = some cs → j < k → css.flatten[i * k + j]? = cs[j]?
 | [], i, j, cs, _, h, _ => by simp at h
 | c :: css, 0, j, cs, hl, h, hj => by
  simp only [List.getElem?_cons_zero, Option.some.injEq] at h;subst h;have := hl c (by simp);rw [List.flatten_cons, Nat.zero_mul, Nat.zero_add, List.getElem?_append_left (by omega)]
 | c :: css, i + 1, j, cs, hl, h, hj => by
  have h1 := hl c (by simp);have ih := K4 css i j cs (fun c hc => hl c (by simp [hc])) (by simpa using h) hj;rw [List.flatten_cons, List.getElem?_append_right (by rw [h1, Nat.add_mul]; omega), h1, ← ih]
  congr 1
  rw [Nat.add_mul]; omega
structure Yv {α : Type} (sh : Qg α) (S0 : Nat → Prop) (B : Nat) (v : Value) (xs : List α) (css : List (List Value)) (w : World) : Prop where
 len : css.length = xs.length
 each : ∀ i (hi : i < xs.length), ∃ cs, css[i]? = some cs ∧ sh.enc (InS S0 B w) w xs[i] cs
 row : w.ownsRow B sh.T sh.size v xs.length css.flatten
theorem Yv.nil (sh : Qg α) (S0 : Nat → Prop) (B : Nat) (w : World) : Yv sh S0 B (.slice none 0 0) [] [] w := ⟨rfl, fun i hi => by simp at hi, World.ownsRow_nil _ _ _ _⟩
theorem Yv.grow {sh : Qg α} {xs : List α} (h : Yv sh S0 B v xs css w) (hg : Zl w w') : Yv sh S0 B v xs css w' :=
 ⟨h.len, fun i hi => (h.each i hi).imp fun _ x => ⟨x.1, sh.mono (sh.keep x.2 fun b _ hb => hg.block b hb) (InS.grow hg)⟩, Z7 h.row hg⟩
theorem Yv.form {sh : Qg α} {xs : List α} (h : Yv sh S0 B v xs css w) : ∃ ao cap, v = .slice ao xs.length cap := X8 h.row
theorem Yv.slice {sh : Qg α} {xs : List α} (h : Yv sh S0 B v xs css w) : Zt sh (Z2 S0 B) w v xs := by
 have hlen : ∀ c ∈ css, c.length = sh.size := by
  intro c hc;obtain ⟨i, hi, rfl⟩ := List.mem_iff_getElem.1 hc;obtain ⟨cs, k1, k2⟩ := h.each i (by rw [← h.len]; exact hi);rw [List.getElem?_eq_getElem hi] at k1;cases k1;exact sh.len k2
 rcases h.row.2 with ⟨rfl, h0⟩ | ⟨q, cap, cur, rfl, hb, hh, k1, k2, k3, k4⟩
 ·exact .inl ⟨none, 0, rfl, List.eq_nil_of_length_eq_zero h0, fun _ => rfl⟩
 ·refine .inr ⟨q, 0, cap, .inr hb, rfl, k1, fun i hi => ?_⟩;obtain ⟨cs, e1, e2⟩ := h.each i hi;refine ⟨cs, sh.mono e2 InS.upon, fun j u hj => ?_⟩;have hjl : j < sh.size := by rw [← sh.len e2]; exact (List.getElem?_eq_some_iff.1 hj).1
  have hij : i * sh.size + j < xs.length * sh.size := by
   have : (i + 1) * sh.size ≤ xs.length * sh.size := Nat.mul_le_mul_right _ hi;rw [Nat.add_mul] at this; omega
  have c0 := h.row.cellAt (i * sh.size + j) hij;rw [Nat.zero_add, c0, K4 css i j cs hlen e1 hjl, hj]
theorem Qr (_hown : w.ownsRow B e size v n us) (hg : (w.alloc o).grownBy w3 v.ownBlock) (hne : some b ≠ v.ownBlock) (hb : b < w.heap.size) : w3.heap[b]? = w.heap[b]? :=
 (hg.block _ (by simp; omega) hne).trans ((Zb w o).block _ hb)
theorem Zr0 {T : TypeId} {c f} (h : w.ownsRow B e size v n us) (hne : e ≠ T) (hb : w.heap[b]? = some (.cells c T f)) : some b ≠ v.ownBlock := by
 rcases h.2 with ⟨rfl, _⟩ | ⟨q, cap, cur, rfl, _, hq, _⟩
 ·simp [Value.ownBlock]
 ·intro e1;simp [Value.ownBlock] at e1;subst e1;rw [hb] at hq; cases hq; exact hne rfl
theorem Jq (h : w.ownsRow B e size v n us) (hb : b < B) : some b ≠ v.ownBlock := fun e1 => by
 have := (h.lt b e1.symm).1; omega
theorem Zwe (h : w.ownsRow B e size v n us) (hb : w.heap.size ≤ b) : some b ≠ v.ownBlock := fun e1 => by
 have := (h.lt b e1.symm).2; omega
theorem Zic (hown : w.ownsRow B e size v n us) (hT : e ≠ 5) (hS0 : ∀ b, S0 b → b < B) (hg : (w.alloc o).grownBy w3 v.ownBlock) : ∀ b, InS S0 B w b → b < w.heap.size → w3.heap[b]? = w.heap[b]? := by
 intro b hb hlt;refine Qr hown hg ?_ hlt;rcases hb with h | ⟨_, c, f, h⟩
 ·exact Jq hown (hS0 b h)
 ·exact Zr0 hown hT h
theorem Zxs (hown : w.ownsRow B e size v n us) (hT : e ≠ 5) (hS0 : ∀ b, S0 b → b < B) (hg : (w.alloc o).grownBy w3 v.ownBlock) : ∀ b, InS S0 B w b → InS S0 B w3 b := fun b h =>
 Xk h (fun x => x) fun ⟨k1, c, f, k2⟩ => ⟨k1, c, f, (Zic hown hT hS0 hg b h (Za k2)).trans k2⟩
theorem Yv.step {sh : Qg α} {v' : Value} {xs : List α} {x : α} {cs : List Value} {w3 : World} {o : Obj} (h : Yv sh S0 B v xs css w) (hT : sh.T ≠ 5) (hS0 : ∀ b, S0 b → b < B) (hx : sh.enc (InS S0 B w) w x cs)
  (hg : (w.alloc o).grownBy w3 v.ownBlock) (hown : w3.ownsRow B sh.T sh.size v' (xs.length + 1) (css.flatten ++ cs)) : Yv sh S0 B v' (xs ++ [x]) (css ++ [cs]) w3 := by
 have hk := Zic (S0 := S0) h.row hT hS0 hg;have hm := Zxs (S0 := S0) h.row hT hS0 hg;refine ⟨by simp [h.len], fun i hi => ?_, by simpa using hown⟩;by_cases hi2 : i < xs.length
 ·obtain ⟨y, h1, h2⟩ := h.each i hi2;refine ⟨y, by rw [List.getElem?_append_left (by rw [h.len]; exact hi2)]; exact h1, ?_⟩;rw [List.getElem_append_left hi2]; exact sh.mono (sh.keep h2 hk) hm
 ·have e : i = xs.length := by simp at hi; omega
  subst e;refine ⟨cs, by rw [← h.len]; simp, ?_⟩;have := sh.mono (sh.keep hx hk) hm;simpa using this
structure Ent where
 rc : Rec
 pair : Int
def Ym : Qg Rec where
 T := 61
 size := 4
 enc S w r cs := ∃ u, cs = [.int .i64 r.kind, .int .i64 r.key, .int .i64 r.ver, u] ∧ Z1 S w u r.data
 len := by rintro S w x cs ⟨u, rfl, _⟩; rfl
 keep := by rintro S w w' x cs ⟨u, rfl, h⟩ hk; exact ⟨u, rfl, h.keeps hk⟩
 mono := by rintro S S' w x cs ⟨u, rfl, h⟩ hS; exact ⟨u, rfl, h.mono hS⟩
 cap := by rintro S w x cs ⟨u, rfl, h⟩; exact ⟨u, rfl, h.caps⟩
 one := by
  rintro S w x cs ⟨u, rfl, h⟩ c hc;simp only [List.mem_cons, List.not_mem_nil, or_false] at hc;rcases hc with rfl | rfl | rfl | rfl
  ·rfl
  ·rfl
  ·rfl
  ·exact h.one
def Y3 : Qg Ent where
 T := 92
 size := 5
 enc S w e cs := ∃ u, cs = [.int .i64 e.rc.kind, .int .i64 e.rc.key, .int .i64 e.rc.ver, u, .int .i64 e.pair] ∧ Z1 S w u e.rc.data
 len := by rintro S w x cs ⟨u, rfl, _⟩; rfl
 keep := by rintro S w w' x cs ⟨u, rfl, h⟩ hk; exact ⟨u, rfl, h.keeps hk⟩
 mono := by rintro S S' w x cs ⟨u, rfl, h⟩ hS; exact ⟨u, rfl, h.mono hS⟩
 cap := by rintro S w x cs ⟨u, rfl, h⟩; exact ⟨u, rfl, h.caps⟩
 one := by
  rintro S w x cs ⟨u, rfl, h⟩ c hc;simp only [List.mem_cons, List.not_mem_nil, or_false] at hc;rcases hc with rfl | rfl | rfl | rfl | rfl
  ·rfl
  ·rfl
  ·rfl
  ·exact h.one
  ·rfl
abbrev Yq := Zt Y3
abbrev Y4 := Zt Ym
theorem Zbq {l : List Ent} (h : Yq S w (.slice ao n cap) l) (i : Nat) (hi : i < l.length) :
  ∃ b off a c, ao = some ⟨b, off, none⟩ ∧ w.cell? ⟨b, off + i * 5, none⟩ = some (.int .i64 l[i].rc.kind) ∧ w.cell? ⟨b, off + i * 5 + 1, none⟩ = some (.int .i64 l[i].rc.key) ∧ w.cell? ⟨b, off + i * 5 + 2, none⟩ = some (.int .i64 l[i].rc.ver) ∧
   w.cell? ⟨b, off + i * 5 + 3, none⟩ = some (.slice a l[i].rc.data.length c) ∧ w.cell? ⟨b, off + i * 5 + 4, none⟩ = some (.int .i64 l[i].pair) ∧ Z1 S w (.slice a l[i].rc.data.length c) l[i].rc.data := by
 obtain ⟨b, off, rfl, _, cs, ⟨u, rfl, hu⟩, hc⟩ := h.at i hi;obtain ⟨a, c, rfl⟩ := hu.form;exact ⟨b, off, a, c, rfl, hc 0 _ rfl, hc 1 _ rfl, hc 2 _ rfl, hc 3 _ rfl, hc 4 _ rfl, hu⟩
theorem Jf {l : List Rec} (h : Y4 S w (.slice ao n cap) l) (i : Nat) (hi : i < l.length) :
  ∃ b off a c, ao = some ⟨b, off, none⟩ ∧ w.cell? ⟨b, off + i * 4, none⟩ = some (.int .i64 l[i].kind) ∧ w.cell? ⟨b, off + i * 4 + 1, none⟩ = some (.int .i64 l[i].key) ∧ w.cell? ⟨b, off + i * 4 + 2, none⟩ = some (.int .i64 l[i].ver) ∧
   w.cell? ⟨b, off + i * 4 + 3, none⟩ = some (.slice a l[i].data.length c) ∧ Z1 S w (.slice a l[i].data.length c) l[i].data := by
 obtain ⟨b, off, rfl, _, cs, ⟨u, rfl, hu⟩, hc⟩ := h.at i hi;obtain ⟨a, c, rfl⟩ := hu.form;exact ⟨b, off, a, c, rfl, hc 0 _ rfl, hc 1 _ rfl, hc 2 _ rfl, hc 3 _ rfl, hu⟩
theorem Za7 : (Tryz.prog.info? 92).map (fun i => (i.zero, i.size, i.bytes)) = some (some (.agg #[.int .i64 0, .int .i64 0, .int .i64 0, .slice none 0 0, .int .i64 0]), 5, 56) := by kernel_rfl
theorem V6 (w : World) (x y z u t : Value) (e : TypeId) (j : Nat) (c : Value) (h : [x, y, z, u, t][j]? = some c) : (w.alloc (.cells #[x, y, z, u, t] e)).cell? ((⟨w.heap.size, 0, none⟩ : Addr).add j) = some c := by
 match j, h with
 | 0, h => simp at h; subst h; simp [Addr.add]
 | 1, h => simp at h; subst h; simp [Addr.add]
 | 2, h => simp at h; subst h; simp [Addr.add]
 | 3, h => simp at h; subst h; simp [Addr.add]
 | 4, h => simp at h; subst h; simp [Addr.add]
 | j + 5, h => simp at h
end Go.Proofs.YtpdnapbchcdhlacGreat
