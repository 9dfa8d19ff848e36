import Derived.Test.YtpdnapbchcdhlaaRPut
set_option maxHeartbeats 8000000
namespace Go.Proofs.Ytpdnapbchcdhlaa
set_option maxRecDepth 100000
open Go.RowKit
open Plain Reg
variable {B b cap g n : Nat} {S S0 : Nat → Prop} {ao : Option Addr} {css : List (List Value)} {o : Obj} {us : List Value} {v : Value} {w w' w3 : World} {α : Type}
structure Xh (α : Type) where
 T : TypeId
 size : Nat
 enc : (Nat → Prop) → World → α → List Value → Prop
 len : ∀ {S : Nat → Prop} {w : World} {x : α} {cs : List Value}, enc S w x cs → cs.length = size
 keep : ∀ {S : Nat → Prop} {w w' : World} {x : α} {cs : List Value}, enc S w x cs → (∀ b, S b → b < w.heap.size → w'.heap[b]? = w.heap[b]?) → enc S w' x cs
 mono : ∀ {S S' : Nat → Prop} {w : World} {x : α} {cs : List Value}, enc S w x cs → (∀ b, S b → S' b) → enc S' w x cs
 cap : ∀ {S : Nat → Prop} {w : World} {x : α} {cs : List Value}, enc S w x cs → enc (fun b => S b ∧ b < w.heap.size) w x cs
 one : ∀ {S : Nat → Prop} {w : World} {x : α} {cs : List Value}, enc S w x cs → ∀ u ∈ cs, u.oneCell' = true
theorem Z4.keeps {l : List UInt8} (h : Z4 S w v l) (hk : ∀ b, S b → b < w.heap.size → w'.heap[b]? = w.heap[b]?) : Z4 S w' v l := by
 rcases h with h | ⟨b, off, cap, hS, rfl, h1, hc⟩
 ·exact .inl h
 ·refine .inr ⟨b, off, cap, hS, rfl, h1, fun i hi => ?_⟩;have h2 := hc i hi;rw [← h2];simp only [World.cell?, hk b hS (Zn h2)]
theorem Z4.caps {l : List UInt8} (h : Z4 S w v l) : Z4 (fun b => S b ∧ b < w.heap.size) w v l := by
 by_cases h0 : l = []
 ·subst h0;rcases h with h | ⟨b, off, cap, hS, rfl, h1, hc⟩
  ·exact .inl h
  ·exact .inl ⟨_, cap, rfl, rfl, fun h => by cases h⟩
 ·rcases h with ⟨_, _, _, h1, _⟩ | ⟨b, off, cap, hS, h2, h1, hc⟩
  ·exact absurd h1 h0
  ·exact .inr ⟨b, off, cap, ⟨hS, Zn (hc 0 (List.length_pos_iff.2 h0))⟩, h2, h1, hc⟩
theorem Z4.form {l : List UInt8} (h : Z4 S w v l) : ∃ ao cap, v = .slice ao l.length cap := by
 rcases h with ⟨ao, cap, rfl, rfl, _⟩ | ⟨b, off, cap, _, rfl, _⟩
 ·exact ⟨ao, cap, rfl⟩
 ·exact ⟨_, cap, rfl⟩
theorem Z4.one {l : List UInt8} (h : Z4 S w v l) : v.oneCell' = true := by
 obtain ⟨ao, cap, rfl⟩ := h.form; rfl
def Z5 (sh : Xh α) (S : Nat → Prop) (w : World) (v : Value) (xs : List α) : Prop :=
 (∃ ao cap, v = .slice ao 0 cap ∧ xs = [] ∧ (ao = none → cap = 0)) ∨
 (∃ b off cap, S b ∧ v = .slice (some ⟨b, off, none⟩) xs.length cap ∧ xs.length ≤ cap ∧ ∀ (i : Nat) (h : i < xs.length), ∃ cs, sh.enc S w xs[i] cs ∧ ∀ (j : Nat) (u : Value), cs[j]? = some u → w.cell? ⟨b, off + i * sh.size + j, none⟩ = some u)
theorem Z5.keep {sh : Xh α} {xs : List α} (h : Z5 sh S w v xs) (hk : ∀ b, S b → b < w.heap.size → w'.heap[b]? = w.heap[b]?) : Z5 sh S w' v xs := by
 rcases h with h | ⟨b, off, cap, hS, rfl, h1, hc⟩
 ·exact .inl h
 ·refine .inr ⟨b, off, cap, hS, rfl, h1, fun i hi => ?_⟩;obtain ⟨cs, h2, h3⟩ := hc i hi;refine ⟨cs, sh.keep h2 hk, fun j u hj => ?_⟩;have h4 := h3 j u hj;rw [← h4];simp only [World.cell?, hk b hS (Zn h4)]
theorem Z5.grow {sh : Xh α} {xs : List α} (h : Z5 sh S w v xs) (hg : Zm w w') : Z5 sh S w' v xs := h.keep fun b _ hb => hg.block b hb
theorem Z5.but {sh : Xh α} {xs : List α} (h : Z5 sh S w v xs) (hg : Zs g w w') (hn : ¬ S g) : Z5 sh S w' v xs := h.keep fun b hS hb => hg.block b hb (by rintro rfl; exact hn hS)
theorem Z5.mono {sh : Xh α} {S' : Nat → Prop} {xs : List α} (h : Z5 sh S w v xs) (hS : ∀ b, S b → S' b) : Z5 sh S' w v xs := by
 rcases h with h | ⟨b, off, cap, hb, rfl, h1, hc⟩
 ·exact .inl h
 ·exact .inr ⟨b, off, cap, hS b hb, rfl, h1, fun i hi => (hc i hi).imp fun _ x => ⟨sh.mono x.1 hS, x.2⟩⟩
theorem Z5.form {sh : Xh α} {xs : List α} (h : Z5 sh S w v xs) : ∃ ao cap, v = .slice ao xs.length cap := by
 rcases h with ⟨ao, cap, rfl, rfl, _⟩ | ⟨b, off, cap, _, rfl, _⟩
 ·exact ⟨ao, cap, rfl⟩
 ·exact ⟨_, cap, rfl⟩
theorem Z5.nil (sh : Xh α) (S : Nat → Prop) (w : World) : Z5 sh S w (.slice none 0 0) [] := .inl ⟨none, 0, rfl, rfl, fun _ => rfl⟩
theorem Z5.at {sh : Xh α} {xs : List α} (h : Z5 sh S w (.slice ao n cap) xs) (i : Nat) (hi : i < xs.length) :
  ∃ b off, ao = some ⟨b, off, none⟩ ∧ S b ∧ ∃ cs, sh.enc S w xs[i] cs ∧ ∀ (j : Nat) (u : Value), cs[j]? = some u → w.cell? ⟨b, off + i * sh.size + j, none⟩ = some u := by
 rcases h with ⟨_, _, _, rfl, _⟩ | ⟨b, off, cp, hS, h2, h3, h4⟩
 ·simp at hi
 ·cases h2;exact ⟨b, off, rfl, hS, h4 i hi⟩
theorem Z5.sub {sh : Xh α} {off : Nat} {xs : List α} (h : Z5 sh S w (.slice (some ⟨b, off, none⟩) n cap) xs) (lo hi : Nat) (h1 : lo ≤ hi) (h2 : hi ≤ xs.length) (cap' : Nat) (hc : hi - lo ≤ cap') :
  Z5 sh S w (.slice (some ⟨b, off + lo * sh.size, none⟩) (hi - lo) cap') ((xs.drop lo).take (hi - lo)) := by
 have hl : ((xs.drop lo).take (hi - lo)).length = hi - lo := by simp; omega
 by_cases h0 : hi - lo = 0
 ·rw [h0];exact .inl ⟨_, cap', rfl, by simp, fun h => by cases h⟩
 ·rcases h with ⟨_, _, _, rfl, _⟩ | ⟨b', off', cp, hS, h3, h4, h5⟩
  ·simp at h2; omega
  ·cases h3;refine .inr ⟨b, off + lo * sh.size, cap', hS, by rw [hl], by rw [hl]; exact hc, fun i hi2 => ?_⟩;rw [hl] at hi2;obtain ⟨cs, k1, k2⟩ := h5 (lo + i) (by omega);refine ⟨cs, ?_, fun j u hj => ?_⟩
   ·rw [List.getElem_take, List.getElem_drop]; exact k1
   ·have := k2 j u hj;rw [Nat.add_mul] at this;rw [show off + lo * sh.size + i * sh.size + j = off + (lo * sh.size + i * sh.size) + j from by omega];exact this
theorem Z5.caps {sh : Xh α} {xs : List α} (h : Z5 sh S w v xs) (hs : 0 < sh.size) : Z5 sh (fun b => S b ∧ b < w.heap.size) w v xs := by
 by_cases h0 : xs = []
 ·subst h0;rcases h with h | ⟨b, off, cap, hS, rfl, h1, hc⟩
  ·exact .inl h
  ·exact .inl ⟨_, cap, rfl, rfl, fun h => by cases h⟩
 ·rcases h with ⟨_, _, _, h1, _⟩ | ⟨b, off, cap, hS, h2, h1, hc⟩
  ·exact absurd h1 h0
  ·refine .inr ⟨b, off, cap, ⟨hS, ?_⟩, h2, h1, fun i hi => (hc i hi).imp fun _ x => ⟨sh.cap x.1, x.2⟩⟩;obtain ⟨cs, k1, k2⟩ := hc 0 (List.length_pos_iff.2 h0);have hl := sh.len k1;have := k2 0 cs[0] (List.getElem?_eq_getElem (by omega));exact Zn this
theorem Vp {k : Nat} : ∀ (css : List (List α)) (i j : Nat) (cs : List α), (∀ c ∈ css, c.length = k) → css[i]? = some cs → j < k → css.flatten[i * k + j]? = cs[j]?
 | [], i, j, cs, _, h, _ => by simp at h
 | c :: css, 0, j, cs, hl, h, hj => by
  simp only [List.getElem?_cons_zero, Option.some.injEq] at h;subst h;have := hl c (by simp);rw [List.flatten_cons, Nat.zero_mul, Nat.zero_add, List.getElem?_append_left (by omega)]
 | c :: css, i + 1, j, cs, hl, h, hj => by
  have h1 := hl c (by simp);have ih := Vp css i j cs (fun c hc => hl c (by simp [hc])) (by simpa using h) hj;rw [List.flatten_cons, List.getElem?_append_right (by rw [h1, Nat.add_mul]; omega), h1, ← ih]
  congr 1
  rw [Nat.add_mul]; omega
structure Yo {α : Type} (sh : Xh α) (S0 : Nat → Prop) (B : Nat) (v : Value) (xs : List α) (css : List (List Value)) (w : World) : Prop where
 len : css.length = xs.length
 each : ∀ i (hi : i < xs.length), ∃ cs, css[i]? = some cs ∧ sh.enc (InS S0 B w) w xs[i] cs
 row : w.ownsRow B sh.T sh.size v xs.length css.flatten
theorem Yo.nil (sh : Xh α) (S0 : Nat → Prop) (B : Nat) (w : World) : Yo sh S0 B (.slice none 0 0) [] [] w := ⟨rfl, fun i hi => by simp at hi, World.ownsRow_nil _ _ _ _⟩
theorem Yo.grow {sh : Xh α} {xs : List α} (h : Yo sh S0 B v xs css w) (hg : Zm w w') : Yo sh S0 B v xs css w' :=
 ⟨h.len, fun i hi => (h.each i hi).imp fun _ x => ⟨x.1, sh.mono (sh.keep x.2 fun b _ hb => hg.block b hb) (InS.grow hg)⟩, Z9 h.row hg⟩
theorem Yo.form {sh : Xh α} {xs : List α} (h : Yo sh S0 B v xs css w) : ∃ ao cap, v = .slice ao xs.length cap := Yv h.row
theorem Yo.slice {sh : Xh α} {xs : List α} (h : Yo sh S0 B v xs css w) : Z5 sh (Qg S0 B) w v xs := by
 have hlen : ∀ c ∈ css, c.length = sh.size := by
  intro c hc;obtain ⟨i, hi, rfl⟩ := List.mem_iff_getElem.1 hc;obtain ⟨cs, k1, k2⟩ := h.each i (by rw [← h.len]; exact hi);rw [List.getElem?_eq_getElem hi] at k1;cases k1;exact sh.len k2
 rcases h.row.2 with ⟨rfl, h0⟩ | ⟨q, cap, cur, rfl, hb, hh, k1, k2, k3, k4⟩
 ·exact .inl ⟨none, 0, rfl, List.eq_nil_of_length_eq_zero h0, fun _ => rfl⟩
 ·refine .inr ⟨q, 0, cap, .inr hb, rfl, k1, fun i hi => ?_⟩;obtain ⟨cs, e1, e2⟩ := h.each i hi;refine ⟨cs, sh.mono e2 InS.upon, fun j u hj => ?_⟩;have hjl : j < sh.size := by rw [← sh.len e2]; exact (List.getElem?_eq_some_iff.1 hj).1
  have hij : i * sh.size + j < xs.length * sh.size := by
   have : (i + 1) * sh.size ≤ xs.length * sh.size := Nat.mul_le_mul_right _ hi;rw [Nat.add_mul] at this; omega
  have c0 := h.row.cellAt (i * sh.size + j) hij;rw [Nat.zero_add, c0, Vp css i j cs hlen e1 hjl, hj]
theorem Y9 {size : Nat} {e : TypeId} (_hown : w.ownsRow B e size v n us) (hg : (w.alloc o).grownBy w3 v.ownBlock) (hne : some b ≠ v.ownBlock) (hb : b < w.heap.size) : w3.heap[b]? = w.heap[b]? :=
 (hg.block _ (by simp; omega) hne).trans ((Zh w o).block _ hb)
theorem Zhp {size : Nat} {e T : TypeId} {c f} (h : w.ownsRow B e size v n us) (hne : e ≠ T) (hb : w.heap[b]? = some (.cells c T f)) : some b ≠ v.ownBlock := by
 rcases h.2 with ⟨rfl, _⟩ | ⟨q, cap, cur, rfl, _, hq, _⟩
 ·simp [Value.ownBlock]
 ·intro e1;simp [Value.ownBlock] at e1;subst e1;rw [hb] at hq; cases hq; exact hne rfl
theorem Xp {size : Nat} {e : TypeId} (h : w.ownsRow B e size v n us) (hb : b < B) : some b ≠ v.ownBlock := fun e1 => by
 have := (h.lt b e1.symm).1; omega
theorem Zhq {size : Nat} {e : TypeId} (h : w.ownsRow B e size v n us) (hb : w.heap.size ≤ b) : some b ≠ v.ownBlock := fun e1 => by
 have := (h.lt b e1.symm).2; omega
theorem Zbx {size : Nat} {e : TypeId} (hown : w.ownsRow B e size v n us) (hT : e ≠ 5) (hS0 : ∀ b, S0 b → b < B) (hg : (w.alloc o).grownBy w3 v.ownBlock) : ∀ b, InS S0 B w b → b < w.heap.size → w3.heap[b]? = w.heap[b]? := by
 intro b hb hlt;refine Y9 hown hg ?_ hlt;rcases hb with h | ⟨_, c, f, h⟩
 ·exact Xp hown (hS0 b h)
 ·exact Zhp hown hT h
theorem Zlb {size : Nat} {e : TypeId} (hown : w.ownsRow B e size v n us) (hT : e ≠ 5) (hS0 : ∀ b, S0 b → b < B) (hg : (w.alloc o).grownBy w3 v.ownBlock) : ∀ b, InS S0 B w b → InS S0 B w3 b := fun b h =>
 Xj h (fun x => x) fun ⟨k1, c, f, k2⟩ => ⟨k1, c, f, (Zbx hown hT hS0 hg b h (Zg k2)).trans k2⟩
theorem Yo.step {sh : Xh α} {v' : Value} {xs : List α} {x : α} {cs : List Value} {w3 : World} {o : Obj} (h : Yo sh S0 B v xs css w) (hT : sh.T ≠ 5) (hS0 : ∀ b, S0 b → b < B) (hx : sh.enc (InS S0 B w) w x cs)
  (hg : (w.alloc o).grownBy w3 v.ownBlock) (hown : w3.ownsRow B sh.T sh.size v' (xs.length + 1) (css.flatten ++ cs)) : Yo sh S0 B v' (xs ++ [x]) (css ++ [cs]) w3 := by
 have hk := Zbx (S0 := S0) h.row hT hS0 hg;have hm := Zlb (S0 := S0) h.row hT hS0 hg;refine ⟨by simp [h.len], fun i hi => ?_, by simpa using hown⟩;by_cases hi2 : i < xs.length
 ·obtain ⟨y, h1, h2⟩ := h.each i hi2;refine ⟨y, by rw [List.getElem?_append_left (by rw [h.len]; exact hi2)]; exact h1, ?_⟩;rw [List.getElem_append_left hi2]; exact sh.mono (sh.keep h2 hk) hm
 ·have e : i = xs.length := by simp at hi; omega
  subst e;refine ⟨cs, by rw [← h.len]; simp, ?_⟩;have := sh.mono (sh.keep hx hk) hm;simpa using this
structure Ent where
 rc : Rec
 pair : Int
def Zk5 : Xh Rec where
 T := 32
 size := 4
 enc S w r cs := ∃ u, cs = [.int .i64 r.kind, .int .i64 r.key, .int .i64 r.ver, u] ∧ Z4 S w u r.data
 len := by rintro S w x cs ⟨u, rfl, _⟩; rfl
 keep := by rintro S w w' x cs ⟨u, rfl, h⟩ hk; exact ⟨u, rfl, h.keeps hk⟩
 mono := by rintro S S' w x cs ⟨u, rfl, h⟩ hS; exact ⟨u, rfl, h.mono hS⟩
 cap := by rintro S w x cs ⟨u, rfl, h⟩; exact ⟨u, rfl, h.caps⟩
 one := by
  rintro S w x cs ⟨u, rfl, h⟩ c hc;simp only [List.mem_cons, List.not_mem_nil, or_false] at hc;rcases hc with rfl | rfl | rfl | rfl
  ·rfl
  ·rfl
  ·rfl
  ·exact h.one
def Yc : Xh Ent where
 T := 71
 size := 5
 enc S w e cs := ∃ u, cs = [.int .i64 e.rc.kind, .int .i64 e.rc.key, .int .i64 e.rc.ver, u, .int .i64 e.pair] ∧ Z4 S w u e.rc.data
 len := by rintro S w x cs ⟨u, rfl, _⟩; rfl
 keep := by rintro S w w' x cs ⟨u, rfl, h⟩ hk; exact ⟨u, rfl, h.keeps hk⟩
 mono := by rintro S S' w x cs ⟨u, rfl, h⟩ hS; exact ⟨u, rfl, h.mono hS⟩
 cap := by rintro S w x cs ⟨u, rfl, h⟩; exact ⟨u, rfl, h.caps⟩
 one := by
  rintro S w x cs ⟨u, rfl, h⟩ c hc;simp only [List.mem_cons, List.not_mem_nil, or_false] at hc;rcases hc with rfl | rfl | rfl | rfl | rfl
  ·rfl
  ·rfl
  ·rfl
  ·exact h.one
  ·rfl
abbrev Yl := Z5 Yc
theorem X4 {l : List Ent} (h : Yl S w (.slice ao n cap) l) (i : Nat) (hi : i < l.length) :
  ∃ b off a c, ao = some ⟨b, off, none⟩ ∧ w.cell? ⟨b, off + i * 5, none⟩ = some (.int .i64 l[i].rc.kind) ∧ w.cell? ⟨b, off + i * 5 + 1, none⟩ = some (.int .i64 l[i].rc.key) ∧ w.cell? ⟨b, off + i * 5 + 2, none⟩ = some (.int .i64 l[i].rc.ver) ∧
   w.cell? ⟨b, off + i * 5 + 3, none⟩ = some (.slice a l[i].rc.data.length c) ∧ w.cell? ⟨b, off + i * 5 + 4, none⟩ = some (.int .i64 l[i].pair) ∧ Z4 S w (.slice a l[i].rc.data.length c) l[i].rc.data := by
 obtain ⟨b, off, rfl, _, cs, ⟨u, rfl, hu⟩, hc⟩ := h.at i hi;obtain ⟨a, c, rfl⟩ := hu.form;exact ⟨b, off, a, c, rfl, hc 0 _ rfl, hc 1 _ rfl, hc 2 _ rfl, hc 3 _ rfl, hc 4 _ rfl, hu⟩
theorem Vh : (Try.prog.info? 71).map (fun i => (i.zero, i.size, i.bytes)) = some (some (.agg #[.int .i64 0, .int .i64 0, .int .i64 0, .slice none 0 0, .int .i64 0]), 5, 56) := by kernel_rfl
theorem Xk (w : World) (x y z u t : Value) (e : TypeId) (j : Nat) (c : Value) (h : [x, y, z, u, t][j]? = some c) : (w.alloc (.cells #[x, y, z, u, t] e)).cell? ((⟨w.heap.size, 0, none⟩ : Addr).add j) = some c := by
 match j, h with
 | 0, h => simp at h; subst h; simp [Addr.add]
 | 1, h => simp at h; subst h; simp [Addr.add]
 | 2, h => simp at h; subst h; simp [Addr.add]
 | 3, h => simp at h; subst h; simp [Addr.add]
 | 4, h => simp at h; subst h; simp [Addr.add]
 | j + 5, h => simp at h
theorem V8 {e : Ent} {a : Option Addr} {c : Nat} (hg : w.heap[g]? = some (.cells #[.int .i64 e.rc.kind, .int .i64 e.rc.key, .int .i64 e.rc.ver, .slice a e.rc.data.length c, .int .i64 e.pair] 71 (0, 0))) (hb : Z4 (fun b => b < w.heap.size) w (.slice a e.rc.data.length c) e.rc.data) : Yl (fun b => b < w.heap.size) w (.slice (some ⟨g, 0, none⟩) 1 1) [e] := by
 refine .inr ⟨g, 0, 1, Zg hg, rfl, Nat.le_refl _, fun i hi => ?_⟩;obtain rfl : i = 0 := by simpa using hi
 refine ⟨[.int .i64 e.rc.kind, .int .i64 e.rc.key, .int .i64 e.rc.ver, .slice a e.rc.data.length c, .int .i64 e.pair], ⟨_, rfl, hb⟩, fun j u hj => ?_⟩;rw [Nat.zero_mul, Nat.zero_add];refine Zk hg j u ?_;simpa using hj
end Go.Proofs.Ytpdnapbchcdhlaa
