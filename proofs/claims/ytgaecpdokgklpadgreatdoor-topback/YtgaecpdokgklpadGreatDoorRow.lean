import Derived.Test.YtgaecpdokgklpadGreatDoorDk
set_option maxHeartbeats 8000000
namespace Go.Proofs.YtgaecpdokgklpadGreatDoor
set_option maxRecDepth 100000
open Go.RowKit
open Plain Reg
structure Qb (α : Type) where
 T : TypeId
 size : Nat
 enc : (Nat → Prop) → World → α → List Value → Prop
 len : ∀ {S : Nat → Prop} {w : World} {x : α} {cs : List Value}, enc S w x cs → cs.length = size
 keep : ∀ {S : Nat → Prop} {w w' : World} {x : α} {cs : List Value}, enc S w x cs → (∀ b, S b → b < w.heap.size → w'.heap[b]? = w.heap[b]?) → enc S w' x cs
 mono : ∀ {S S' : Nat → Prop} {w : World} {x : α} {cs : List Value}, enc S w x cs → (∀ b, S b → S' b) → enc S' w x cs
 cap : ∀ {S : Nat → Prop} {w : World} {x : α} {cs : List Value}, enc S w x cs → enc (fun b => S b ∧ b < w.heap.size) w x cs
 one : ∀ {S : Nat → Prop} {w : World} {x : α} {cs : List Value}, enc S w x cs → ∀ u ∈ cs, u.oneCell' = true
theorem Z5.keeps {S : Nat → Prop} {w w' : World} {v : Value} {l : List UInt8} (h : Z5 S w v l) (hk : ∀ b, S b → b < w.heap.size → w'.heap[b]? = w.heap[b]?) : Z5 S w' v l := by
 rcases h with h | ⟨b, off, cap, hS, rfl, h1, hc⟩
 ·exact .inl h
 ·refine .inr ⟨b, off, cap, hS, rfl, h1, fun i hi => ?_⟩;have h2 := hc i hi;rw [← h2];simp only [World.cell?, hk b hS (Zu h2)]
theorem Z5.caps {S : Nat → Prop} {w : World} {v : Value} {l : List UInt8} (h : Z5 S w v l) : Z5 (fun b => S b ∧ b < w.heap.size) w v l := by
 by_cases h0 : l = []
 ·subst h0;rcases h with h | ⟨b, off, cap, hS, rfl, h1, hc⟩
  ·exact .inl h
  ·exact .inl ⟨_, cap, rfl, rfl, fun h => by cases h⟩
 ·rcases h with ⟨_, _, _, h1, _⟩ | ⟨b, off, cap, hS, h2, h1, hc⟩
  ·exact absurd h1 h0
  ·exact .inr ⟨b, off, cap, ⟨hS, Zu (hc 0 (List.length_pos_iff.2 h0))⟩, h2, h1, hc⟩
theorem Z5.form {S : Nat → Prop} {w : World} {v : Value} {l : List UInt8} (h : Z5 S w v l) : ∃ ao cap, v = .slice ao l.length cap := by
 rcases h with ⟨ao, cap, rfl, rfl, _⟩ | ⟨b, off, cap, _, rfl, _⟩
 ·exact ⟨ao, cap, rfl⟩
 ·exact ⟨_, cap, rfl⟩
theorem Z5.one {S : Nat → Prop} {w : World} {v : Value} {l : List UInt8} (h : Z5 S w v l) : v.oneCell' = true := by
 obtain ⟨ao, cap, rfl⟩ := h.form; rfl
def Zy {α : Type} (sh : Qb α) (S : Nat → Prop) (w : World) (v : Value) (xs : List α) : Prop :=
 (∃ ao cap, v = .slice ao 0 cap ∧ xs = [] ∧ (ao = none → cap = 0)) ∨
 (∃ b off cap, S b ∧ v = .slice (some ⟨b, off, none⟩) xs.length cap ∧ xs.length ≤ cap ∧ ∀ (i : Nat) (h : i < xs.length), ∃ cs, sh.enc S w xs[i] cs ∧ ∀ (j : Nat) (u : Value), cs[j]? = some u → w.cell? ⟨b, off + i * sh.size + j, none⟩ = some u)
theorem Zy.keep {α : Type} {sh : Qb α} {S : Nat → Prop} {w w' : World} {v : Value} {xs : List α} (h : Zy sh S w v xs) (hk : ∀ b, S b → b < w.heap.size → w'.heap[b]? = w.heap[b]?) : Zy sh S w' v xs := by
 rcases h with h | ⟨b, off, cap, hS, rfl, h1, hc⟩
 ·exact .inl h
 ·refine .inr ⟨b, off, cap, hS, rfl, h1, fun i hi => ?_⟩;obtain ⟨cs, h2, h3⟩ := hc i hi;refine ⟨cs, sh.keep h2 hk, fun j u hj => ?_⟩;have h4 := h3 j u hj;rw [← h4];simp only [World.cell?, hk b hS (Zu h4)]
theorem Zy.grow {α : Type} {sh : Qb α} {S : Nat → Prop} {w w' : World} {v : Value} {xs : List α} (h : Zy sh S w v xs) (hg : Zj w w') : Zy sh S w' v xs := h.keep fun b _ hb => hg.block b hb
theorem Zy.but {α : Type} {sh : Qb α} {S : Nat → Prop} {g : Nat} {w w' : World} {v : Value} {xs : List α} (h : Zy sh S w v xs) (hg : Zp g w w') (hn : ¬ S g) : Zy sh S w' v xs := h.keep fun b hS hb => hg.block b hb (by rintro rfl; exact hn hS)
theorem Zy.mono {α : Type} {sh : Qb α} {S S' : Nat → Prop} {w : World} {v : Value} {xs : List α} (h : Zy sh S w v xs) (hS : ∀ b, S b → S' b) : Zy sh S' w v xs := by
 rcases h with h | ⟨b, off, cap, hb, rfl, h1, hc⟩
 ·exact .inl h
 ·exact .inr ⟨b, off, cap, hS b hb, rfl, h1, fun i hi => (hc i hi).imp fun _ x => ⟨sh.mono x.1 hS, x.2⟩⟩
theorem Zy.form {α : Type} {sh : Qb α} {S : Nat → Prop} {w : World} {v : Value} {xs : List α} (h : Zy sh S w v xs) : ∃ ao cap, v = .slice ao xs.length cap := by
 rcases h with ⟨ao, cap, rfl, rfl, _⟩ | ⟨b, off, cap, _, rfl, _⟩
 ·exact ⟨ao, cap, rfl⟩
 ·exact ⟨_, cap, rfl⟩
theorem Zy.at {α : Type} {sh : Qb α} {S : Nat → Prop} {w : World} {ao : Option Addr} {n cap : Nat} {xs : List α} (h : Zy sh S w (.slice ao n cap) xs) (i : Nat) (hi : i < xs.length) :
  ∃ b off, ao = some ⟨b, off, none⟩ ∧ S b ∧ ∃ cs, sh.enc S w xs[i] cs ∧ ∀ (j : Nat) (u : Value), cs[j]? = some u → w.cell? ⟨b, off + i * sh.size + j, none⟩ = some u := by
 rcases h with ⟨_, _, _, rfl, _⟩ | ⟨b, off, cp, hS, h2, h3, h4⟩
 ·simp at hi
 ·cases h2;exact ⟨b, off, rfl, hS, h4 i hi⟩
theorem Zy.caps {α : Type} {sh : Qb α} {S : Nat → Prop} {w : World} {v : Value} {xs : List α} (h : Zy sh S w v xs) (hs : 0 < sh.size) : Zy sh (fun b => S b ∧ b < w.heap.size) w v xs := by
 by_cases h0 : xs = []
 ·subst h0;rcases h with h | ⟨b, off, cap, hS, rfl, h1, hc⟩
  ·exact .inl h
  ·exact .inl ⟨_, cap, rfl, rfl, fun h => by cases h⟩
 ·rcases h with ⟨_, _, _, h1, _⟩ | ⟨b, off, cap, hS, h2, h1, hc⟩
  ·exact absurd h1 h0
  ·refine .inr ⟨b, off, cap, ⟨hS, ?_⟩, h2, h1, fun i hi => (hc i hi).imp fun _ x => ⟨sh.cap x.1, x.2⟩⟩;obtain ⟨cs, k1, k2⟩ := hc 0 (List.length_pos_iff.2 h0);have hl := sh.len k1;have := k2 0 cs[0] (List.getElem?_eq_getElem (by omega));exact Zu this
theorem Jg {α : Type} {k : Nat} : ∀ (css : List (List α)) (i j : Nat) (cs : List α), (∀ c ∈ css, c.length = k) → css[i]? = some cs → j < k → css.flatten[i * k + j]? = cs[j]?
 | [], i, j, cs, _, h, _ => by simp at h
 | c :: css, 0, j, cs, hl, h, hj => by
  simp only [List.getElem?_cons_zero, Option.some.injEq] at h;subst h;have := hl c (by simp);rw [List.flatten_cons, Nat.zero_mul, Nat.zero_add, List.getElem?_append_left (by omega)]
 | c :: css, i + 1, j, cs, hl, h, hj => by
  have h1 := hl c (by simp);have ih := Jg css i j cs (fun c hc => hl c (by simp [hc])) (by simpa using h) hj;rw [List.flatten_cons, List.getElem?_append_right (by rw [h1, Nat.add_mul]; omega), h1, ← ih]
  congr 1
  rw [Nat.add_mul]; omega
structure Yq {α : Type} (sh : Qb α) (S0 : Nat → Prop) (B : Nat) (v : Value) (xs : List α) (css : List (List Value)) (w : World) : Prop where
 len : css.length = xs.length
 each : ∀ i (hi : i < xs.length), ∃ cs, css[i]? = some cs ∧ sh.enc (InS S0 B w) w xs[i] cs
 row : w.ownsRow B sh.T sh.size v xs.length css.flatten
theorem Yq.nil {α : Type} (sh : Qb α) (S0 : Nat → Prop) (B : Nat) (w : World) : Yq sh S0 B (.slice none 0 0) [] [] w := ⟨rfl, fun i hi => by simp at hi, World.ownsRow_nil _ _ _ _⟩
theorem Yq.grow {α : Type} {sh : Qb α} {S0 : Nat → Prop} {B : Nat} {v : Value} {xs : List α} {css : List (List Value)} {w w' : World} (h : Yq sh S0 B v xs css w) (hg : Zj w w') : Yq sh S0 B v xs css w' :=
 ⟨h.len, fun i hi => (h.each i hi).imp fun _ x => ⟨x.1, sh.mono (sh.keep x.2 fun b _ hb => hg.block b hb) (InS.grow hg)⟩, Z8 h.row hg⟩
theorem Yq.form {α : Type} {sh : Qb α} {S0 : Nat → Prop} {B : Nat} {v : Value} {xs : List α} {css : List (List Value)} {w : World} (h : Yq sh S0 B v xs css w) : ∃ ao cap, v = .slice ao xs.length cap := Qw h.row
theorem Yq.slice {α : Type} {sh : Qb α} {S0 : Nat → Prop} {B : Nat} {v : Value} {xs : List α} {css : List (List Value)} {w : World} (h : Yq sh S0 B v xs css w) : Zy sh (Z0 S0 B) w v xs := by
 have hlen : ∀ c ∈ css, c.length = sh.size := by
  intro c hc;obtain ⟨i, hi, rfl⟩ := List.mem_iff_getElem.1 hc;obtain ⟨cs, k1, k2⟩ := h.each i (by rw [← h.len]; exact hi);rw [List.getElem?_eq_getElem hi] at k1;cases k1;exact sh.len k2
 rcases h.row.2 with ⟨rfl, h0⟩ | ⟨q, cap, cur, rfl, hb, hh, k1, k2, k3, k4⟩
 ·exact .inl ⟨none, 0, rfl, List.eq_nil_of_length_eq_zero h0, fun _ => rfl⟩
 ·refine .inr ⟨q, 0, cap, .inr hb, rfl, k1, fun i hi => ?_⟩;obtain ⟨cs, e1, e2⟩ := h.each i hi;refine ⟨cs, sh.mono e2 InS.upon, fun j u hj => ?_⟩;have hjl : j < sh.size := by rw [← sh.len e2]; exact (List.getElem?_eq_some_iff.1 hj).1
  have hij : i * sh.size + j < xs.length * sh.size := by
   have : (i + 1) * sh.size ≤ xs.length * sh.size := Nat.mul_le_mul_right _ hi;rw [Nat.add_mul] at this; omega
  have c0 := h.row.cellAt (i * sh.size + j) hij;rw [Nat.zero_add, c0, Jg css i j cs hlen e1 hjl, hj]
theorem Vi {B n size b : Nat} {e : TypeId} {v : Value} {us : List Value} {w w3 : World} {o : Obj} (_hown : w.ownsRow B e size v n us) (hg : (w.alloc o).grownBy w3 v.ownBlock) (hne : some b ≠ v.ownBlock) (hb : b < w.heap.size) : w3.heap[b]? = w.heap[b]? :=
 (hg.block _ (by simp; omega) hne).trans ((Zd w o).block _ hb)
theorem Ztf {B n size b : Nat} {e T : TypeId} {v : Value} {us : List Value} {w : World} {c f} (h : w.ownsRow B e size v n us) (hne : e ≠ T) (hb : w.heap[b]? = some (.cells c T f)) : some b ≠ v.ownBlock := by
 rcases h.2 with ⟨rfl, _⟩ | ⟨q, cap, cur, rfl, _, hq, _⟩
 ·simp [Value.ownBlock]
 ·intro e1;simp [Value.ownBlock] at e1;subst e1;rw [hb] at hq; cases hq; exact hne rfl
theorem Zbh {B n size b : Nat} {e : TypeId} {v : Value} {us : List Value} {w : World} (h : w.ownsRow B e size v n us) (hb : b < B) : some b ≠ v.ownBlock := fun e1 => by
 have := (h.lt b e1.symm).1; omega
theorem Zph {S0 : Nat → Prop} {B n size : Nat} {e : TypeId} {v : Value} {us : List Value} {w w3 : World} {o : Obj} (hown : w.ownsRow B e size v n us) (hT : e ≠ 5) (hS0 : ∀ b, S0 b → b < B) (hg : (w.alloc o).grownBy w3 v.ownBlock) : ∀ b, InS S0 B w b → b < w.heap.size → w3.heap[b]? = w.heap[b]? := by
 intro b hb hlt;refine Vi hown hg ?_ hlt;rcases hb with h | ⟨_, c, f, h⟩
 ·exact Zbh hown (hS0 b h)
 ·exact Ztf hown hT h
theorem Zzh {S0 : Nat → Prop} {B n size : Nat} {e : TypeId} {v : Value} {us : List Value} {w w3 : World} {o : Obj} (hown : w.ownsRow B e size v n us) (hT : e ≠ 5) (hS0 : ∀ b, S0 b → b < B) (hg : (w.alloc o).grownBy w3 v.ownBlock) : ∀ b, InS S0 B w b → InS S0 B w3 b := fun b h =>
 Xn h (fun x => x) fun ⟨k1, c, f, k2⟩ => ⟨k1, c, f, (Zph hown hT hS0 hg b h (Za k2)).trans k2⟩
theorem Yq.step {α : Type} {sh : Qb α} {S0 : Nat → Prop} {B : Nat} {v v' : Value} {xs : List α} {x : α} {css : List (List Value)} {cs : List Value} {w w3 : World} {o : Obj} (h : Yq sh S0 B v xs css w) (hT : sh.T ≠ 5) (hS0 : ∀ b, S0 b → b < B) (hx : sh.enc (InS S0 B w) w x cs)
  (hg : (w.alloc o).grownBy w3 v.ownBlock) (hown : w3.ownsRow B sh.T sh.size v' (xs.length + 1) (css.flatten ++ cs)) : Yq sh S0 B v' (xs ++ [x]) (css ++ [cs]) w3 := by
 have hk := Zph (S0 := S0) h.row hT hS0 hg;have hm := Zzh (S0 := S0) h.row hT hS0 hg;refine ⟨by simp [h.len], fun i hi => ?_, by simpa using hown⟩;by_cases hi2 : i < xs.length
 ·obtain ⟨y, h1, h2⟩ := h.each i hi2;refine ⟨y, by rw [List.getElem?_append_left (by rw [h.len]; exact hi2)]; exact h1, ?_⟩;rw [List.getElem_append_left hi2]; exact sh.mono (sh.keep h2 hk) hm
 ·have e : i = xs.length := by simp at hi; omega
  subst e;refine ⟨cs, by rw [← h.len]; simp, ?_⟩;have := sh.mono (sh.keep hx hk) hm;simpa using this
structure Ent where
 rc : Rec
 pair : Int
def Yh : Qb Rec where
 T := 49
 size := 4
 enc S w r cs := ∃ u, cs = [.int .i64 r.kind, .int .i64 r.key, .int .i64 r.ver, u] ∧ Z5 S w u r.data
 len := by rintro S w x cs ⟨u, rfl, _⟩; rfl
 keep := by rintro S w w' x cs ⟨u, rfl, h⟩ hk; exact ⟨u, rfl, h.keeps hk⟩
 mono := by rintro S S' w x cs ⟨u, rfl, h⟩ hS; exact ⟨u, rfl, h.mono hS⟩
 cap := by rintro S w x cs ⟨u, rfl, h⟩; exact ⟨u, rfl, h.caps⟩
 one := by
  rintro S w x cs ⟨u, rfl, h⟩ c hc;simp only [List.mem_cons, List.not_mem_nil, or_false] at hc;rcases hc with rfl | rfl | rfl | rfl
  ·rfl
  ·rfl
  ·rfl
  ·exact h.one
def Yy : Qb Ent where
 T := 61
 size := 5
 enc S w e cs := ∃ u, cs = [.int .i64 e.rc.kind, .int .i64 e.rc.key, .int .i64 e.rc.ver, u, .int .i64 e.pair] ∧ Z5 S w u e.rc.data
 len := by rintro S w x cs ⟨u, rfl, _⟩; rfl
 keep := by rintro S w w' x cs ⟨u, rfl, h⟩ hk; exact ⟨u, rfl, h.keeps hk⟩
 mono := by rintro S S' w x cs ⟨u, rfl, h⟩ hS; exact ⟨u, rfl, h.mono hS⟩
 cap := by rintro S w x cs ⟨u, rfl, h⟩; exact ⟨u, rfl, h.caps⟩
 one := by
  rintro S w x cs ⟨u, rfl, h⟩ c hc;simp only [List.mem_cons, List.not_mem_nil, or_false] at hc;rcases hc with rfl | rfl | rfl | rfl | rfl
  ·rfl
  ·rfl
  ·rfl
  ·exact h.one
  ·rfl
abbrev Ys := Zy Yy
abbrev Qm := Zy Yh
theorem Zb6 {S : Nat → Prop} {w : World} {ao : Option Addr} {n cap : Nat} {l : List Ent} (h : Ys S w (.slice ao n cap) l) (i : Nat) (hi : i < l.length) :
  ∃ b off a c, ao = some ⟨b, off, none⟩ ∧ w.cell? ⟨b, off + i * 5, none⟩ = some (.int .i64 l[i].rc.kind) ∧ w.cell? ⟨b, off + i * 5 + 1, none⟩ = some (.int .i64 l[i].rc.key) ∧ w.cell? ⟨b, off + i * 5 + 2, none⟩ = some (.int .i64 l[i].rc.ver) ∧
   w.cell? ⟨b, off + i * 5 + 3, none⟩ = some (.slice a l[i].rc.data.length c) ∧ w.cell? ⟨b, off + i * 5 + 4, none⟩ = some (.int .i64 l[i].pair) ∧ Z5 S w (.slice a l[i].rc.data.length c) l[i].rc.data := by
 obtain ⟨b, off, rfl, _, cs, ⟨u, rfl, hu⟩, hc⟩ := h.at i hi;obtain ⟨a, c, rfl⟩ := hu.form;exact ⟨b, off, a, c, rfl, hc 0 _ rfl, hc 1 _ rfl, hc 2 _ rfl, hc 3 _ rfl, hc 4 _ rfl, hu⟩
theorem Jt {S : Nat → Prop} {w : World} {ao : Option Addr} {n cap : Nat} {l : List Rec} (h : Qm S w (.slice ao n cap) l) (i : Nat) (hi : i < l.length) :
  ∃ b off a c, ao = some ⟨b, off, none⟩ ∧ w.cell? ⟨b, off + i * 4, none⟩ = some (.int .i64 l[i].kind) ∧ w.cell? ⟨b, off + i * 4 + 1, none⟩ = some (.int .i64 l[i].key) ∧ w.cell? ⟨b, off + i * 4 + 2, none⟩ = some (.int .i64 l[i].ver) ∧
   w.cell? ⟨b, off + i * 4 + 3, none⟩ = some (.slice a l[i].data.length c) ∧ Z5 S w (.slice a l[i].data.length c) l[i].data := by
 obtain ⟨b, off, rfl, _, cs, ⟨u, rfl, hu⟩, hc⟩ := h.at i hi;obtain ⟨a, c, rfl⟩ := hu.form;exact ⟨b, off, a, c, rfl, hc 0 _ rfl, hc 1 _ rfl, hc 2 _ rfl, hc 3 _ rfl, hu⟩
theorem Zdl : (Tryz.prog.info? 61).map (fun i => (i.zero, i.size, i.bytes)) = some (some (.agg #[.int .i64 0, .int .i64 0, .int .i64 0, .slice none 0 0, .int .i64 0]), 5, 56) := by kernel_rfl
theorem Zh1 (w : World) (x y z u t : Value) (e : TypeId) (j : Nat) (c : Value) (h : [x, y, z, u, t][j]? = some c) : (w.alloc (.cells #[x, y, z, u, t] e)).cell? ((⟨w.heap.size, 0, none⟩ : Addr).add j) = some c := by
 match j, h with
 | 0, h => simp at h; subst h; simp [Addr.add]
 | 1, h => simp at h; subst h; simp [Addr.add]
 | 2, h => simp at h; subst h; simp [Addr.add]
 | 3, h => simp at h; subst h; simp [Addr.add]
 | 4, h => simp at h; subst h; simp [Addr.add]
 | j + 5, h => simp at h
def Y3 (a b : Ent) : Bool := if a.rc.key = b.rc.key then (if a.rc.ver = b.rc.ver then decide (a.pair < b.pair) else decide (a.rc.ver < b.rc.ver)) else decide (a.rc.key < b.rc.key)
def Vw (e : Ent) (st : List Ent × Bool) (x : Ent) : List Ent × Bool := if st.2 = false ∧ Y3 e x = true then (st.1 ++ [e] ++ [x], true) else (st.1 ++ [x], st.2)
def Zpg (e : Ent) (l : List Ent) : List Ent × Bool := l.foldl (Vw e) ([], false)
def Qh (e : Ent) (l : List Ent) : List Ent := if (Zpg e l).2 = true then (Zpg e l).1 else (Zpg e l).1 ++ [e]
theorem Zbo {P : Program} {w w2 : World} {o : Oper} {ev : Operand → Value} {v' : Value} (s x : Operand) (t : TypeId) (ho : o.op = .call { callee := .builtin .append, args := #[s, x], argTypes := #[t, t] }) (v u : Value) (hs : ev s = v) (hx : ev x = u)
  (hr : (Builtin.append_ #[t, t] o.type #[v, u]).run P w = .ok v' w2) : (execOp ev o).run P w = .ok (.value v') w2 := by
 unfold execOp;simp only [ho, resolve, invoke, builtin, Sem.run_bind, Sem.run_pure, Result.andThen_ok, List.map_toArray, List.map_cons, List.map_nil, hs, hx, hr]
def Rec.free : Rec := ⟨1, 0, 0, []⟩
def Yk (d : Dk) (a : Int) : List UInt8 := (d.get a).getD []
def Qa (d : Dk) (a : Int) : Int := Vm (Yk d a) a
def Z7 (d : Dk) (a : Int) : Rec := if Qa d a = 0 then Y8 (Yk d a) a else Rec.free
def Xi (d : Dk) (a : Int) : Int := if Qa d a = 0 then 0 else 1
def Y7 (d : Dk) (a : Int) : Int := if (Z7 d a).kind = 1 then 0 else 1
theorem K3 (d : Dk) (a : Int) : 0 ≤ Xi d a ∧ Xi d a ≤ 1 := by unfold Xi; split <;> omega
theorem Zc7 (d : Dk) (a : Int) : 0 ≤ Y7 d a ∧ Y7 d a ≤ 1 := by unfold Y7; split <;> omega
def Jh (d : Dk) (p : Int) : Rec := if (Z7 d (2 * p)).kind = 1 then Z7 d (2 * p + 1) else Z7 d (2 * p)
def Dk.noPair (d : Dk) (p : Int) : Bool := decide (p < 0 ∨ ((d.blocks.length / 2 : Nat) : Int) ≤ p)
def Dk.how (d : Dk) (p : Int) : Int :=
 if d.noPair p = true then 4 else if Y7 d (2 * p) + Y7 d (2 * p + 1) = 2 then (if Ks (Z7 d (2 * p)) (Z7 d (2 * p + 1)) = true then 1 else 5)
 else if Y7 d (2 * p) + Y7 d (2 * p + 1) = 1 then 2 else if Xi d (2 * p) + Xi d (2 * p + 1) = 0 then 0 else if Xi d (2 * p) + Xi d (2 * p + 1) = 1 then 3 else 4
def Dk.tell (d : Dk) (p : Int) : Rec := if d.noPair p = true then Rec.free else if Y7 d (2 * p) + Y7 d (2 * p + 1) = 0 then Rec.free else Jh d p
theorem Zwd (g : Nat) (o : Obj) : X7 (fun _ w => w.heap[g]? = some o) := fun _ _ _ hg h => (hg.block _ (Za h)).trans h
def Dk.mendD (d : Dk) (p : Int) : Dk := if 2 ≤ d.how p then d.pairD p (d.tell p) else d
def Yf (d : Dk) : Nat → List Ent
 | 0 => []
 | n + 1 => if (d.tell (n : Int)).kind = 1 then Yf d n else Qh ⟨d.tell (n : Int), (n : Int)⟩ (Yf d n)
def Zbl (pre : List Ent) (e : Ent) : Bool := match pre.getLast? with | none => true | some x => Y3 x e
def okE (pre : List Ent) (e : Ent) : Bool := decide (Z6 e.rc = 0 ∧ e.rc.kind ≠ 1 ∧ 0 ≤ e.pair ∧ e.pair ≤ 1000) && Zbl pre e && pre.all (fun x => decide (x.pair ≠ e.pair))
def Zae (pre : List Ent) : List Ent → Bool
 | [] => true
 | e :: l => okE pre e && Zae (pre ++ [e]) l
def Xw (l : List Ent) : Bool := Zae [] l
theorem Zji (c : UInt8) : lo (c.toNat : Int) = c := by
 refine UInt8.toNat_inj.1 ?_;have := J6 (c.toNat : Int);have hc : c.toNat < 256 := UInt8.toNat_lt _;omega
theorem Zai (n : Int) (h0 : 0 ≤ n) (h1 : n ≤ 255) : ((lo n).toNat : Int) = n := by rw [J6]; omega
theorem Zxx (x y : UInt8) : hi ((x.toNat : Int) * 256 + (y.toNat : Int)) = x := by
 have hx : x.toNat < 256 := UInt8.toNat_lt _;have hy : y.toNat < 256 := UInt8.toNat_lt _;exact ((Zck x y _ (by omega) (by omega)).1 rfl).1
theorem Zxw (x y : UInt8) : lo ((x.toNat : Int) * 256 + (y.toNat : Int)) = y := by
 have hx : x.toNat < 256 := UInt8.toNat_lt _;have hy : y.toNat < 256 := UInt8.toNat_lt _;exact ((Zck x y _ (by omega) (by omega)).1 rfl).2
theorem Zxg (r : Rec) (a : Int) : at' (blk r a) 0 = lo r.kind := rfl
theorem Zxf (r : Rec) (a : Int) : at' (blk r a) 1 = lo a := rfl
theorem Zxe (r : Rec) (a : Int) : at' (blk r a) 2 = lo r.key := rfl
theorem Zxd (r : Rec) (a : Int) : at' (blk r a) 3 = hi r.ver := rfl
theorem Zxc (r : Rec) (a : Int) : at' (blk r a) 4 = lo r.ver := rfl
theorem Zjz (r : Rec) (a : Int) : at' (blk r a) 5 = lo (r.data.length : Int) := rfl
theorem Zma (r : Rec) (a : Int) : (blk r a).drop 6 = r.data ++ (List.replicate (8 - r.data.length) 0 ++ [hi (Xj (Za8 r a)), lo (Xj (Za8 r a))]) := by
 show (r.data ++ List.replicate (8 - r.data.length) 0) ++ _ = _;rw [List.append_assoc]
theorem Zo6 (r : Rec) (a : Int) (h : Z6 r = 0) : Xt (blk r a) = r := by
 obtain ⟨k0, k1, y0, y1, n0, n1, hl⟩ := Kh h;unfold Xt;rw [Zxg, Zxe, Zxd, Zxc, Zjz, Zma];have e1 := Zai r.kind (by omega) (by omega);have e2 := Zai r.key (by omega) (by omega);have e3 := Zai (r.data.length : Int) (by omega) (by omega);have e4 : ((hi r.ver).toNat : Int) * 256 + ((lo r.ver).toNat : Int) = r.ver := by rw [Zn6, J6]; omega
 have e5 : (lo (r.data.length : Int)).toNat = r.data.length := by omega
 rw [e1, e2, e4, e5, List.take_left' rfl]
theorem Zti (r : Rec) (a : Int) (h : Z6 r = 0) : Y9 (Vt (blk r a)) = true := by
 obtain ⟨k0, k1, y0, y1, n0, n1, hl⟩ := Kh h;have e3 := Zai (r.data.length : Int) (by omega) (by omega);have e5 : (lo (r.data.length : Int)).toNat = r.data.length := by omega
 unfold Vt;rw [Zjz, e5, ← List.drop_drop, Zma, List.drop_left' rfl, List.take_left' (by simp)];unfold Y9;rw [List.all_eq_true];intro c hc;simp [List.eq_of_mem_replicate hc]
theorem Zm5 (r : Rec) (a : Int) (h : Z6 r = 0) (h0 : 0 ≤ a) (h1 : a ≤ 255) : spoilt (blk r a) a = 0 := by
 obtain ⟨k0, k1, y0, y1, n0, n1, hl⟩ := Kh h;have e1 := Zai a h0 h1;have e3 := Zai (r.data.length : Int) (by omega) (by omega);unfold spoilt;rw [if_neg (by rw [Vj r a hl]; simp), if_neg (by unfold blk; rw [Zfr]; simp), if_neg (by rw [Zxf, e1]; simp), if_neg (by rw [Zjz]; omega), if_neg (by rw [Zti r a h]; simp)]
theorem Zkw (r : Rec) (a : Int) (h : Z6 r = 0) (h0 : 0 ≤ a) (h1 : a ≤ 255) : Vm (blk r a) a = 0 ∧ Y8 (blk r a) a = r := by
 have e : Vm (blk r a) a = 0 := by unfold Vm; rw [if_pos (Zm5 r a h h0 h1), Zo6 r a h]; exact h
 refine ⟨e, ?_⟩;unfold Y8;rw [if_pos e, Zo6 r a h]
theorem Zne {b : List UInt8} {a : Int} (h : Vm b a = 0) : spoilt b a = 0 ∧ Z6 (Xt b) = 0 ∧ Y8 b a = Xt b := by
 have hr : Y8 b a = Xt b := by unfold Y8; rw [if_pos h]
 unfold Vm at h;by_cases hs : spoilt b a = 0
 ·rw [if_pos hs] at h; exact ⟨hs, h, hr⟩
 ·rw [if_neg hs] at h; exact absurd h hs
theorem Zxz (b : List UInt8) (a : Int) (hs : spoilt b a = 0) : b.take 14 = Za8 (Xt b) a := by
 obtain ⟨hl, hsl, hp, h8, hn⟩ := Jq hs;have hlen : ((b.drop 6).take (at' b 5).toNat).length = (at' b 5).toNat := by simp; omega
 have hz : Vt b = List.replicate (8 - (at' b 5).toNat) 0 := by
  refine List.eq_replicate_iff.2 ⟨by unfold Vt; simp; omega, fun c hc => ?_⟩;unfold Y9 at hn;have := (List.all_eq_true.1 hn) c hc;simpa using this
 unfold Za8 Xt;simp only [];rw [hlen, Zji, Zji, Zxx, Zxw, Zji, ← hp, Zji, ← hz];have e : b.take 14 = [at' b 0, at' b 1, at' b 2, at' b 3, at' b 4, at' b 5] ++ (b.drop 6).take 8 := by
  match b, hl with
  | [x0, x1, x2, x3, x4, x5, x6, x7, x8, x9, x10, x11, x12, x13, x14, x15], _ => rfl
 rw [e]
 congr 1
 unfold Vt;rw [← List.drop_drop, ← List.take_add]
 congr 1
 omega
theorem Zgz (b : List UInt8) (a : Int) (h : Vm b a = 0) : Z6 (Y8 b a) = 0 ∧ blk (Y8 b a) a = b := by
 obtain ⟨hs, hw, hr⟩ := Zne h;obtain ⟨hl, hsl, -, -, -⟩ := Jq hs;rw [hr];refine ⟨hw, ?_⟩;unfold blk;rw [← Zxz b a hs];have := Znb b (by omega);rw [hsl, hl] at this;exact beq_iff_eq.1 this
theorem Zkv (r : Rec) (a : Int) (n : Nat) (c : UInt8) (h : Z6 r = 0) (hn : n < (blk r a).length) (hne : (blk r a)[n] ≠ c) : Vm ((blk r a).set n c) a = 7 := by
 obtain ⟨k0, k1, y0, y1, n0, n1, hl⟩ := Kh h;have e : spoilt ((blk r a).set n c) a = 7 := by
  have hse : X6 ((blk r a).set n c) = false := Zko (Za8 r a) n c hn hne;unfold spoilt;rw [if_neg (by rw [List.length_set, Vj r a hl]; simp), if_pos hse]
 unfold Vm;rw [e]; rfl
end Go.Proofs.YtgaecpdokgklpadGreatDoor
