import Derived.Deep.Slices
import Derived.Test.YtpdnapbchcdhlacGreatPairC
set_option maxHeartbeats 8000000
namespace Go.Proofs.YtpdnapbchcdhlacGreat
set_option maxRecDepth 100000
open Go.RowKit Go.Deep
open Plain Reg
variable {B : Nat} {S0 : Nat → Prop} {css : List (List Value)} {v : Value} {w w3 : World} {α : Type}
theorem Zs5 {n size : Nat} {e : TypeId} {us : List Value} (hown : w.ownsRow B e size v n us) (hT : e ≠ 5) (hS0 : ∀ b, S0 b → b < B) (hg : w.grownBy w3 v.ownBlock) : ∀ b, InS S0 B w b → b < w.heap.size → w3.heap[b]? = w.heap[b]? := by
 intro b hb hlt;refine hg.block b hlt ?_;rcases hb with h | ⟨_, c, f, h⟩
 ·exact Jq hown (hS0 b h)
 ·exact Zr0 hown hT h
theorem Yv.ext {sh : Qg α} {v' : Value} {xs ys : List α} {yss : List (List Value)} {w3 : World} (h : Yv sh S0 B v xs css w) (hT : sh.T ≠ 5) (hS0 : ∀ b, S0 b → b < B) (hl : yss.length = ys.length)
  (hy : ∀ i (hi : i < ys.length), ∃ cs, yss[i]? = some cs ∧ sh.enc (InS S0 B w) w ys[i] cs) (hg : w.grownBy w3 v.ownBlock) (hown : w3.ownsRow B sh.T sh.size v' (xs.length + ys.length) (css.flatten ++ yss.flatten)) : Yv sh S0 B v' (xs ++ ys) (css ++ yss) w3 := by
 have hk := Zs5 (S0 := S0) h.row hT hS0 hg;have hm : ∀ b, InS S0 B w b → InS S0 B w3 b := fun b h1 => Xk h1 (fun x => x) fun ⟨k1, c, f, k2⟩ => ⟨k1, c, f, (hk b h1 (Za k2)).trans k2⟩
 refine ⟨by simp [h.len, hl], fun i hi => ?_, by simpa using hown⟩;by_cases hi2 : i < xs.length
 ·obtain ⟨y, h1, h2⟩ := h.each i hi2;refine ⟨y, by rw [List.getElem?_append_left (by rw [h.len]; exact hi2)]; exact h1, ?_⟩;rw [List.getElem_append_left hi2]; exact sh.mono (sh.keep h2 hk) hm
 ·have hi3 : i - xs.length < ys.length := by simp at hi; omega
  obtain ⟨y, h1, h2⟩ := hy (i - xs.length) hi3;refine ⟨y, by rw [List.getElem?_append_right (by rw [h.len]; omega), h.len]; exact h1, ?_⟩;rw [List.getElem_append_right (by omega)]; exact sh.mono (sh.keep h2 hk) hm
theorem Vc {k : Nat} : ∀ (css : List (List Value)), (∀ c ∈ css, c.length = k) → css.flatten.length = css.length * k
 | [], _ => by simp
 | c :: css, h => by
  rw [List.flatten_cons, List.length_append, Vc css fun c hc => h c (by simp [hc]), h c (by simp), List.length_cons, Nat.add_mul]; omega
theorem Yv.app {sh : Qg α} {S0 S : Nat → Prop} {B bytes : Nat} {v u z : Value} {xs ys : List α} {css : List (List Value)} {w : World} {t : TypeId} (ty : TypeId) {i : TypeInfo} (ht : Tryz.prog.underlying t = some (.slice sh.T)) (hif : Tryz.prog.info? sh.T = some i) (hz : i.zero = some z) (hsize : i.size = sh.size) (hby : i.bytes = bytes) (hzs : z.cells.size = sh.size)
  (hsz : 0 < sh.size) (hT : sh.T ≠ 5) (hS0 : ∀ b, S0 b → b < B) (h : Yv sh S0 B v xs css w) (hy : Zt sh S w u ys) (hSS : ∀ b, S b → InS S0 B w b) (h63 : xs.length + ys.length ≤ maxLen) (hb : (xs.length + ys.length) * bytes ≤ 140737488355328) (hB : B ≤ w.heap.size) :
  ∃ v' w' css', (Builtin.append_ #[t, t] ty #[v, u]).run Tryz.prog w = .ok v' w' ∧ Yv sh S0 B v' (xs ++ ys) css' w' ∧ w.grownBy w' v.ownBlock := by
 rcases hy with ⟨ao, cap, rfl, rfl, h0⟩ | ⟨b, off, cap, hSb, rfl, hcap, hc⟩
 ·cases ao with
  | none =>
   obtain rfl := h0 rfl;exact ⟨v, w, css, run_append_owned_none (P := Tryz.prog) (w := w) B t ty sh.T i sh.size ht hif v xs.length css.flatten h.row, by simpa using h, ⟨rfl, rfl, rfl, Nat.le_refl _, fun _ _ _ => rfl⟩⟩
  | some ad =>
   obtain ⟨v', w', h1, h2, h3, -⟩ := run_append_own (P := Tryz.prog) (w := w) B t ty sh.T i z sh.size bytes ht hif hz hsize hby hzs hsz v xs.length css.flatten h.row ad 0 cap [] (by simp) (fun j u hj => by simp at hj) (by simp) (by simpa using h63) (by simpa using hb) hB;refine ⟨v', w', css ++ [], h1, ?_, h3⟩;exact h.ext hT hS0 rfl (fun i hi => by simp at hi) h3 (by simpa using h2)
 ·have hex : ∀ j, j < ys.length → ∃ cs : List Value, (∀ hj : j < ys.length, sh.enc S w ys[j] cs) ∧ ∀ (k : Nat) (u : Value), cs[k]? = some u → w.cell? ⟨b, off + j * sh.size + k, none⟩ = some u := fun j hj => by
   obtain ⟨cs, k1, k2⟩ := hc j hj;exact ⟨cs, fun _ => k1, k2⟩
  obtain ⟨f, hf⟩ := choose_lt hex;have hlen : ∀ c ∈ (List.range ys.length).map f, c.length = sh.size := by
   intro c hc2;obtain ⟨j, hj, rfl⟩ := List.mem_map.1 hc2;have hj' : j < ys.length := by simpa using hj
   exact sh.len ((hf j hj').1 hj')
  have hl1 : ((List.range ys.length).map f).flatten.length = ys.length * sh.size := by rw [Vc _ hlen]; simp
  have hcells : ∀ (j : Nat) (u : Value), ((List.range ys.length).map f).flatten[j]? = some u → w.cell? ((⟨b, off, none⟩ : Addr).add j) = some u := by
   intro j u hj;have hjl : j < ys.length * sh.size := by rw [← hl1]; exact (List.getElem?_eq_some_iff.1 hj).1
   have hq : j / sh.size < ys.length := Nat.div_lt_of_lt_mul (by rw [Nat.mul_comm]; exact hjl);have hr : j % sh.size < sh.size := Nat.mod_lt _ hsz;have hjd : j / sh.size * sh.size + j % sh.size = j := by rw [Nat.mul_comm]; exact Nat.div_add_mod j sh.size
   rw [← hjd, K4 _ (j / sh.size) (j % sh.size) (f (j / sh.size)) hlen (by simp [hq]) hr] at hj;have := (hf _ hq).2 _ _ hj;have e : (⟨b, off, none⟩ : Addr).add j = ⟨b, off + j, none⟩ := by
    unfold Addr.add;split
    ·rename_i h; rw [h]; rfl
    ·rfl
   rw [e, ← hjd, ← Nat.add_assoc]; exact this
  obtain ⟨v', w', h1, h2, h3, -⟩ := run_append_own (P := Tryz.prog) (w := w) B t ty sh.T i z sh.size bytes ht hif hz hsize hby hzs hsz v xs.length css.flatten h.row ⟨b, off, none⟩ ys.length cap ((List.range ys.length).map f).flatten hl1 hcells (fun u hu => by
   obtain ⟨cs, k1, k2⟩ := List.mem_flatten.1 hu;obtain ⟨j, hj, rfl⟩ := List.mem_map.1 k1;have hj' : j < ys.length := by simpa using hj
   exact sh.one ((hf j hj').1 hj') u k2) h63 hb hB
  refine ⟨v', w', _, h1, h.ext (yss := (List.range ys.length).map f) hT hS0 (by simp) (fun j hj => ⟨f j, by simp [hj], sh.mono ((hf j hj).1 hj) hSS⟩) h3 h2, h3⟩
end Go.Proofs.YtpdnapbchcdhlacGreat
namespace Go.Proofs.YtpdnapbchcdhlacGreat
set_option maxRecDepth 100000
open Go.RowKit
open Plain Reg
variable {dn : Nat → Bool} {f : Nat → Value} {i j : Nat} {l : List Rec} {p : Rec → Bool} {v : Value}
theorem Vf (h : j ≠ i) : upd dn i j = dn j := by unfold upd; rw [if_neg h]
theorem Zcn : upd dn i i = true := by unfold upd; rw [if_pos rfl]
theorem Kt (h : j ≠ i) : Zaf f i v j = f j := by unfold Zaf; rw [if_neg h]
theorem Kz : Zaf f i v i = v := by unfold Zaf; rw [if_pos rfl]
theorem Zc1 : (Tryz.prog.info? 61).map (fun i => (i.zero, i.size, i.bytes)) = some (some (.agg #[.int .i64 0, .int .i64 0, .int .i64 0, .slice none 0 0]), 4, 48) := by kernel_rfl
theorem Zox (w : World) (ev : Operand → Value) (o : Oper) (s y : Operand) (ho : o.op = Op.slice 58 s none (some y) none) (b off n lc j : Nat) (hj : j < n) (hn : n ≤ lc) (h1 : ev s = .slice (some ⟨b, off, none⟩) n lc) (h3 : ev y = .int .i64 (j : Int)) :
  (execOp ev o).run Tryz.prog w = .ok (.value (.slice (some ⟨b, off, none⟩) j lc)) w := by
 unfold execOp;rw [ho];go_simp;intro h;omega
theorem Zjh (w : World) (ev : Operand → Value) (o : Oper) (s x : Operand) (ho : o.op = Op.slice 58 s (some x) none none) (b off n lc j : Nat) (hj : j ≤ n) (_hn : n ≤ lc) (h1 : ev s = .slice (some ⟨b, off, none⟩) n lc) (h3 : ev x = .int .i64 (j : Int)) :
  (execOp ev o).run Tryz.prog w = .ok (.value (.slice (some (if lc = j then ⟨b, off, none⟩ else ⟨b, off + j * 4, none⟩)) (n - j) (lc - j))) w := by
 by_cases hl : lc = j
 ·rw [if_pos hl];unfold execOp;rw [ho];go_simp
 ·rw [if_neg hl];unfold execOp;rw [ho];go_simp
structure Zyc where
 l : List Rec
 n : Int
 e : Int
def Vp (d : Dd) (r : Rec) : Bool := decide (r.key = d.key ∧ r.ver = d.num)
def doR (l : List Rec) (d : Dd) : Zyc :=
 if d.kind = 3 then (match l.findIdx? (Vp d) with | some i => ⟨l.take i ++ l.drop (i + 1), d.num, 0⟩ | none => ⟨l, 0, 6⟩)
 else if 5 < l.length then ⟨l, 0, 9⟩ else if 60000 < X9 l then ⟨l, 0, 4⟩ else ⟨l ++ [X5 d (X9 l)], X9 l, 0⟩
theorem Zm2 {k : Nat} (hk : k < l.length) (h0 : ∀ x ∈ l.take k, p x = false) (h1 : p l[k] = true) : l.findIdx? p = some k := by
 rw [List.findIdx?_eq_some_iff_getElem];refine ⟨hk, h1, fun j hj => ?_⟩;have := h0 l[j] (List.mem_take_iff_getElem.2 ⟨j, by omega, rfl⟩);simp [this]
theorem Zko (h0 : ∀ x ∈ l, p x = false) : l.findIdx? p = none := List.findIdx?_eq_none_iff.2 h0
variable {S : Nat → Prop} {v : Value} {w w' : World}
structure St where
 dk : Dk
 idx : List Ent
 next : Int
def St.recs (s : St) : List Rec := s.idx.map Ent.rc
def Xy (d : Dk) : St := ⟨d.keep 0, Z4 (d.keep 0) 6, 0⟩
def Q3 : St := Xy Dk.new
def Yc (S : Nat → Prop) (s : St) (v : Value) (w : World) : Prop := ∃ vb vl vi, v = .agg #[vb, vl, vi, .int .i64 s.next] ∧ Y5 S w vb s.dk.blocks ∧ Qk S w vl s.dk.late ∧ Yq S w vi s.idx
theorem Yc.grow {s : St} (h : Yc S s v w) (hg : Zl w w') : Yc S s v w' := by
 obtain ⟨vb, vl, vi, h1, h2, h3, h4⟩ := h; exact ⟨vb, vl, vi, h1, h2.grow hg, h3.grow hg, h4.grow hg⟩
theorem Yc.mono {S' : Nat → Prop} {s : St} (h : Yc S s v w) (hS : ∀ b, S b → S' b) : Yc S' s v w := by
 obtain ⟨vb, vl, vi, h1, h2, h3, h4⟩ := h; exact ⟨vb, vl, vi, h1, h2.mono hS, h3.mono hS, h4.mono hS⟩
theorem Yc.but {g : Nat} {s : St} (h : Yc S s v w) (hg : Zp g w w') (hn : ¬ S g) : Yc S s v w' := by
 obtain ⟨vb, vl, vi, h1, h2, h3, h4⟩ := h; exact ⟨vb, vl, vi, h1, h2.but hg hn, h3.but hg hn, h4.but hg hn⟩
theorem Yc.form {s : St} (h : Yc S s v w) : ∃ ab cb al cl ai ci, v = .agg #[.slice ab s.dk.blocks.length cb, .slice al s.dk.late.length cl, .slice ai s.idx.length ci, .int .i64 s.next] ∧ Y5 S w (.slice ab s.dk.blocks.length cb) s.dk.blocks ∧ Qk S w (.slice al s.dk.late.length cl) s.dk.late ∧ Yq S w (.slice ai s.idx.length ci) s.idx := by
 obtain ⟨vb, vl, vi, h1, h2, h3, h4⟩ := h;obtain ⟨ab, cb, rfl⟩ := h2.p.form;obtain ⟨al, cl, rfl⟩ := h3.p.form;obtain ⟨ai, ci, rfl⟩ := h4.form;exact ⟨ab, cb, al, cl, ai, ci, h1, h2, h3, h4⟩
theorem Zq5 {B B' : Nat} (h : B ≤ B') : ∀ b, Z2 (Z2 S B) B' b → Z2 S B b := fun _ hb => hb.elim (fun x => x) (fun x => .inr (Nat.le_trans h x))
theorem Y5.capd {bs : List (List UInt8)} (h : Y5 S w v bs) : Y5 (fun b => S b ∧ b < w.heap.size) w v bs := by
 by_cases h0 : bs = []
 ·subst h0;rcases h with h | ⟨b, off, cap, hS, rfl, h1, hc⟩
  ·exact .inl h
  ·exact .inl ⟨_, cap, rfl, rfl, fun h => by cases h⟩
 ·rcases h with ⟨_, _, _, h1, _⟩ | ⟨b, off, cap, hS, h2, h1, hc⟩
  ·exact absurd h1 h0
  ·obtain ⟨u, k1, _⟩ := hc 0 (List.length_pos_iff.2 h0);exact .inr ⟨b, off, cap, ⟨hS, Zs k1⟩, h2, h1, fun i hi => (hc i hi).imp fun _ x => ⟨x.1, x.2.caps⟩⟩
theorem Qk.capd {ws : List Wr} (h : Qk S w v ws) : Qk (fun b => S b ∧ b < w.heap.size) w v ws := by
 by_cases h0 : ws = []
 ·subst h0;rcases h with h | ⟨b, off, cap, hS, rfl, h1, hc⟩
  ·exact .inl h
  ·exact .inl ⟨_, cap, rfl, rfl, fun h => by cases h⟩
 ·rcases h with ⟨_, _, _, h1, _⟩ | ⟨b, off, cap, hS, h2, h1, hc⟩
  ·exact absurd h1 h0
  ·obtain ⟨k1, _⟩ := hc 0 (List.length_pos_iff.2 h0);exact .inr ⟨b, off, cap, ⟨hS, Zs k1⟩, h2, h1, fun i hi => ⟨(hc i hi).1, (hc i hi).2.imp fun _ x => ⟨x.1, x.2.caps⟩⟩⟩
theorem Yc.capd {s : St} (h : Yc S s v w) : Yc (fun b => S b ∧ b < w.heap.size) s v w := by
 obtain ⟨vb, vl, vi, h1, h2, h3, h4⟩ := h; exact ⟨vb, vl, vi, h1, h2.capd, h3.capd, h4.caps (by decide)⟩
theorem Dk.Fine.small {n : Nat} {d : Dk} (h : d.Fine n) (hn : n ≤ 1000) : d.blocks.length ≤ 256 ∧ d.late.length ≤ 999990 := ⟨by rw [h.len]; omega, by have := h.few; omega⟩
end Go.Proofs.YtpdnapbchcdhlacGreat
