import Derived.Test.YtpdnapbchcdhladGreatDoorRNew
set_option maxHeartbeats 8000000
namespace Go.Proofs.YtpdnapbchcdhladGreatDoor
set_option maxRecDepth 100000
open Go.RowKit
open Plain Reg
variable {dn : Nat → Bool} {f : Nat → Value} {i j : Nat} {l : List Rec} {v : Value}
theorem Q5 (h : j ≠ i) : upd dn i j = dn j := by unfold upd; rw [if_neg h]
theorem Zc4 : upd dn i i = true := by unfold upd; rw [if_pos rfl]
theorem Kt (h : j ≠ i) : Qt f i v j = f j := by unfold Qt; rw [if_neg h]
theorem K4 : Qt f i v i = v := by unfold Qt; rw [if_pos rfl]
theorem Zdp : (Tryz.prog.info? 49).map (fun i => (i.zero, i.size, i.bytes)) = some (some (.agg #[.int .i64 0, .int .i64 0, .int .i64 0, .slice none 0 0]), 4, 48) := by kernel_rfl
theorem Zq5 (w : World) (ev : Operand → Value) (o : Oper) (s y : Operand) (ho : o.op = Op.slice 33 s none (some y) none) (b off n lc j : Nat) (hj : j < n) (hn : n ≤ lc) (h1 : ev s = .slice (some ⟨b, off, none⟩) n lc) (h3 : ev y = .int .i64 (j : Int)) :
  (execOp ev o).run Tryz.prog w = .ok (.value (.slice (some ⟨b, off, none⟩) j lc)) w := by
 unfold execOp;rw [ho];go_simp;intro h;omega
theorem Zk5 (w : World) (ev : Operand → Value) (o : Oper) (s x : Operand) (ho : o.op = Op.slice 33 s (some x) none none) (b off n lc j : Nat) (hj : j ≤ n) (_hn : n ≤ lc) (h1 : ev s = .slice (some ⟨b, off, none⟩) n lc) (h3 : ev x = .int .i64 (j : Int)) :
  (execOp ev o).run Tryz.prog w = .ok (.value (.slice (some (if lc = j then ⟨b, off, none⟩ else ⟨b, off + j * 4, none⟩)) (n - j) (lc - j))) w := by
 by_cases hl : lc = j
 ·rw [if_pos hl];unfold execOp;rw [ho];go_simp
 ·rw [if_neg hl];unfold execOp;rw [ho];go_simp
structure Z1m where
 l : List Rec
 n : Int
 e : Int
def Qi (d : Dd) (r : Rec) : Bool := decide (r.key = d.key ∧ r.ver = d.num)
def doR (l : List Rec) (d : Dd) : Z1m :=
 if d.kind = 3 then (match l.findIdx? (Qi d) with | some i => ⟨l.take i ++ l.drop (i + 1), d.num, 0⟩ | none => ⟨l, 0, 6⟩)
 else if 5 < l.length then ⟨l, 0, 9⟩ else if 60000 < Yw l then ⟨l, 0, 4⟩ else ⟨l ++ [Y5 d (Yw l)], Yw l, 0⟩
theorem Zo0 {p : Rec → Bool} {k : Nat} (hk : k < l.length) (h0 : ∀ x ∈ l.take k, p x = false) (h1 : p l[k] = true) : l.findIdx? p = some k := by
 rw [List.findIdx?_eq_some_iff_getElem];refine ⟨hk, h1, fun j hj => ?_⟩;have := h0 l[j] (List.mem_take_iff_getElem.2 ⟨j, by omega, rfl⟩);simp [this]
theorem Zmf {p : Rec → Bool} (h0 : ∀ x ∈ l, p x = false) : l.findIdx? p = none := List.findIdx?_eq_none_iff.2 h0
variable {S : Nat → Prop} {v : Value} {w w' : World}
structure St where
 dk : Dk
 idx : List Ent
 next : Int
def St.recs (s : St) : List Rec := s.idx.map Ent.rc
def Xs (d : Dk) : St := ⟨d.keep 0, Yd (d.keep 0) 6, 0⟩
def Qg : St := Xs Dk.new
def Zw (S : Nat → Prop) (s : St) (v : Value) (w : World) : Prop := ∃ vb vl vi, v = .agg #[vb, vl, vi, .int .i64 s.next] ∧ Xc S w vb s.dk.blocks ∧ Q4 S w vl s.dk.late ∧ Yn S w vi s.idx
theorem Zw.grow {s : St} (h : Zw S s v w) (hg : Zj w w') : Zw S s v w' := by
 obtain ⟨vb, vl, vi, h1, h2, h3, h4⟩ := h; exact ⟨vb, vl, vi, h1, h2.grow hg, h3.grow hg, h4.grow hg⟩
theorem Zw.mono {S' : Nat → Prop} {s : St} (h : Zw S s v w) (hS : ∀ b, S b → S' b) : Zw S' s v w := by
 obtain ⟨vb, vl, vi, h1, h2, h3, h4⟩ := h; exact ⟨vb, vl, vi, h1, h2.mono hS, h3.mono hS, h4.mono hS⟩
theorem Zw.but {g : Nat} {s : St} (h : Zw S s v w) (hg : Zo g w w') (hn : ¬ S g) : Zw S s v w' := by
 obtain ⟨vb, vl, vi, h1, h2, h3, h4⟩ := h; exact ⟨vb, vl, vi, h1, h2.but hg hn, h3.but hg hn, h4.but hg hn⟩
theorem Zw.form {s : St} (h : Zw S s v w) : ∃ ab cb al cl ai ci, v = .agg #[.slice ab s.dk.blocks.length cb, .slice al s.dk.late.length cl, .slice ai s.idx.length ci, .int .i64 s.next] ∧ Xc S w (.slice ab s.dk.blocks.length cb) s.dk.blocks ∧ Q4 S w (.slice al s.dk.late.length cl) s.dk.late ∧ Yn S w (.slice ai s.idx.length ci) s.idx := by
 obtain ⟨vb, vl, vi, h1, h2, h3, h4⟩ := h;obtain ⟨ab, cb, rfl⟩ := h2.p.form;obtain ⟨al, cl, rfl⟩ := h3.p.form;obtain ⟨ai, ci, rfl⟩ := h4.form;exact ⟨ab, cb, al, cl, ai, ci, h1, h2, h3, h4⟩
theorem Xc.capd {bs : List (List UInt8)} (h : Xc S w v bs) : Xc (fun b => S b ∧ b < w.heap.size) w v bs := by
 by_cases h0 : bs = []
 ·subst h0;rcases h with h | ⟨b, off, cap, hS, rfl, h1, hc⟩
  ·exact .inl h
  ·exact .inl ⟨_, cap, rfl, rfl, fun h => by cases h⟩
 ·rcases h with ⟨_, _, _, h1, _⟩ | ⟨b, off, cap, hS, h2, h1, hc⟩
  ·exact absurd h1 h0
  ·obtain ⟨u, k1, _⟩ := hc 0 (List.length_pos_iff.2 h0);exact .inr ⟨b, off, cap, ⟨hS, Zr k1⟩, h2, h1, fun i hi => (hc i hi).imp fun _ x => ⟨x.1, x.2.caps⟩⟩
theorem Q4.capd {ws : List Wr} (h : Q4 S w v ws) : Q4 (fun b => S b ∧ b < w.heap.size) w v ws := by
 by_cases h0 : ws = []
 ·subst h0;rcases h with h | ⟨b, off, cap, hS, rfl, h1, hc⟩
  ·exact .inl h
  ·exact .inl ⟨_, cap, rfl, rfl, fun h => by cases h⟩
 ·rcases h with ⟨_, _, _, h1, _⟩ | ⟨b, off, cap, hS, h2, h1, hc⟩
  ·exact absurd h1 h0
  ·obtain ⟨k1, _⟩ := hc 0 (List.length_pos_iff.2 h0);exact .inr ⟨b, off, cap, ⟨hS, Zr k1⟩, h2, h1, fun i hi => ⟨(hc i hi).1, (hc i hi).2.imp fun _ x => ⟨x.1, x.2.caps⟩⟩⟩
theorem Zw.capd {s : St} (h : Zw S s v w) : Zw (fun b => S b ∧ b < w.heap.size) s v w := by
 obtain ⟨vb, vl, vi, h1, h2, h3, h4⟩ := h; exact ⟨vb, vl, vi, h1, h2.capd, h3.capd, h4.caps (by decide)⟩
abbrev Yy : Obj := .cells #[.slice none 0 0, .slice none 0 0, .slice none 0 0, .int .i64 0] 30 (0, 0)
def Zaw (g : Nat) (w w' : World) : Prop := Zo g w w'
theorem Xg {S : Nat → Prop} {B g : Nat} (hS : ∀ b, S b → b < g) (hB : g < B) : ¬ Z7 S B g := fun h => h.elim (fun x => by have := hS g x; omega) (fun x => by omega)
def Zjd (S : Nat → Prop) (g : Nat) (s : St) (w : World) : Prop := ∃ v cs, v = .agg cs ∧ w.heap[g]? = some (.cells cs 30 (0, 0)) ∧ Zw S s v w
def Zyy : Prop := ∀ (d : Dd) (a : Option Addr) (c : Nat) (w : World), d.data.length ≤ 140737488355328 → Bytes w (.slice a d.data.length c) d.data →
 Calls Tryz.prog 34 #[.agg #[.int .i64 d.kind, .int .i64 d.key, .int .i64 d.num, .slice a d.data.length c]] w fun r w' => r = .returned (.int .i64 (Z1 d)) ∧ Zj w w'
def Zay (l : List Rec) (r : Rec) : Bool := l.any fun x => Kb x r
def Xv (a b : List Rec) : Bool := a.all (Zay b) && decide (a.length = b.length)
variable {d : Dd}
def Z0f : Prop := ∀ (S : Nat → Prop) (l : List Rec) (v : Value) (w : World), Q7 l = true → Yz S w v l →
 Calls Tryz.prog 142 #[v] w fun r w' => r = .returned (.int .i64 (Yw l)) ∧ Zj w w'
def Z1k : Prop := ∀ (S : Nat → Prop) (l : List Rec) (d : Dd) (v : Value) (a : Option Addr) (c : Nat) (w : World), (∀ b, S b → b < w.heap.size) → Q7 l = true → Z1 d = 0 → Yz S w v l → Z0 S w (.slice a d.data.length c) d.data →
 Calls Tryz.prog 60 #[v, .agg #[.int .i64 d.kind, .int .i64 d.key, .int .i64 d.num, .slice a d.data.length c]] w fun r w' => ∃ v', r = .returned (.tuple #[v', .int .i64 (doR l d).n, .int .i64 (doR l d).e]) ∧ Yz (Z7 S w.heap.size) w' v' (doR l d).l ∧ Zj w w'
def Z09 : Prop := ∀ (S : Nat → Prop) (l : List Rec) (key : Int) (v : Value) (w : World), (∀ b, S b → b < w.heap.size) → Q7 l = true → Yz S w v l →
 Calls Tryz.prog 25 #[v, .int .i64 key] w fun r w' => ∃ u, r = .returned (.tuple #[u, .int .i64 (X6 l key).e]) ∧ Z0 (Z7 S w.heap.size) w' u (X6 l key).data ∧ Zj w w'
theorem Zf3 (l : List Rec) : Q7 l = true ↔ (∀ r ∈ l, Z6 r = 0 ∧ r.kind ≠ 1) ∧ l.length ≤ 40 := by
 unfold Q7 Zy3;simp only [Bool.and_eq_true, List.all_eq_true, decide_eq_true_eq]
theorem Zbo (h : Z1 d = 0) : 1 ≤ d.kind ∧ d.kind ≤ 3 ∧ 1 ≤ d.key ∧ d.key ≤ 255 ∧ d.data.length ≤ 8 ∧ (d.kind = 1 ∨ d.data.length = 0) := by
 unfold Z1 at h;by_cases h1 : d.kind < 1 ∨ 3 < d.kind
 ·rw [if_pos h1] at h; omega
 ·rw [if_neg h1] at h;generalize (if d.kind = 3 then (1 : Int) else 0) = lo at h;generalize (if d.kind = 3 then (60000 : Int) else 0) = hi at h;by_cases h2 : d.key < 1 ∨ 255 < d.key ∨ d.num < lo ∨ hi < d.num
  ·rw [if_pos h2] at h; omega
  ·rw [if_neg h2] at h;by_cases h3 : 8 < d.data.length ∨ d.kind ≠ 1 ∧ d.data.length ≠ 0
   ·rw [if_pos h3] at h; omega
   ·omega
theorem Zif : ∀ (l : List Rec) (n : Int), n ≤ l.foldl (fun n r => if n ≤ r.ver then r.ver + 1 else n) n ∧ ∀ r ∈ l, r.ver < l.foldl (fun n r => if n ≤ r.ver then r.ver + 1 else n) n
 | [], n => ⟨Int.le_refl _, fun r h => by cases h⟩
 | x :: l, n => by
  rw [List.foldl_cons];obtain ⟨h1, h2⟩ := Zif l (if n ≤ x.ver then x.ver + 1 else n);have h3 : n ≤ (if n ≤ x.ver then x.ver + 1 else n) ∧ x.ver < (if n ≤ x.ver then x.ver + 1 else n) := by split <;> omega
  refine ⟨by omega, fun r hr => ?_⟩;rcases List.mem_cons.1 hr with rfl | hr
  ·omega
  ·exact h2 r hr
theorem Jo {l : List Rec} : 1 ≤ Yw l ∧ ∀ r ∈ l, r.ver < Yw l := Zif l 1
theorem Zcq {n : Int} (hw : Z1 d = 0) (hk : d.kind ≠ 3) (h0 : 1 ≤ n) (h1 : n ≤ 60000) : Z6 (Y5 d n) = 0 ∧ (Y5 d n).kind ≠ 1 := by
 obtain ⟨a1, a2, a3, a4, a5, a6⟩ := Zbo hw;have hkk : d.kind = 1 ∨ d.kind = 2 := by omega
 refine ⟨?_, show 1 + d.kind ≠ 1 by omega⟩;obtain ⟨dk, dy, dn, dd⟩ := d;simp only at hkk a3 a4 a5 a6;rcases hkk with rfl | rfl
 ·show Z6 ⟨2, dy, n, dd⟩ = 0;have h2 : Xa ⟨2, dy, n, dd⟩ = true := by simp [Xa]; omega
  unfold Z6;rw [if_neg (by simp), h2, if_neg (by simp), if_neg (by simp [Xb]; omega)]
 ·have h6 : dd = [] := List.eq_nil_of_length_eq_zero (by omega);show Z6 ⟨3, dy, n, dd⟩ = 0;have h2 : Xa ⟨3, dy, n, dd⟩ = true := by simp [Xa]; omega
  unfold Z6;rw [if_neg (by simp), h2, if_neg (by simp), if_neg (by simp [Xb, h6])]
theorem Jm (l : List Rec) : Xv l l = true := by
 unfold Xv;simp only [Bool.and_eq_true, List.all_eq_true, decide_eq_true_eq, and_true];intro r hr;unfold Zay;rw [List.any_eq_true];exact ⟨r, hr, Zn3 r⟩
variable {n : Nat}
structure St.Ok (n : Nat) (s : St) : Prop where
 disk : s.dk.Fine n
 right : Xr s.idx = true
 six : ∀ x ∈ s.idx, x.pair < 6
structure Zm9 where
 st : St
 n : Int
 e : Int
def Zjz (d : Dd) (x : Ent) : Bool := decide (x.rc.key = d.key ∧ x.rc.ver = d.num)
def Zha (d : Dd) (l : List Ent) : Int := if d.kind = 3 then (match l.find? (Zjz d) with | some x => x.pair | none => -1) else -1
def Zdk (l : List Ent) : Nat → Nat → Nat
 | 0, p => p
 | k + 1, p => if Zkl l (p : Int) = true then Zdk l k (p + 1) else p
def Xt (l : List Ent) : Nat := Zdk l 7 0
def St.begin (s : St) (d : Dd) : Zm9 :=
 if Z1 d ≠ 0 then ⟨s, 0, Z1 d⟩
 else if (doR s.recs d).e ≠ 0 then ⟨s, 0, (doR s.recs d).e⟩
 else if d.kind = 3 then ⟨⟨s.dk.pairD (Zha d s.idx) Rec.free, Jb s.idx (Zha d s.idx), s.next⟩, (doR s.recs d).n, 0⟩
 else ⟨⟨s.dk.pairD (Xt s.idx) (Y5 d (doR s.recs d).n), Qh ⟨Y5 d (doR s.recs d).n, (Xt s.idx : Nat)⟩ s.idx, s.next⟩, (doR s.recs d).n, 0⟩
theorem St.Ok.good {s : St} (h : s.Ok n) : ∀ x ∈ s.idx, Good x := ((Yr s.idx).1 h.right).2
theorem St.Ok.len {s : St} (h : s.Ok n) : s.idx.length ≤ 6 := by
 obtain ⟨h1, h2⟩ := (Yr s.idx).1 h.right;have hn : (s.idx.map fun x => x.pair.toNat).Nodup := by
  rw [List.nodup_iff_pairwise_ne, List.pairwise_map];exact List.Pairwise.imp_of_mem (fun ha hb hR e => hR.2 (by have := (h2 _ ha).2.2; have := (h2 _ hb).2.2; omega)) h1
 have := Zgf 6 _ hn fun n hn => by
  obtain ⟨x, hx, rfl⟩ := List.mem_map.1 hn;have h3 := h.six x hx;have := (h2 x hx).2.2;omega
 simpa using this
theorem Zi7 {w : World} {g : Nat} {T : TypeId} {f} {c0 c1 c2 c3 : Value} (h : w.heap[g]? = some (.cells #[c0, c1, c2, c3] T f)) (x0 x1 : Value) :
  ((w.setCell ⟨g, 0, none⟩ x0).setCell ⟨g, 1, none⟩ x1).heap[g]? = some (.cells #[x0, x1, c2, c3] T f) ∧ Zo g w ((w.setCell ⟨g, 0, none⟩ x0).setCell ⟨g, 1, none⟩ x1) :=
 ⟨heap_set (heap_set h 0 x0) 1 x1, ((Zo.refl g w).set _ _ _).set _ _ _⟩
variable {n : Nat}
def St.doS (s : St) (d : Dd) : Zm9 := if (s.begin d).e = 0 then ⟨⟨(s.begin d).st.dk.flush, (s.begin d).st.idx, (s.begin d).st.next⟩, (s.begin d).n, 0⟩ else s.begin d
theorem Zfe : ∀ (l m : List Nat), l.Nodup → (∀ x ∈ l, x ∈ m) → l.length ≤ m.length
 | [], _, _, _ => Nat.zero_le _
 | x :: l, m, hn, h => by
  obtain ⟨h1, h2⟩ := List.nodup_cons.1 hn;have hx := h x (by simp);have := Zfe l (m.erase x) h2 fun y hy => (List.mem_erase_of_ne (by rintro rfl; exact h1 hy)).2 (h y (by simp [hy]))
  have := List.length_erase_of_mem hx;have := List.length_pos_of_mem hx;simp; omega
theorem Zsc {l : List Ent} {f : Nat} (h : Zag l f) : f ≤ l.length := by
 have := Zfe (List.range f) (l.map fun x => x.pair.toNat) List.nodup_range fun x hx => by
  obtain ⟨e, he, hp⟩ := h.1 x (by simpa using hx);exact List.mem_map.2 ⟨e, he, by rw [hp]; simp⟩
 simpa using this
theorem Ze3 {l : List Ent} : ∀ (k p : Nat), (∀ m : Nat, m < p → Zkl l (m : Int) = true) → l.length < p + k → Zag l (Zdk l k p) ∧ Zdk l k p ≤ l.length
 | 0, p, h, hk => by
  exfalso;have := Zfe (List.range p) (l.map fun x => x.pair.toNat) List.nodup_range fun x hx => by
   obtain ⟨e, he, hp⟩ := (Zfl l _).1 (h x (by simpa using hx));exact List.mem_map.2 ⟨e, he, by rw [hp]; simp⟩
  simp at this;omega
 | k + 1, p, h, hk => by
  unfold Zdk;by_cases hu : Zkl l (p : Int) = true
  ·rw [if_pos hu];refine Ze3 k (p + 1) (fun m hm => ?_) (by omega);by_cases e : m = p
   ·rw [e]; exact hu
   ·exact h m (by omega)
  ·rw [if_neg hu];have hL : Zag l p := ⟨fun m hm => (Zfl l _).1 (h m hm), fun x hx hp => hu ((Zfl l _).2 ⟨x, hx, hp⟩)⟩;exact ⟨hL, Zsc hL⟩
theorem Zao {l : List Ent} (h : l.length ≤ 6) : Zag l (Xt l) ∧ Xt l ≤ l.length := Ze3 7 0 (fun m hm => by omega) (by omega)
theorem Zg0 {l : List Ent} (h : Xr l = true) (p : Int) : Xr (Jb l p) = true := by
 obtain ⟨h1, h2⟩ := (Yr l).1 h;exact (Yr _).2 ⟨h1.filter _, fun x hx => h2 x ((List.mem_filter.1 hx).1)⟩
theorem Zdw {l : List Rec} {d : Dd} (hk : d.kind ≠ 3) (he : (doR l d).e = 0) : l.length ≤ 5 ∧ (doR l d).n = Yw l ∧ Yw l ≤ 60000 := by
 unfold doR at he ⊢;rw [if_neg hk] at he ⊢;by_cases h5 : 5 < l.length
 ·rw [if_pos h5] at he; cases he
 ·rw [if_neg h5] at he ⊢;by_cases h6 : 60000 < Yw l
  ·rw [if_pos h6] at he; cases he
  ·rw [if_neg h6]; exact ⟨by omega, rfl, by omega⟩
theorem Zf5 {s : St} {d : Dd} (hk : d.kind = 3) (he : (doR s.recs d).e = 0) : ∃ x, Zar s.idx d.key d.num = some x ∧ Zha d s.idx = x.pair := by
 cases hf : s.idx.find? (Zjz d) with
 | some x => exact ⟨x, hf, by unfold Zha; rw [if_pos hk, hf]⟩
 | none =>
  exfalso;unfold doR at he;rw [if_pos hk, Zmf ?_] at he
  ·exact absurd (show (6 : Int) = 0 from he) (by decide)
  ·intro r hr;obtain ⟨x, hx, rfl⟩ := List.mem_map.1 hr;have := List.find?_eq_none.1 hf x hx;unfold Zjz at this;unfold Qi;simpa using this
theorem St.Ok.mono {m : Nat} {s : St} (h : s.Ok n) (hm : n ≤ m) : s.Ok m := ⟨h.disk.mono hm, h.right, h.six⟩
theorem Zd0 {s : St} {d : Dd} (h : s.Ok n) : (s.begin d).st.Ok (n + 2) := by
 unfold St.begin;by_cases hw : Z1 d = 0
 ·rw [if_neg (by simpa using hw)];by_cases he : (doR s.recs d).e = 0
  ·rw [if_neg (by simpa using he)];by_cases hk : d.kind = 3
   ·rw [if_pos hk];exact ⟨h.disk.pair _ _, Zg0 h.right _, fun x hx => h.six x ((List.mem_filter.1 hx).1)⟩
   ·rw [if_neg hk];obtain ⟨h5, hn, h6⟩ := Zdw hk he;have hl5 : s.idx.length ≤ 5 := by simpa [St.recs] using h5
    obtain ⟨hL, hL5⟩ := Zao (l := s.idx) (by omega);have hm := Zcq (n := (doR s.recs d).n) hw hk (by rw [hn]; exact Jo.1) (by rw [hn]; exact h6);refine ⟨h.disk.pair _ _, J1 h.right ⟨hm.1, hm.2, ?_, ?_⟩ hL.2, fun x hx => ?_⟩
    ·show (0 : Int) ≤ ((Xt s.idx : Nat) : Int); omega
    ·show ((Xt s.idx : Nat) : Int) ≤ 1000; omega
    ·rcases (Vk _ _ _).1 hx with rfl | h1
     ·show ((Xt s.idx : Nat) : Int) < 6; omega
     ·exact h.six x h1
  ·rw [if_pos (by simpa using he)]; exact h.mono (by omega)
 ·rw [if_pos (by simpa using hw)]; exact h.mono (by omega)
theorem Zy4 {s : St} {d : Dd} (h : s.Ok 0) : (s.doS d).st.Ok 0 := by
 have hb := Zd0 (d := d) h;unfold St.doS;by_cases he : (s.begin d).e = 0
 ·rw [if_pos he]; exact ⟨hb.disk.flush, hb.right, hb.six⟩
 ·rw [if_neg he];unfold St.begin at he ⊢;by_cases hw : Z1 d = 0
  ·rw [if_neg (by simpa using hw)] at he ⊢;by_cases hr : (doR s.recs d).e = 0
   ·rw [if_neg (by simpa using hr)] at he;exfalso;revert he;by_cases hk : d.kind = 3
    ·rw [if_pos hk]; exact fun h => h rfl
    ·rw [if_neg hk]; exact fun h => h rfl
   ·rw [if_pos (by simpa using hr)]; exact h
  ·rw [if_pos (by simpa using hw)]; exact h
theorem Zvr {d : Dk} (h : d.Fine n) : (Xs d).Ok 0 :=
 ⟨h.kept 0, Vf _ 6 (by omega), fun x hx => by
  obtain ⟨p, hp, _, rfl⟩ := (Qj _ _ 6).1 hx;show ((p : Nat) : Int) < 6; omega⟩
structure Sp where
 kind : Int
 n : Int
 m : Int
 deed : Dd
def Xe (s : St) (x : Sp) : Bool := if x.kind ≠ 3 ∨ x.n < 0 ∨ 192 ≤ x.n then true else decide (s.dk.how (x.n / 32) < 2)
def St.scrub (s : St) : St := ⟨(s.dk.mendD s.next).flush, Yd (s.dk.mendD s.next).flush 6, (s.next + 1) % 6⟩
theorem Zk3 {n : Nat} {s : St} (h : s.dk.Fine n) : (s.scrub).Ok 0 :=
 ⟨(h.mend s.next).flush, Vf _ 6 (by omega), fun x hx => by
  obtain ⟨p, hp, _, rfl⟩ := (Qj _ _ 6).1 hx;show ((p : Nat) : Int) < 6; omega⟩
def Kh : Xz Int where
 T := 3
 size := 1
 enc _ _ x cs := cs = [.int .i64 x]
 len := by rintro S w x cs rfl; rfl
 keep := by rintro S w w' x cs rfl _; rfl
 mono := by rintro S S' w x cs rfl _; rfl
 cap := by rintro S w x cs rfl; rfl
 one := by
  rintro S w x cs rfl c hc;rw [List.mem_singleton.1 hc]; rfl
theorem Zsh : (Tryz.prog.info? 3).map (fun i => (i.zero, i.size, i.bytes)) = some (some (.int .i64 0), 1, 8) := by kernel_rfl
def Qo (l : List Rec) (fr most : Int) : Nat → List Int
 | 0 => []
 | k + 1 => if (X6 l ((k : Int) + 1)).e = 0 ∧ fr ≤ (k : Int) + 1 ∧ ((Qo l fr most k).length : Int) < most then Qo l fr most k ++ [(k : Int) + 1] else Qo l fr most k
def Zfh (d : Dk) (p : Nat) : Nat → Bool
 | 0 => false
 | q + 1 => Zfh d p q || decide ((d.tell (q : Int)).kind ≠ 1 ∧ (d.tell (q : Int)).ver = (d.tell (p : Int)).ver)
def Zc6 (d : Dk) : Nat → List Int
 | 0 => []
 | p + 1 => if (d.tell (p : Int)).kind ≠ 1 ∧ Zfh d p p = true then Zc6 d p ++ [(p : Int)] else Zc6 d p
variable {T : TypeId} {g : Nat} {w : World}
theorem Zz8 (d : Dk) (p : Int) : 0 ≤ d.how p ∧ d.how p < 6 := by
 unfold Dk.how;split
 ·omega
 ·split
  ·split <;> omega
  ·split
   ·omega
   ·split
    ·omega
    ·split <;> omega
def cnt (d : Dk) : Nat → Int → Int
 | 0, _ => 0
 | k + 1, i => cnt d k i + (if d.how (k : Int) = i then 1 else 0)
abbrev Zef (f : Int → Int) : Array Value := #[.int .i64 (f 0), .int .i64 (f 1), .int .i64 (f 2), .int .i64 (f 3), .int .i64 (f 4), .int .i64 (f 5)]
abbrev Zb9 : Obj := .cells #[.int .i64 0, .int .i64 0, .int .i64 0, .int .i64 0, .int .i64 0, .int .i64 0] 45 (0, 0)
theorem Zwd {f} {c0 c1 c2 c3 c4 c5 : Value} (h : w.heap[g]? = some (.cells #[c0, c1, c2, c3, c4, c5] T f)) (x0 x1 x2 x3 x4 x5 : Value) :
  ((((((w.setCell ⟨g, 0, none⟩ x0).setCell ⟨g, 1, none⟩ x1).setCell ⟨g, 2, none⟩ x2).setCell ⟨g, 3, none⟩ x3).setCell ⟨g, 4, none⟩ x4).setCell ⟨g, 5, none⟩ x5).heap[g]? = some (.cells #[x0, x1, x2, x3, x4, x5] T f) ∧ Zo g w ((((((w.setCell ⟨g, 0, none⟩ x0).setCell ⟨g, 1, none⟩ x1).setCell ⟨g, 2, none⟩ x2).setCell ⟨g, 3, none⟩ x3).setCell ⟨g, 4, none⟩ x4).setCell ⟨g, 5, none⟩ x5) :=
 ⟨heap_set (heap_set (heap_set (heap_set (heap_set (heap_set h 0 x0) 1 x1) 2 x2) 3 x3) 4 x4) 5 x5, ((((((Zo.refl g w).set _ _ _).set _ _ _).set _ _ _).set _ _ _).set _ _ _).set _ _ _⟩
theorem Zzo {c : Int → Int} (h : w.heap[g]? = some (.cells (Zef c) T (0, 0))) {j : Nat} (hj : j < 6) :
  w.cell? ⟨g, j, none⟩ = some (.int .i64 (c (j : Int))) ∧ w.frozen? ⟨g, j, none⟩ = false ∧ (w.setCell ⟨g, j, none⟩ (.int .i64 (c (j : Int) + 1))).heap[g]? = some (.cells (Zef (fun i => c i + (if (j : Int) = i then 1 else 0))) T (0, 0)) := by
 have hs := heap_set h j (.int .i64 (c (j : Int) + 1))
 match j, hj with
 | 0, _ | 1, _ | 2, _ | 3, _ | 4, _ | 5, _ => exact ⟨Ze h _ _ rfl, Zt h _, by rw [hs]; simp [Zef]⟩
def Zcl (D : Dk) (tw : List Int) : Nat → Dk
 | 0 => D
 | p + 1 => ((Zcl D tw p).pairD (p : Int) (if tw.contains (p : Int) = true then Rec.free else (Zcl D tw p).tell (p : Int))).flush
def Dk.clean (d : Dk) : Dk := Zcl (d.keep 0) (Zc6 (d.keep 0) 6) 6
theorem Zev {D : Dk} (h : D.Fine 0) (tw : List Int) : ∀ p, (Zcl D tw p).Fine 0
 | 0 => h
 | p + 1 => ((Zev h tw p).pair _ _).flush
end Go.Proofs.YtpdnapbchcdhladGreatDoor
