import Derived.Test.YtgaecpdokgklpadGreatDoorRNew
set_option maxHeartbeats 8000000
namespace Go.Proofs.YtgaecpdokgklpadGreatDoor
set_option maxRecDepth 100000
open Go.RowKit
open Plain Reg
theorem Q7 {dn : Nat → Bool} {i j : Nat} (h : j ≠ i) : upd dn i j = dn j := by unfold upd; rw [if_neg h]
theorem Zc0 {dn : Nat → Bool} {i : Nat} : upd dn i i = true := by unfold upd; rw [if_pos rfl]
theorem Ky {f : Nat → Value} {i j : Nat} {v : Value} (h : j ≠ i) : Qs f i v j = f j := by unfold Qs; rw [if_neg h]
theorem Jb {f : Nat → Value} {i : Nat} {v : Value} : Qs f i v i = v := by unfold Qs; rw [if_pos rfl]
theorem Zdk : (Tryz.prog.info? 49).map (fun i => (i.zero, i.size, i.bytes)) = some (some (.agg #[.int .i64 0, .int .i64 0, .int .i64 0, .slice none 0 0]), 4, 48) := by kernel_rfl
theorem Zqa (w : World) (ev : Operand → Value) (o : Oper) (s y : Operand) (ho : o.op = Op.slice 33 s none (some y) none) (b off n lc j : Nat) (hj : j < n) (hn : n ≤ lc) (h1 : ev s = .slice (some ⟨b, off, none⟩) n lc) (h3 : ev y = .int .i64 (j : Int)) :
  (execOp ev o).run Tryz.prog w = .ok (.value (.slice (some ⟨b, off, none⟩) j lc)) w := by
 unfold execOp;rw [ho];go_simp;intro h;omega
theorem Zks (w : World) (ev : Operand → Value) (o : Oper) (s x : Operand) (ho : o.op = Op.slice 33 s (some x) none none) (b off n lc j : Nat) (hj : j ≤ n) (_hn : n ≤ lc) (h1 : ev s = .slice (some ⟨b, off, none⟩) n lc) (h3 : ev x = .int .i64 (j : Int)) :
  (execOp ev o).run Tryz.prog w = .ok (.value (.slice (some (if lc = j then ⟨b, off, none⟩ else ⟨b, off + j * 4, none⟩)) (n - j) (lc - j))) w := by
 by_cases hl : lc = j
 ·rw [if_pos hl];unfold execOp;rw [ho];go_simp
 ·rw [if_neg hl];unfold execOp;rw [ho];go_simp
structure Zz7 where
 l : List Rec
 n : Int
 e : Int
def Qz (d : Dd) (r : Rec) : Bool := decide (r.key = d.key ∧ r.ver = d.num)
def doR (l : List Rec) (d : Dd) : Zz7 :=
 if d.kind = 3 then (match l.findIdx? (Qz d) with | some i => ⟨l.take i ++ l.drop (i + 1), d.num, 0⟩ | none => ⟨l, 0, 6⟩)
 else if 5 < l.length then ⟨l, 0, 9⟩ else if 60000 < Xe l then ⟨l, 0, 4⟩ else ⟨l ++ [Xf d (Xe l)], Xe l, 0⟩
theorem Zob {l : List Rec} {p : Rec → Bool} {k : Nat} (hk : k < l.length) (h0 : ∀ x ∈ l.take k, p x = false) (h1 : p l[k] = true) : l.findIdx? p = some k := by
 rw [List.findIdx?_eq_some_iff_getElem];refine ⟨hk, h1, fun j hj => ?_⟩;have := h0 l[j] (List.mem_take_iff_getElem.2 ⟨j, by omega, rfl⟩);simp [this]
theorem Zlv {l : List Rec} {p : Rec → Bool} (h0 : ∀ x ∈ l, p x = false) : l.findIdx? p = none := List.findIdx?_eq_none_iff.2 h0
structure St where
 dk : Dk
 idx : List Ent
 next : Int
def St.recs (s : St) : List Rec := s.idx.map Ent.rc
def Xx (d : Dk) : St := ⟨d.keep 0, Yf (d.keep 0) 6, 0⟩
def V9 : St := Xx Dk.new
def Zx (S : Nat → Prop) (s : St) (v : Value) (w : World) : Prop := ∃ vb vl vi, v = .agg #[vb, vl, vi, .int .i64 s.next] ∧ Xh S w vb s.dk.blocks ∧ Vd S w vl s.dk.late ∧ Ys S w vi s.idx
theorem Zx.grow {S : Nat → Prop} {s : St} {v : Value} {w w' : World} (h : Zx S s v w) (hg : Zj w w') : Zx S s v w' := by
 obtain ⟨vb, vl, vi, h1, h2, h3, h4⟩ := h; exact ⟨vb, vl, vi, h1, h2.grow hg, h3.grow hg, h4.grow hg⟩
theorem Zx.mono {S S' : Nat → Prop} {s : St} {v : Value} {w : World} (h : Zx S s v w) (hS : ∀ b, S b → S' b) : Zx S' s v w := by
 obtain ⟨vb, vl, vi, h1, h2, h3, h4⟩ := h; exact ⟨vb, vl, vi, h1, h2.mono hS, h3.mono hS, h4.mono hS⟩
theorem Zx.but {S : Nat → Prop} {g : Nat} {s : St} {v : Value} {w w' : World} (h : Zx S s v w) (hg : Zp g w w') (hn : ¬ S g) : Zx S s v w' := by
 obtain ⟨vb, vl, vi, h1, h2, h3, h4⟩ := h; exact ⟨vb, vl, vi, h1, h2.but hg hn, h3.but hg hn, h4.but hg hn⟩
theorem Zx.form {S : Nat → Prop} {s : St} {v : Value} {w : World} (h : Zx S s v w) : ∃ ab cb al cl ai ci, v = .agg #[.slice ab s.dk.blocks.length cb, .slice al s.dk.late.length cl, .slice ai s.idx.length ci, .int .i64 s.next] ∧ Xh S w (.slice ab s.dk.blocks.length cb) s.dk.blocks ∧ Vd S w (.slice al s.dk.late.length cl) s.dk.late ∧ Ys S w (.slice ai s.idx.length ci) s.idx := by
 obtain ⟨vb, vl, vi, h1, h2, h3, h4⟩ := h;obtain ⟨ab, cb, rfl⟩ := h2.p.form;obtain ⟨al, cl, rfl⟩ := h3.p.form;obtain ⟨ai, ci, rfl⟩ := h4.form;exact ⟨ab, cb, al, cl, ai, ci, h1, h2, h3, h4⟩
theorem Xh.capd {S : Nat → Prop} {w : World} {v : Value} {bs : List (List UInt8)} (h : Xh S w v bs) : Xh (fun b => S b ∧ b < w.heap.size) w v bs := by
 by_cases h0 : bs = []
 ·subst h0;rcases h with h | ⟨b, off, cap, hS, rfl, h1, hc⟩
  ·exact .inl h
  ·exact .inl ⟨_, cap, rfl, rfl, fun h => by cases h⟩
 ·rcases h with ⟨_, _, _, h1, _⟩ | ⟨b, off, cap, hS, h2, h1, hc⟩
  ·exact absurd h1 h0
  ·obtain ⟨u, k1, _⟩ := hc 0 (List.length_pos_iff.2 h0);exact .inr ⟨b, off, cap, ⟨hS, Zu k1⟩, h2, h1, fun i hi => (hc i hi).imp fun _ x => ⟨x.1, x.2.caps⟩⟩
theorem Vd.capd {S : Nat → Prop} {w : World} {v : Value} {ws : List Wr} (h : Vd S w v ws) : Vd (fun b => S b ∧ b < w.heap.size) w v ws := by
 by_cases h0 : ws = []
 ·subst h0;rcases h with h | ⟨b, off, cap, hS, rfl, h1, hc⟩
  ·exact .inl h
  ·exact .inl ⟨_, cap, rfl, rfl, fun h => by cases h⟩
 ·rcases h with ⟨_, _, _, h1, _⟩ | ⟨b, off, cap, hS, h2, h1, hc⟩
  ·exact absurd h1 h0
  ·obtain ⟨k1, _⟩ := hc 0 (List.length_pos_iff.2 h0);exact .inr ⟨b, off, cap, ⟨hS, Zu k1⟩, h2, h1, fun i hi => ⟨(hc i hi).1, (hc i hi).2.imp fun _ x => ⟨x.1, x.2.caps⟩⟩⟩
theorem Zx.capd {S : Nat → Prop} {s : St} {v : Value} {w : World} (h : Zx S s v w) : Zx (fun b => S b ∧ b < w.heap.size) s v w := by
 obtain ⟨vb, vl, vi, h1, h2, h3, h4⟩ := h; exact ⟨vb, vl, vi, h1, h2.capd, h3.capd, h4.caps (by decide)⟩
theorem Zdu {w : World} {g : Nat} {T : TypeId} {f} {c0 c1 : Value} (h : w.heap[g]? = some (.cells #[c0, c1] T f)) (x0 x1 : Value) :
  ((w.setCell ⟨g, 0, none⟩ x0).setCell ⟨g, 1, none⟩ x1).heap[g]? = some (.cells #[x0, x1] T f) ∧ Zp g w ((w.setCell ⟨g, 0, none⟩ x0).setCell ⟨g, 1, none⟩ x1) :=
 ⟨heap_set (heap_set h 0 x0) 1 x1, ((Zp.refl g w).set _ _ _).set _ _ _⟩
abbrev Y6 : Obj := .cells #[.slice none 0 0, .slice none 0 0, .slice none 0 0, .int .i64 0] 30 (0, 0)
def Vz (g : Nat) (w w' : World) : Prop := Zp g w w'
theorem Yv {S : Nat → Prop} {B g : Nat} (hS : ∀ b, S b → b < g) (hB : g < B) : ¬ Z0 S B g := fun h => h.elim (fun x => by have := hS g x; omega) (fun x => by omega)
def Ziv (S : Nat → Prop) (g : Nat) (s : St) (w : World) : Prop := ∃ v cs, v = .agg cs ∧ w.heap[g]? = some (.cells cs 30 (0, 0)) ∧ Zx S s v w
def Zxl : Prop := ∀ (d : Dd) (a : Option Addr) (c : Nat) (w : World), d.data.length ≤ 140737488355328 → Bytes w (.slice a d.data.length c) d.data →
 Calls Tryz.prog 30 #[.agg #[.int .i64 d.kind, .int .i64 d.key, .int .i64 d.num, .slice a d.data.length c]] w fun r w' => r = .returned (.int .i64 (Z3 d)) ∧ Zj w w'
def Zir (l : List Rec) (r : Rec) : Bool := l.any fun x => Ks x r
def J3 (a b : List Rec) : Bool := a.all (Zir b) && decide (a.length = b.length)
def Zy0 : Prop := ∀ (S : Nat → Prop) (l : List Rec) (v : Value) (w : World), J4 l = true → Qm S w v l →
 Calls Tryz.prog 128 #[v] w fun r w' => r = .returned (.int .i64 (Xe l)) ∧ Zj w w'
def Zz5 : Prop := ∀ (S : Nat → Prop) (l : List Rec) (d : Dd) (v : Value) (a : Option Addr) (c : Nat) (w : World), (∀ b, S b → b < w.heap.size) → J4 l = true → Z3 d = 0 → Qm S w v l → Z5 S w (.slice a d.data.length c) d.data →
 Calls Tryz.prog 54 #[v, .agg #[.int .i64 d.kind, .int .i64 d.key, .int .i64 d.num, .slice a d.data.length c]] w fun r w' => ∃ v', r = .returned (.tuple #[v', .int .i64 (doR l d).n, .int .i64 (doR l d).e]) ∧ Qm (Z0 S w.heap.size) w' v' (doR l d).l ∧ Zj w w'
def Zzs : Prop := ∀ (S : Nat → Prop) (l : List Rec) (key : Int) (v : Value) (w : World), (∀ b, S b → b < w.heap.size) → J4 l = true → Qm S w v l →
 Calls Tryz.prog 23 #[v, .int .i64 key] w fun r w' => ∃ u, r = .returned (.tuple #[u, .int .i64 (Q4 l key).e]) ∧ Z5 (Z0 S w.heap.size) w' u (Q4 l key).data ∧ Zj w w'
theorem Zfw (l : List Rec) : J4 l = true ↔ (∀ r ∈ l, Z6 r = 0 ∧ r.kind ≠ 1) ∧ l.length ≤ 40 := by
 unfold J4 Zxr;simp only [Bool.and_eq_true, List.all_eq_true, decide_eq_true_eq]
theorem Zbu {d : Dd} (h : Z3 d = 0) : 1 ≤ d.kind ∧ d.kind ≤ 3 ∧ 1 ≤ d.key ∧ d.key ≤ 255 ∧ d.data.length ≤ 8 ∧ (d.kind = 1 ∨ d.data.length = 0) := by
 unfold Z3 at h;by_cases h1 : d.kind < 1 ∨ 3 < d.kind
 ·rw [if_pos h1] at h; omega
 ·rw [if_neg h1] at h;generalize (if d.kind = 3 then (1 : Int) else 0) = lo at h;generalize (if d.kind = 3 then (60000 : Int) else 0) = hi at h;by_cases h2 : d.key < 1 ∨ 255 < d.key ∨ d.num < lo ∨ hi < d.num
  ·rw [if_pos h2] at h; omega
  ·rw [if_neg h2] at h;by_cases h3 : 8 < d.data.length ∨ d.kind ≠ 1 ∧ d.data.length ≠ 0
   ·rw [if_pos h3] at h; omega
   ·omega
theorem Zh0 : ∀ (l : List Rec) (n : Int), n ≤ l.foldl (fun n r => if n ≤ r.ver then r.ver + 1 else n) n ∧ ∀ r ∈ l, r.ver < l.foldl (fun n r => if n ≤ r.ver then r.ver + 1 else n) n
 | [], n => ⟨Int.le_refl _, fun r h => by cases h⟩
 | x :: l, n => by
  rw [List.foldl_cons];obtain ⟨h1, h2⟩ := Zh0 l (if n ≤ x.ver then x.ver + 1 else n);have h3 : n ≤ (if n ≤ x.ver then x.ver + 1 else n) ∧ x.ver < (if n ≤ x.ver then x.ver + 1 else n) := by split <;> omega
  refine ⟨by omega, fun r hr => ?_⟩;rcases List.mem_cons.1 hr with rfl | hr
  ·omega
  ·exact h2 r hr
theorem Zav {l : List Rec} : 1 ≤ Xe l ∧ ∀ r ∈ l, r.ver < Xe l := Zh0 l 1
theorem Zcp {d : Dd} {n : Int} (hw : Z3 d = 0) (hk : d.kind ≠ 3) (h0 : 1 ≤ n) (h1 : n ≤ 60000) : Z6 (Xf d n) = 0 ∧ (Xf d n).kind ≠ 1 := by
 obtain ⟨a1, a2, a3, a4, a5, a6⟩ := Zbu hw;have hkk : d.kind = 1 ∨ d.kind = 2 := by omega
 refine ⟨?_, show 1 + d.kind ≠ 1 by omega⟩;obtain ⟨dk, dy, dn, dd⟩ := d;simp only at hkk a3 a4 a5 a6;rcases hkk with rfl | rfl
 ·show Z6 ⟨2, dy, n, dd⟩ = 0;have h2 : Xd ⟨2, dy, n, dd⟩ = true := by simp [Xd]; omega
  unfold Z6;rw [if_neg (by simp), h2, if_neg (by simp), if_neg (by simp [Yr]; omega)]
 ·have h6 : dd = [] := List.eq_nil_of_length_eq_zero (by omega);show Z6 ⟨3, dy, n, dd⟩ = 0;have h2 : Xd ⟨3, dy, n, dd⟩ = true := by simp [Xd]; omega
  unfold Z6;rw [if_neg (by simp), h2, if_neg (by simp), if_neg (by simp [Yr, h6])]
theorem Zbf (l : List Rec) : J3 l l = true := by
 unfold J3;simp only [Bool.and_eq_true, List.all_eq_true, decide_eq_true_eq, and_true];intro r hr;unfold Zir;rw [List.any_eq_true];exact ⟨r, hr, Znc r⟩
structure St.Ok (n : Nat) (s : St) : Prop where
 disk : s.dk.Fine n
 right : Xw s.idx = true
 six : ∀ x ∈ s.idx, x.pair < 6
structure Zmj where
 st : St
 n : Int
 e : Int
def Zjo (d : Dd) (x : Ent) : Bool := decide (x.rc.key = d.key ∧ x.rc.ver = d.num)
def Zg2 (d : Dd) (l : List Ent) : Int := if d.kind = 3 then (match l.find? (Zjo d) with | some x => x.pair | none => -1) else -1
def Zdg (l : List Ent) : Nat → Nat → Nat
 | 0, p => p
 | k + 1, p => if Zj7 l (p : Int) = true then Zdg l k (p + 1) else p
def Xy (l : List Ent) : Nat := Zdg l 7 0
def St.begin (s : St) (d : Dd) : Zmj :=
 if Z3 d ≠ 0 then ⟨s, 0, Z3 d⟩
 else if (doR s.recs d).e ≠ 0 then ⟨s, 0, (doR s.recs d).e⟩
 else if d.kind = 3 then ⟨⟨s.dk.pairD (Zg2 d s.idx) Rec.free, Ji s.idx (Zg2 d s.idx), s.next⟩, (doR s.recs d).n, 0⟩
 else ⟨⟨s.dk.pairD (Xy s.idx) (Xf d (doR s.recs d).n), Qh ⟨Xf d (doR s.recs d).n, (Xy s.idx : Nat)⟩ s.idx, s.next⟩, (doR s.recs d).n, 0⟩
theorem St.Ok.good {n : Nat} {s : St} (h : s.Ok n) : ∀ x ∈ s.idx, Good x := ((Y5 s.idx).1 h.right).2
theorem St.Ok.len {n : Nat} {s : St} (h : s.Ok n) : s.idx.length ≤ 6 := by
 obtain ⟨h1, h2⟩ := (Y5 s.idx).1 h.right;have hn : (s.idx.map fun x => x.pair.toNat).Nodup := by
  rw [List.nodup_iff_pairwise_ne, List.pairwise_map];exact List.Pairwise.imp_of_mem (fun ha hb hR e => hR.2 (by have := (h2 _ ha).2.2; have := (h2 _ hb).2.2; omega)) h1
 have := Zf8 6 _ hn fun n hn => by
  obtain ⟨x, hx, rfl⟩ := List.mem_map.1 hn;have h3 := h.six x hx;have := (h2 x hx).2.2;omega
 simpa using this
theorem Zio {w : World} {g : Nat} {T : TypeId} {f} {c0 c1 c2 c3 : Value} (h : w.heap[g]? = some (.cells #[c0, c1, c2, c3] T f)) (x0 x1 : Value) :
  ((w.setCell ⟨g, 0, none⟩ x0).setCell ⟨g, 1, none⟩ x1).heap[g]? = some (.cells #[x0, x1, c2, c3] T f) ∧ Zp g w ((w.setCell ⟨g, 0, none⟩ x0).setCell ⟨g, 1, none⟩ x1) :=
 ⟨heap_set (heap_set h 0 x0) 1 x1, ((Zp.refl g w).set _ _ _).set _ _ _⟩
def St.doS (s : St) (d : Dd) : Zmj := if (s.begin d).e = 0 then ⟨⟨(s.begin d).st.dk.flush, (s.begin d).st.idx, (s.begin d).st.next⟩, (s.begin d).n, 0⟩ else s.begin d
theorem Zi5 : ∀ (l m : List Nat), l.Nodup → (∀ x ∈ l, x ∈ m) → l.length ≤ m.length
 | [], _, _, _ => Nat.zero_le _
 | x :: l, m, hn, h => by
  obtain ⟨h1, h2⟩ := List.nodup_cons.1 hn;have hx := h x (by simp);have := Zi5 l (m.erase x) h2 fun y hy => (List.mem_erase_of_ne (by rintro rfl; exact h1 hy)).2 (h y (by simp [hy]))
  have := List.length_erase_of_mem hx;have := List.length_pos_of_mem hx;simp; omega
theorem Zrd {l : List Ent} {f : Nat} (h : Zap l f) : f ≤ l.length := by
 have := Zi5 (List.range f) (l.map fun x => x.pair.toNat) List.nodup_range fun x hx => by
  obtain ⟨e, he, hp⟩ := h.1 x (by simpa using hx);exact List.mem_map.2 ⟨e, he, by rw [hp]; simp⟩
 simpa using this
theorem Ze0 {l : List Ent} : ∀ (k p : Nat), (∀ m : Nat, m < p → Zj7 l (m : Int) = true) → l.length < p + k → Zap l (Zdg l k p) ∧ Zdg l k p ≤ l.length
 | 0, p, h, hk => by
  exfalso;have := Zi5 (List.range p) (l.map fun x => x.pair.toNat) List.nodup_range fun x hx => by
   obtain ⟨e, he, hp⟩ := (Zff l _).1 (h x (by simpa using hx));exact List.mem_map.2 ⟨e, he, by rw [hp]; simp⟩
  simp at this;omega
 | k + 1, p, h, hk => by
  unfold Zdg;by_cases hu : Zj7 l (p : Int) = true
  ·rw [if_pos hu];refine Ze0 k (p + 1) (fun m hm => ?_) (by omega);by_cases e : m = p
   ·rw [e]; exact hu
   ·exact h m (by omega)
  ·rw [if_neg hu];have hL : Zap l p := ⟨fun m hm => (Zff l _).1 (h m hm), fun x hx hp => hu ((Zff l _).2 ⟨x, hx, hp⟩)⟩;exact ⟨hL, Zrd hL⟩
theorem Zay {l : List Ent} (h : l.length ≤ 6) : Zap l (Xy l) ∧ Xy l ≤ l.length := Ze0 7 0 (fun m hm => by omega) (by omega)
theorem Zgs {l : List Ent} (h : Xw l = true) (p : Int) : Xw (Ji l p) = true := by
 obtain ⟨h1, h2⟩ := (Y5 l).1 h;exact (Y5 _).2 ⟨h1.filter _, fun x hx => h2 x ((List.mem_filter.1 hx).1)⟩
theorem Zdr {l : List Rec} {d : Dd} (hk : d.kind ≠ 3) (he : (doR l d).e = 0) : l.length ≤ 5 ∧ (doR l d).n = Xe l ∧ Xe l ≤ 60000 := by
 unfold doR at he ⊢;rw [if_neg hk] at he ⊢;by_cases h5 : 5 < l.length
 ·rw [if_pos h5] at he; cases he
 ·rw [if_neg h5] at he ⊢;by_cases h6 : 60000 < Xe l
  ·rw [if_pos h6] at he; cases he
  ·rw [if_neg h6]; exact ⟨by omega, rfl, by omega⟩
theorem Zfy {s : St} {d : Dd} (hk : d.kind = 3) (he : (doR s.recs d).e = 0) : ∃ x, Za1 s.idx d.key d.num = some x ∧ Zg2 d s.idx = x.pair := by
 cases hf : s.idx.find? (Zjo d) with
 | some x => exact ⟨x, hf, by unfold Zg2; rw [if_pos hk, hf]⟩
 | none =>
  exfalso;unfold doR at he;rw [if_pos hk, Zlv ?_] at he
  ·exact absurd (show (6 : Int) = 0 from he) (by decide)
  ·intro r hr;obtain ⟨x, hx, rfl⟩ := List.mem_map.1 hr;have := List.find?_eq_none.1 hf x hx;unfold Zjo at this;unfold Qz;simpa using this
theorem St.Ok.mono {n m : Nat} {s : St} (h : s.Ok n) (hm : n ≤ m) : s.Ok m := ⟨h.disk.mono hm, h.right, h.six⟩
theorem Zdw {n : Nat} {s : St} {d : Dd} (h : s.Ok n) : (s.begin d).st.Ok (n + 2) := by
 unfold St.begin;by_cases hw : Z3 d = 0
 ·rw [if_neg (by simpa using hw)];by_cases he : (doR s.recs d).e = 0
  ·rw [if_neg (by simpa using he)];by_cases hk : d.kind = 3
   ·rw [if_pos hk];exact ⟨h.disk.pair _ _, Zgs h.right _, fun x hx => h.six x ((List.mem_filter.1 hx).1)⟩
   ·rw [if_neg hk];obtain ⟨h5, hn, h6⟩ := Zdr hk he;have hl5 : s.idx.length ≤ 5 := by simpa [St.recs] using h5
    obtain ⟨hL, hL5⟩ := Zay (l := s.idx) (by omega);have hm := Zcp (n := (doR s.recs d).n) hw hk (by rw [hn]; exact Zav.1) (by rw [hn]; exact h6);refine ⟨h.disk.pair _ _, J7 h.right ⟨hm.1, hm.2, ?_, ?_⟩ hL.2, fun x hx => ?_⟩
    ·show (0 : Int) ≤ ((Xy s.idx : Nat) : Int); omega
    ·show ((Xy s.idx : Nat) : Int) ≤ 1000; omega
    ·rcases (Vo _ _ _).1 hx with rfl | h1
     ·show ((Xy s.idx : Nat) : Int) < 6; omega
     ·exact h.six x h1
  ·rw [if_pos (by simpa using he)]; exact h.mono (by omega)
 ·rw [if_pos (by simpa using hw)]; exact h.mono (by omega)
theorem Zxs {s : St} {d : Dd} (h : s.Ok 0) : (s.doS d).st.Ok 0 := by
 have hb := Zdw (d := d) h;unfold St.doS;by_cases he : (s.begin d).e = 0
 ·rw [if_pos he]; exact ⟨hb.disk.flush, hb.right, hb.six⟩
 ·rw [if_neg he];unfold St.begin at he ⊢;by_cases hw : Z3 d = 0
  ·rw [if_neg (by simpa using hw)] at he ⊢;by_cases hr : (doR s.recs d).e = 0
   ·rw [if_neg (by simpa using hr)] at he;exfalso;revert he;by_cases hk : d.kind = 3
    ·rw [if_pos hk]; exact fun h => h rfl
    ·rw [if_neg hk]; exact fun h => h rfl
   ·rw [if_pos (by simpa using hr)]; exact h
  ·rw [if_pos (by simpa using hw)]; exact h
theorem Zuj {n : Nat} {d : Dk} (h : d.Fine n) : (Xx d).Ok 0 :=
 ⟨h.kept 0, Vh _ 6 (by omega), fun x hx => by
  obtain ⟨p, hp, _, rfl⟩ := (Qj _ _ 6).1 hx;show ((p : Nat) : Int) < 6; omega⟩
structure Sp where
 kind : Int
 n : Int
 m : Int
 deed : Dd
def K2 (s : St) (x : Sp) : Bool := if x.kind ≠ 3 ∨ x.n < 0 ∨ 192 ≤ x.n then true else decide (s.dk.how (x.n / 32) < 2)
def St.scrub (s : St) : St := ⟨(s.dk.mendD s.next).flush, Yf (s.dk.mendD s.next).flush 6, (s.next + 1) % 6⟩
theorem Zkp {n : Nat} {s : St} (h : s.dk.Fine n) : (s.scrub).Ok 0 :=
 ⟨(h.mend s.next).flush, Vh _ 6 (by omega), fun x hx => by
  obtain ⟨p, hp, _, rfl⟩ := (Qj _ _ 6).1 hx;show ((p : Nat) : Int) < 6; omega⟩
def X1 : Qb Int where
 T := 3
 size := 1
 enc _ _ x cs := cs = [.int .i64 x]
 len := by rintro S w x cs rfl; rfl
 keep := by rintro S w w' x cs rfl _; rfl
 mono := by rintro S S' w x cs rfl _; rfl
 cap := by rintro S w x cs rfl; rfl
 one := by
  rintro S w x cs rfl c hc;rw [List.mem_singleton.1 hc]; rfl
theorem Zh8 : (Tryz.prog.info? 3).map (fun i => (i.zero, i.size, i.bytes)) = some (some (.int .i64 0), 1, 8) := by kernel_rfl
def Q9 (l : List Rec) (fr most : Int) : Nat → List Int
 | 0 => []
 | k + 1 => if (Q4 l ((k : Int) + 1)).e = 0 ∧ fr ≤ (k : Int) + 1 ∧ ((Q9 l fr most k).length : Int) < most then Q9 l fr most k ++ [(k : Int) + 1] else Q9 l fr most k
def Vg (d : Dk) (p : Nat) : Nat → Bool
 | 0 => false
 | q + 1 => Vg d p q || decide ((d.tell (q : Int)).kind ≠ 1 ∧ (d.tell (q : Int)).ver = (d.tell (p : Int)).ver)
def Yl (d : Dk) : Nat → List Int
 | 0 => []
 | p + 1 => if (d.tell (p : Int)).kind ≠ 1 ∧ Vg d p p = true then Yl d p ++ [(p : Int)] else Yl d p
theorem Zbc (d : Dk) : ∀ p, (Yl d p).length ≤ p
 | 0 => Nat.le_refl _
 | p + 1 => by
  have := Zbc d p;unfold Yl;split
  ·simp; omega
  ·omega
theorem Zuv (d : Dk) (p : Int) : 0 ≤ d.how p ∧ d.how p < 6 := by
 unfold Dk.how;split
 ·omega
 ·split
  ·split <;> omega
  ·split
   ·omega
   ·split
    ·omega
    ·split <;> omega
def cnt (d : Dk) : Nat → Int → Int
 | 0, _ => 0
 | k + 1, i => cnt d k i + (if d.how (k : Int) = i then 1 else 0)
theorem Zu2 (d : Dk) : ∀ (k : Nat) (i : Int), 0 ≤ cnt d k i ∧ cnt d k i ≤ (k : Int)
 | 0, _ => by simp [cnt]
 | k + 1, i => by
  have := Zu2 d k i;unfold cnt;split <;> omega
abbrev Qt (f : Int → Int) : Array Value := #[.int .i64 (f 0), .int .i64 (f 1), .int .i64 (f 2), .int .i64 (f 3), .int .i64 (f 4), .int .i64 (f 5)]
abbrev Qf : Obj := .cells #[.int .i64 0, .int .i64 0, .int .i64 0, .int .i64 0, .int .i64 0, .int .i64 0] 45 (0, 0)
theorem Zgx {w : World} {g : Nat} {T : TypeId} {f} {c0 c1 c2 c3 c4 c5 : Value} (h : w.heap[g]? = some (.cells #[c0, c1, c2, c3, c4, c5] T f)) (x0 x1 x2 x3 x4 x5 : Value) :
  ((((((w.setCell ⟨g, 0, none⟩ x0).setCell ⟨g, 1, none⟩ x1).setCell ⟨g, 2, none⟩ x2).setCell ⟨g, 3, none⟩ x3).setCell ⟨g, 4, none⟩ x4).setCell ⟨g, 5, none⟩ x5).heap[g]? = some (.cells #[x0, x1, x2, x3, x4, x5] T f) ∧ Zp g w ((((((w.setCell ⟨g, 0, none⟩ x0).setCell ⟨g, 1, none⟩ x1).setCell ⟨g, 2, none⟩ x2).setCell ⟨g, 3, none⟩ x3).setCell ⟨g, 4, none⟩ x4).setCell ⟨g, 5, none⟩ x5) :=
 ⟨heap_set (heap_set (heap_set (heap_set (heap_set (heap_set h 0 x0) 1 x1) 2 x2) 3 x3) 4 x4) 5 x5, ((((((Zp.refl g w).set _ _ _).set _ _ _).set _ _ _).set _ _ _).set _ _ _).set _ _ _⟩
theorem Ztj {w : World} {g : Nat} {T : TypeId} {c : Int → Int} (h : w.heap[g]? = some (.cells (Qt c) T (0, 0))) {j : Nat} (hj : j < 6) :
  w.cell? ⟨g, j, none⟩ = some (.int .i64 (c (j : Int))) ∧ w.frozen? ⟨g, j, none⟩ = false ∧ (w.setCell ⟨g, j, none⟩ (.int .i64 (c (j : Int) + 1))).heap[g]? = some (.cells (Qt (fun i => c i + (if (j : Int) = i then 1 else 0))) T (0, 0)) := by
 have hs := heap_set h j (.int .i64 (c (j : Int) + 1))
 match j, hj with
 | 0, _ | 1, _ | 2, _ | 3, _ | 4, _ | 5, _ => exact ⟨Zf h _ _ rfl, Zn h _, by rw [hs]; simp [Qt]⟩
def V5 (D : Dk) (tw : List Int) : Nat → Dk
 | 0 => D
 | p + 1 => ((V5 D tw p).pairD (p : Int) (if tw.contains (p : Int) = true then Rec.free else (V5 D tw p).tell (p : Int))).flush
def Dk.clean (d : Dk) : Dk := V5 (d.keep 0) (Yl (d.keep 0) 6) 6
theorem Zet {D : Dk} (h : D.Fine 0) (tw : List Int) : ∀ p, (V5 D tw p).Fine 0
 | 0 => h
 | p + 1 => ((Zet h tw p).pair _ _).flush
theorem Zhd (l : List Int) (k : Nat) (h : k < l.length) (x : Int) : (l.take (k + 1)).contains x = ((l.take k).contains x || x == l[k]) := by
 rw [Bool.eq_iff_iff];simp only [Bool.or_eq_true, List.contains_iff_mem, beq_iff_eq];rw [List.take_succ_eq_append_getElem h, List.mem_append, List.mem_singleton]
end Go.Proofs.YtgaecpdokgklpadGreatDoor
