import Derived.Test.YtpdnapbchcdhlacGreatRStore2
set_option maxHeartbeats 8000000
namespace Go.Proofs.YtpdnapbchcdhlacGreat
set_option maxRecDepth 100000
open Go.RowKit
open Plain Reg
variable {d : Dd}
def Zxd : Prop := ∀ (S : Nat → Prop) (l : List Rec) (v : Value) (w : World), Qp l = true → Y4 S w v l →
 Calls Tryz.prog 134 #[v] w fun r w' => r = .returned (.int .i64 (X9 l)) ∧ Zl w w'
def Zya : Prop := ∀ (S : Nat → Prop) (l : List Rec) (d : Dd) (v : Value) (a : Option Addr) (c : Nat) (w : World), (∀ b, S b → b < w.heap.size) → Qp l = true → Yh d = 0 → Y4 S w v l → Z1 S w (.slice a d.data.length c) d.data →
 Calls Tryz.prog 65 #[v, .agg #[.int .i64 d.kind, .int .i64 d.key, .int .i64 d.num, .slice a d.data.length c]] w fun r w' => ∃ v', r = .returned (.tuple #[v', .int .i64 (doR l d).n, .int .i64 (doR l d).e]) ∧ Y4 (Z2 S w.heap.size) w' v' (doR l d).l ∧ Zl w w'
theorem Zcc (l : List Rec) : Qp l = true ↔ (∀ r ∈ l, Z3 r = 0 ∧ r.kind ≠ 1) ∧ l.length ≤ 40 := by
 unfold Qp Zb3;simp only [Bool.and_eq_true, List.all_eq_true, decide_eq_true_eq]
theorem Zbe (h : Yh d = 0) : 1 ≤ d.kind ∧ d.kind ≤ 3 ∧ 1 ≤ d.key ∧ d.key ≤ 255 ∧ d.data.length ≤ 8 ∧ (d.kind = 1 ∨ d.data.length = 0) := by
 unfold Yh at h;by_cases h1 : d.kind < 1 ∨ 3 < d.kind
 ·rw [if_pos h1] at h; omega
 ·rw [if_neg h1] at h;generalize (if d.kind = 3 then (1 : Int) else 0) = lo at h;generalize (if d.kind = 3 then (60000 : Int) else 0) = hi at h;by_cases h2 : d.key < 1 ∨ 255 < d.key ∨ d.num < lo ∨ hi < d.num
  ·rw [if_pos h2] at h; omega
  ·rw [if_neg h2] at h;by_cases h3 : 8 < d.data.length ∨ d.kind ≠ 1 ∧ d.data.length ≠ 0
   ·rw [if_pos h3] at h; omega
   ·omega
theorem Zg9 : ∀ (l : List Rec) (n : Int), n ≤ l.foldl (fun n r => if n ≤ r.ver then r.ver + 1 else n) n ∧ ∀ r ∈ l, r.ver < l.foldl (fun n r => if n ≤ r.ver then r.ver + 1 else n) n
 | [], n => ⟨Int.le_refl _, fun r h => by cases h⟩
 | x :: l, n => by
  rw [List.foldl_cons];obtain ⟨h1, h2⟩ := Zg9 l (if n ≤ x.ver then x.ver + 1 else n);have h3 : n ≤ (if n ≤ x.ver then x.ver + 1 else n) ∧ x.ver < (if n ≤ x.ver then x.ver + 1 else n) := by split <;> omega
  refine ⟨by omega, fun r hr => ?_⟩;rcases List.mem_cons.1 hr with rfl | hr
  ·omega
  ·exact h2 r hr
theorem Zen {l : List Rec} : 1 ≤ X9 l ∧ ∀ r ∈ l, r.ver < X9 l := Zg9 l 1
theorem Zcd {n : Int} (hw : Yh d = 0) (hk : d.kind ≠ 3) (h0 : 1 ≤ n) (h1 : n ≤ 60000) : Z3 (X5 d n) = 0 ∧ (X5 d n).kind ≠ 1 := by
 obtain ⟨a1, a2, a3, a4, a5, a6⟩ := Zbe hw;have hkk : d.kind = 1 ∨ d.kind = 2 := by omega
 refine ⟨?_, show 1 + d.kind ≠ 1 by omega⟩;obtain ⟨dk, dy, dn, dd⟩ := d;simp only at hkk a3 a4 a5 a6;rcases hkk with rfl | rfl
 ·show Z3 ⟨2, dy, n, dd⟩ = 0;have h2 : Xc ⟨2, dy, n, dd⟩ = true := by simp [Xc]; omega
  unfold Z3;rw [if_neg (by simp), h2, if_neg (by simp), if_neg (by simp [Xa]; omega)]
 ·have h6 : dd = [] := List.eq_nil_of_length_eq_zero (by omega);show Z3 ⟨3, dy, n, dd⟩ = 0;have h2 : Xc ⟨3, dy, n, dd⟩ = true := by simp [Xc]; omega
  unfold Z3;rw [if_neg (by simp), h2, if_neg (by simp), if_neg (by simp [Xa, h6])]
theorem Vq (l : List Rec) : Xs l l = true := by
 unfold Xs;simp only [Bool.and_eq_true, List.all_eq_true, decide_eq_true_eq, and_true];intro r hr;unfold Ve;rw [List.any_eq_true];exact ⟨r, hr, Zlt r⟩
variable {n : Nat}
structure St.Ok (n : Nat) (s : St) : Prop where
 disk : s.dk.Fine n
 right : Ql s.idx = true
 six : ∀ x ∈ s.idx, x.pair < 6
structure Zlc where
 st : St
 n : Int
 e : Int
def Zid (d : Dd) (x : Ent) : Bool := decide (x.rc.key = d.key ∧ x.rc.ver = d.num)
def Zir (d : Dd) (l : List Ent) : Int := if d.kind = 3 then (match l.find? (Zid d) with | some x => x.pair | none => -1) else -1
def Zcy (l : List Ent) : Nat → Nat → Nat
 | 0, p => p
 | k + 1, p => if Zi1 l (p : Int) = true then Zcy l k (p + 1) else p
def Qq (l : List Ent) : Nat := Zcy l 7 0
def St.begin (s : St) (d : Dd) : Zlc :=
 if Yh d ≠ 0 then ⟨s, 0, Yh d⟩
 else if (doR s.recs d).e ≠ 0 then ⟨s, 0, (doR s.recs d).e⟩
 else if d.kind = 3 then ⟨⟨s.dk.pairD (Zir d s.idx) Rec.free, Jl s.idx (Zir d s.idx), s.next⟩, (doR s.recs d).n, 0⟩
 else ⟨⟨s.dk.pairD (Qq s.idx) (X5 d (doR s.recs d).n), X6 ⟨X5 d (doR s.recs d).n, (Qq s.idx : Nat)⟩ s.idx, s.next⟩, (doR s.recs d).n, 0⟩
theorem St.Ok.good {s : St} (h : s.Ok n) : ∀ x ∈ s.idx, Good x := ((Xi s.idx).1 h.right).2
theorem St.Ok.len {s : St} (h : s.Ok n) : s.idx.length ≤ 6 := by
 obtain ⟨h1, h2⟩ := (Xi s.idx).1 h.right;have hn : (s.idx.map fun x => x.pair.toNat).Nodup := by
  rw [List.nodup_iff_pairwise_ne, List.pairwise_map];exact List.Pairwise.imp_of_mem (fun ha hb hR e => hR.2 (by have := (h2 _ ha).2.2; have := (h2 _ hb).2.2; omega)) h1
 have := Zfm 6 _ hn fun n hn => by
  obtain ⟨x, hx, rfl⟩ := List.mem_map.1 hn;have h3 := h.six x hx;have := (h2 x hx).2.2;omega
 simpa using this
theorem Zhr {w : World} {g : Nat} {T : TypeId} {f} {c0 c1 c2 c3 : Value} (h : w.heap[g]? = some (.cells #[c0, c1, c2, c3] T f)) (x0 x1 : Value) :
  ((w.setCell ⟨g, 0, none⟩ x0).setCell ⟨g, 1, none⟩ x1).heap[g]? = some (.cells #[x0, x1, c2, c3] T f) ∧ Zp g w ((w.setCell ⟨g, 0, none⟩ x0).setCell ⟨g, 1, none⟩ x1) :=
 ⟨Yb (Yb h 0 x0) 1 x1, ((Zp.refl g w).set _ _ _).set _ _ _⟩
variable {n : Nat}
def St.doS (s : St) (d : Dd) : Zlc := if (s.begin d).e = 0 then ⟨⟨(s.begin d).st.dk.flush, (s.begin d).st.idx, (s.begin d).st.next⟩, (s.begin d).n, 0⟩ else s.begin d
theorem Zek : ∀ (l m : List Nat), l.Nodup → (∀ x ∈ l, x ∈ m) → l.length ≤ m.length
 | [], _, _, _ => Nat.zero_le _
 | x :: l, m, hn, h => by
  obtain ⟨h1, h2⟩ := List.nodup_cons.1 hn;have hx := h x (by simp);have := Zek l (m.erase x) h2 fun y hy => (List.mem_erase_of_ne (by rintro rfl; exact h1 hy)).2 (h y (by simp [hy]))
  have := List.length_erase_of_mem hx;have := List.length_pos_of_mem hx;simp; omega
theorem Zp2 {l : List Ent} {f : Nat} (h : Zac l f) : f ≤ l.length := by
 have := Zek (List.range f) (l.map fun x => x.pair.toNat) List.nodup_range fun x hx => by
  obtain ⟨e, he, hp⟩ := h.1 x (by simpa using hx);exact List.mem_map.2 ⟨e, he, by rw [hp]; simp⟩
 simpa using this
theorem Zec {l : List Ent} : ∀ (k p : Nat), (∀ m : Nat, m < p → Zi1 l (m : Int) = true) → l.length < p + k → Zac l (Zcy l k p) ∧ Zcy l k p ≤ l.length
 | 0, p, h, hk => by
  exfalso;have := Zek (List.range p) (l.map fun x => x.pair.toNat) List.nodup_range fun x hx => by
   obtain ⟨e, he, hp⟩ := (Zeu l _).1 (h x (by simpa using hx));exact List.mem_map.2 ⟨e, he, by rw [hp]; simp⟩
  simp at this;omega
 | k + 1, p, h, hk => by
  unfold Zcy;by_cases hu : Zi1 l (p : Int) = true
  ·rw [if_pos hu];refine Zec k (p + 1) (fun m hm => ?_) (by omega);by_cases e : m = p
   ·rw [e]; exact hu
   ·exact h m (by omega)
  ·rw [if_neg hu];have hL : Zac l p := ⟨fun m hm => (Zeu l _).1 (h m hm), fun x hx hp => hu ((Zeu l _).2 ⟨x, hx, hp⟩)⟩;exact ⟨hL, Zp2 hL⟩
theorem Zaj {l : List Ent} (h : l.length ≤ 6) : Zac l (Qq l) ∧ Qq l ≤ l.length := Zec 7 0 (fun m hm => by omega) (by omega)
theorem Zf3 {l : List Ent} (h : Ql l = true) (p : Int) : Ql (Jl l p) = true := by
 obtain ⟨h1, h2⟩ := (Xi l).1 h;exact (Xi _).2 ⟨h1.filter _, fun x hx => h2 x ((List.mem_filter.1 hx).1)⟩
theorem Zc6 {l : List Rec} {d : Dd} (hk : d.kind ≠ 3) (he : (doR l d).e = 0) : l.length ≤ 5 ∧ (doR l d).n = X9 l ∧ X9 l ≤ 60000 := by
 unfold doR at he ⊢;rw [if_neg hk] at he ⊢;by_cases h5 : 5 < l.length
 ·rw [if_pos h5] at he; cases he
 ·rw [if_neg h5] at he ⊢;by_cases h6 : 60000 < X9 l
  ·rw [if_pos h6] at he; cases he
  ·rw [if_neg h6]; exact ⟨by omega, rfl, by omega⟩
theorem Zjt {s : St} {d : Dd} (hk : d.kind = 3) (he : (doR s.recs d).e = 0) : ∃ x, Zam s.idx d.key d.num = some x ∧ Zir d s.idx = x.pair := by
 cases hf : s.idx.find? (Zid d) with
 | some x => exact ⟨x, hf, by unfold Zir; rw [if_pos hk, hf]⟩
 | none =>
  exfalso;unfold doR at he;rw [if_pos hk, Zko ?_] at he
  ·exact absurd (show (6 : Int) = 0 from he) (by decide)
  ·intro r hr;obtain ⟨x, hx, rfl⟩ := List.mem_map.1 hr;have := List.find?_eq_none.1 hf x hx;unfold Zid at this;unfold Vp;simpa using this
theorem St.Ok.mono {m : Nat} {s : St} (h : s.Ok n) (hm : n ≤ m) : s.Ok m := ⟨h.disk.mono hm, h.right, h.six⟩
theorem Zc7 {s : St} {d : Dd} (h : s.Ok n) : (s.begin d).st.Ok (n + 2) := by
 unfold St.begin;by_cases hw : Yh d = 0
 ·rw [if_neg (by simpa using hw)];by_cases he : (doR s.recs d).e = 0
  ·rw [if_neg (by simpa using he)];by_cases hk : d.kind = 3
   ·rw [if_pos hk];exact ⟨h.disk.pair _ _, Zf3 h.right _, fun x hx => h.six x ((List.mem_filter.1 hx).1)⟩
   ·rw [if_neg hk];obtain ⟨h5, hn, h6⟩ := Zc6 hk he;have hl5 : s.idx.length ≤ 5 := by simpa [St.recs] using h5
    obtain ⟨hL, hL5⟩ := Zaj (l := s.idx) (by omega);have hm := Zcd (n := (doR s.recs d).n) hw hk (by rw [hn]; exact Zen.1) (by rw [hn]; exact h6);refine ⟨h.disk.pair _ _, Js h.right ⟨hm.1, hm.2, ?_, ?_⟩ hL.2, fun x hx => ?_⟩
    ·show (0 : Int) ≤ ((Qq s.idx : Nat) : Int); omega
    ·show ((Qq s.idx : Nat) : Int) ≤ 1000; omega
    ·rcases (Ji _ _ _).1 hx with rfl | h1
     ·show ((Qq s.idx : Nat) : Int) < 6; omega
     ·exact h.six x h1
  ·rw [if_pos (by simpa using he)]; exact h.mono (by omega)
 ·rw [if_pos (by simpa using hw)]; exact h.mono (by omega)
theorem Zvy {s : St} {d : Dd} (h : s.Ok 0) : (s.doS d).st.Ok 0 := by
 have hb := Zc7 (d := d) h;unfold St.doS;by_cases he : (s.begin d).e = 0
 ·rw [if_pos he]; exact ⟨hb.disk.flush, hb.right, hb.six⟩
 ·rw [if_neg he];unfold St.begin at he ⊢;by_cases hw : Yh d = 0
  ·rw [if_neg (by simpa using hw)] at he ⊢;by_cases hr : (doR s.recs d).e = 0
   ·rw [if_neg (by simpa using hr)] at he;exfalso;revert he;by_cases hk : d.kind = 3
    ·rw [if_pos hk]; exact fun h => h rfl
    ·rw [if_neg hk]; exact fun h => h rfl
   ·rw [if_pos (by simpa using hr)]; exact h
  ·rw [if_pos (by simpa using hw)]; exact h
theorem Zsu {d : Dk} (h : d.Fine n) : (Xy d).Ok 0 :=
 ⟨h.kept 0, Vo _ 6 (by omega), fun x hx => by
  obtain ⟨p, hp, _, rfl⟩ := (Va _ _ 6).1 hx;show ((p : Nat) : Int) < 6; omega⟩
structure Sp where
 kind : Int
 n : Int
 m : Int
 deed : Dd
def Qb (s : St) (x : Sp) : Bool := if x.kind ≠ 3 ∨ x.n < 0 ∨ 192 ≤ x.n then true else decide (s.dk.how (x.n / 32) < 2)
def St.scrub (s : St) : St := ⟨(s.dk.mendD s.next).flush, Z4 (s.dk.mendD s.next).flush 6, (s.next + 1) % 6⟩
theorem Zrv {n : Nat} {s : St} (h : s.dk.Fine n) : (s.scrub).Ok 0 :=
 ⟨(h.mend s.next).flush, Vo _ 6 (by omega), fun x hx => by
  obtain ⟨p, hp, _, rfl⟩ := (Va _ _ 6).1 hx;show ((p : Nat) : Int) < 6; omega⟩
def Vi : Qg Int where
 T := 3
 size := 1
 enc _ _ x cs := cs = [.int .i64 x]
 len := by rintro S w x cs rfl; rfl
 keep := by rintro S w w' x cs rfl _; rfl
 mono := by rintro S S' w x cs rfl _; rfl
 cap := by rintro S w x cs rfl; rfl
 one := by
  rintro S w x cs rfl c hc;rw [List.mem_singleton.1 hc]; rfl
theorem Zp4 : (Tryz.prog.info? 3).map (fun i => (i.zero, i.size, i.bytes)) = some (some (.int .i64 0), 1, 8) := by kernel_rfl
def Vn (d : Dk) (p : Nat) : Nat → Bool
 | 0 => false
 | q + 1 => Vn d p q || decide ((d.tell (q : Int)).kind ≠ 1 ∧ (d.tell (q : Int)).ver = (d.tell (p : Int)).ver)
def Yp (d : Dk) : Nat → List Int
 | 0 => []
 | p + 1 => if (d.tell (p : Int)).kind ≠ 1 ∧ Vn d p p = true then Yp d p ++ [(p : Int)] else Yp d p
theorem Zax (d : Dk) : ∀ p, (Yp d p).length ≤ p
 | 0 => Nat.le_refl _
 | p + 1 => by
  have := Zax d p;unfold Yp;split
  ·simp; omega
  ·omega
variable {T : TypeId} {g : Nat} {w : World}
theorem Zw1 (d : Dk) (p : Int) : 0 ≤ d.how p ∧ d.how p < 6 := by
 unfold Dk.how;split
 ·omega
 ·split
  ·split <;> omega
  ·split
   ·omega
   ·split
    ·omega
    ·split <;> omega
def cnt (d : Dk) : Nat → Int → Int
 | 0, _ => 0
 | k + 1, i => cnt d k i + (if d.how (k : Int) = i then 1 else 0)
theorem Zte (d : Dk) : ∀ (k : Nat) (i : Int), 0 ≤ cnt d k i ∧ cnt d k i ≤ (k : Int)
 | 0, _ => by simp [cnt]
 | k + 1, i => by
  have := Zte d k i;unfold cnt;split <;> omega
abbrev K1 (f : Int → Int) : Array Value := #[.int .i64 (f 0), .int .i64 (f 1), .int .i64 (f 2), .int .i64 (f 3), .int .i64 (f 4), .int .i64 (f 5)]
abbrev Kn : Obj := .cells #[.int .i64 0, .int .i64 0, .int .i64 0, .int .i64 0, .int .i64 0, .int .i64 0] 39 (0, 0)
theorem Zk2 {f} {c0 c1 c2 c3 c4 c5 : Value} (h : w.heap[g]? = some (.cells #[c0, c1, c2, c3, c4, c5] T f)) (x0 x1 x2 x3 x4 x5 : Value) :
  ((((((w.setCell ⟨g, 0, none⟩ x0).setCell ⟨g, 1, none⟩ x1).setCell ⟨g, 2, none⟩ x2).setCell ⟨g, 3, none⟩ x3).setCell ⟨g, 4, none⟩ x4).setCell ⟨g, 5, none⟩ x5).heap[g]? = some (.cells #[x0, x1, x2, x3, x4, x5] T f) ∧ Zp g w ((((((w.setCell ⟨g, 0, none⟩ x0).setCell ⟨g, 1, none⟩ x1).setCell ⟨g, 2, none⟩ x2).setCell ⟨g, 3, none⟩ x3).setCell ⟨g, 4, none⟩ x4).setCell ⟨g, 5, none⟩ x5) :=
 ⟨Yb (Yb (Yb (Yb (Yb (Yb h 0 x0) 1 x1) 2 x2) 3 x3) 4 x4) 5 x5, ((((((Zp.refl g w).set _ _ _).set _ _ _).set _ _ _).set _ _ _).set _ _ _).set _ _ _⟩
theorem Zwg {c : Int → Int} (h : w.heap[g]? = some (.cells (K1 c) T (0, 0))) {j : Nat} (hj : j < 6) :
  w.cell? ⟨g, j, none⟩ = some (.int .i64 (c (j : Int))) ∧ w.frozen? ⟨g, j, none⟩ = false ∧ (w.setCell ⟨g, j, none⟩ (.int .i64 (c (j : Int) + 1))).heap[g]? = some (.cells (K1 (fun i => c i + (if (j : Int) = i then 1 else 0))) T (0, 0)) := by
 have hs := Yb h j (.int .i64 (c (j : Int) + 1))
 match j, hj with
 | 0, _ | 1, _ | 2, _ | 3, _ | 4, _ | 5, _ => exact ⟨Zc h _ _ rfl, Zo h _, by rw [hs]; simp [K1]⟩
def V2 (D : Dk) (tw : List Int) : Nat → Dk
 | 0 => D
 | p + 1 => ((V2 D tw p).pairD (p : Int) (if tw.contains (p : Int) = true then Rec.free else (V2 D tw p).tell (p : Int))).flush
def Dk.clean (d : Dk) : Dk := V2 (d.keep 0) (Yp (d.keep 0) 6) 6
theorem Zd6 {D : Dk} (h : D.Fine 0) (tw : List Int) : ∀ p, (V2 D tw p).Fine 0
 | 0 => h
 | p + 1 => ((Zd6 h tw p).pair _ _).flush
theorem Zgq (l : List Int) (k : Nat) (h : k < l.length) (x : Int) : (l.take (k + 1)).contains x = ((l.take k).contains x || x == l[k]) := by
 rw [Bool.eq_iff_iff];simp only [Bool.or_eq_true, List.contains_iff_mem, beq_iff_eq];rw [List.take_succ_eq_append_getElem h, List.mem_append, List.mem_singleton]
end Go.Proofs.YtpdnapbchcdhlacGreat
