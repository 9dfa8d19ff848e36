import Derived.Test.YtgaecpdokgklpadGreatDoorRow
set_option maxHeartbeats 8000000
namespace Go.Proofs.YtgaecpdokgklpadGreatDoor
set_option maxRecDepth 100000
open Go.RowKit
open Plain Reg
def Yv (a b : Ent) : Bool := if a.rc.key = b.rc.key then (if a.rc.ver = b.rc.ver then decide (a.pair < b.pair) else decide (a.rc.ver < b.rc.ver)) else decide (a.rc.key < b.rc.key)
def Vj (e : Ent) (st : List Ent × Bool) (x : Ent) : List Ent × Bool := if st.2 = false ∧ Yv e x = true then (st.1 ++ [e] ++ [x], true) else (st.1 ++ [x], st.2)
def Zof (e : Ent) (l : List Ent) : List Ent × Bool := l.foldl (Vj e) ([], false)
def X9 (e : Ent) (l : List Ent) : List Ent := if (Zof e l).2 = true then (Zof e l).1 else (Zof e l).1 ++ [e]
theorem Za6 {P : Program} {w w2 : World} {o : Oper} {ev : Operand → Value} {v' : Value} (s x : Operand) (t : TypeId) (ho : o.op = .call { callee := .builtin .append, args := #[s, x], argTypes := #[t, t] }) (v u : Value) (hs : ev s = v) (hx : ev x = u)
  (hr : (Builtin.append_ #[t, t] o.type #[v, u]).run P w = .ok v' w2) : (execOp ev o).run P w = .ok (.value v') w2 := by
 unfold execOp;simp only [ho, resolve, invoke, builtin, Sem.run_bind, Sem.run_pure, Result.andThen_ok, List.map_toArray, List.map_cons, List.map_nil, hs, hx, hr]
def Rec.free : Rec := ⟨1, 0, 0, []⟩
def Y8 (d : Dk) (a : Int) : List UInt8 := (d.get a).getD []
def Qg (d : Dk) (a : Int) : Int := Vb (Y8 d a) a
def Yb (d : Dk) (a : Int) : Rec := if Qg d a = 0 then Y4 (Y8 d a) a else Rec.free
def Xi (d : Dk) (a : Int) : Int := if Qg d a = 0 then 0 else 1
def X3 (d : Dk) (a : Int) : Int := if (Yb d a).kind = 1 then 0 else 1
theorem Zak (d : Dk) (a : Int) : 0 ≤ Xi d a ∧ Xi d a ≤ 1 := by unfold Xi; split <;> omega
def Zcg (d : Dk) (p : Int) : Rec := if (Yb d (2 * p)).kind = 1 then Yb d (2 * p + 1) else Yb d (2 * p)
def Dk.noPair (d : Dk) (p : Int) : Bool := decide (p < 0 ∨ ((d.blocks.length / 2 : Nat) : Int) ≤ p)
def Dk.how (d : Dk) (p : Int) : Int :=
 if d.noPair p = true then 4 else if X3 d (2 * p) + X3 d (2 * p + 1) = 2 then (if Jb (Yb d (2 * p)) (Yb d (2 * p + 1)) = true then 1 else 5)
 else if X3 d (2 * p) + X3 d (2 * p + 1) = 1 then 2 else if Xi d (2 * p) + Xi d (2 * p + 1) = 0 then 0 else if Xi d (2 * p) + Xi d (2 * p + 1) = 1 then 3 else 4
def Dk.tell (d : Dk) (p : Int) : Rec := if d.noPair p = true then Rec.free else if X3 d (2 * p) + X3 d (2 * p + 1) = 0 then Rec.free else Zcg d p
theorem Zu6 (g : Nat) (o : Obj) : Xy (fun _ w => w.heap[g]? = some o) := fun _ _ _ hg h => (hg.block _ (Zb h)).trans h
def Dk.mendD (d : Dk) (p : Int) : Dk := if 2 ≤ d.how p then d.pairD p (d.tell p) else d
def Yc (d : Dk) : Nat → List Ent
 | 0 => []
 | n + 1 => if (d.tell (n : Int)).kind = 1 then Yc d n else X9 ⟨d.tell (n : Int), (n : Int)⟩ (Yc d n)
def Za2 (pre : List Ent) (e : Ent) : Bool := match pre.getLast? with | none => true | some x => Yv x e
def okE (pre : List Ent) (e : Ent) : Bool := decide (Z6 e.rc = 0 ∧ e.rc.kind ≠ 1 ∧ 0 ≤ e.pair ∧ e.pair ≤ 1000) && Za2 pre e && pre.all (fun x => decide (x.pair ≠ e.pair))
def Jx (pre : List Ent) : List Ent → Bool
 | [] => true
 | e :: l => okE pre e && Jx (pre ++ [e]) l
def Xq (l : List Ent) : Bool := Jx [] l
theorem Zio (c : UInt8) : lo (c.toNat : Int) = c := by
 refine UInt8.toNat_inj.1 ?_;have := Jo (c.toNat : Int);have hc : c.toNat < 256 := UInt8.toNat_lt _;omega
theorem Jz (n : Int) (h0 : 0 ≤ n) (h1 : n ≤ 255) : ((lo n).toNat : Int) = n := by rw [Jo]; omega
theorem Zwm (x y : UInt8) : hi ((x.toNat : Int) * 256 + (y.toNat : Int)) = x := by
 have hx : x.toNat < 256 := UInt8.toNat_lt _;have hy : y.toNat < 256 := UInt8.toNat_lt _;exact ((Zb7 x y _ (by omega) (by omega)).1 rfl).1
theorem Zwl (x y : UInt8) : lo ((x.toNat : Int) * 256 + (y.toNat : Int)) = y := by
 have hx : x.toNat < 256 := UInt8.toNat_lt _;have hy : y.toNat < 256 := UInt8.toNat_lt _;exact ((Zb7 x y _ (by omega) (by omega)).1 rfl).2
theorem Zv6 (r : Rec) (a : Int) : at' (blk r a) 0 = lo r.kind := rfl
theorem Zv5 (r : Rec) (a : Int) : at' (blk r a) 1 = lo a := rfl
theorem Zv4 (r : Rec) (a : Int) : at' (blk r a) 2 = lo r.key := rfl
theorem Zv3 (r : Rec) (a : Int) : at' (blk r a) 3 = hi r.ver := rfl
theorem Zv2 (r : Rec) (a : Int) : at' (blk r a) 4 = lo r.ver := rfl
theorem Zi5 (r : Rec) (a : Int) : at' (blk r a) 5 = lo (r.data.length : Int) := rfl
theorem Zli (r : Rec) (a : Int) : (blk r a).drop 6 = r.data ++ (List.replicate (8 - r.data.length) 0 ++ [hi (Xe (Zaq r a)), lo (Xe (Zaq r a))]) := by
 show (r.data ++ List.replicate (8 - r.data.length) 0) ++ _ = _;rw [List.append_assoc]
theorem Zn5 (r : Rec) (a : Int) (h : Z6 r = 0) : Xn (blk r a) = r := by
 obtain ⟨k0, k1, y0, y1, n0, n1, hl⟩ := V2 h;unfold Xn;rw [Zv6, Zv4, Zv3, Zv2, Zi5, Zli];have e1 := Jz r.kind (by omega) (by omega);have e2 := Jz r.key (by omega) (by omega);have e3 := Jz (r.data.length : Int) (by omega) (by omega);have e4 : ((hi r.ver).toNat : Int) * 256 + ((lo r.ver).toNat : Int) = r.ver := by rw [Zm9, Jo]; omega
 have e5 : (lo (r.data.length : Int)).toNat = r.data.length := by omega
 rw [e1, e2, e4, e5, List.take_left' rfl]
theorem Zsh (r : Rec) (a : Int) (h : Z6 r = 0) : Y1 (Vh (blk r a)) = true := by
 obtain ⟨k0, k1, y0, y1, n0, n1, hl⟩ := V2 h;have e3 := Jz (r.data.length : Int) (by omega) (by omega);have e5 : (lo (r.data.length : Int)).toNat = r.data.length := by omega
 unfold Vh;rw [Zi5, e5, ← List.drop_drop, Zli, List.drop_left' rfl, List.take_left' (by simp)];unfold Y1;rw [List.all_eq_true];intro c hc;simp [List.eq_of_mem_replicate hc]
theorem Zmd (r : Rec) (a : Int) (h : Z6 r = 0) (h0 : 0 ≤ a) (h1 : a ≤ 255) : spoilt (blk r a) a = 0 := by
 obtain ⟨k0, k1, y0, y1, n0, n1, hl⟩ := V2 h;have e1 := Jz a h0 h1;have e3 := Jz (r.data.length : Int) (by omega) (by omega);unfold spoilt;rw [if_neg (by rw [Q8 r a hl]; simp), if_neg (by unfold blk; rw [Ze6]; simp), if_neg (by rw [Zv5, e1]; simp), if_neg (by rw [Zi5]; omega), if_neg (by rw [Zsh r a h]; simp)]
theorem Zj2 (r : Rec) (a : Int) (h : Z6 r = 0) (h0 : 0 ≤ a) (h1 : a ≤ 255) : Vb (blk r a) a = 0 ∧ Y4 (blk r a) a = r := by
 have e : Vb (blk r a) a = 0 := by unfold Vb; rw [if_pos (Zmd r a h h0 h1), Zn5 r a h]; exact h
 refine ⟨e, ?_⟩;unfold Y4;rw [if_pos e, Zn5 r a h]
theorem Zml {b : List UInt8} {a : Int} (h : Vb b a = 0) : spoilt b a = 0 ∧ Z6 (Xn b) = 0 ∧ Y4 b a = Xn b := by
 have hr : Y4 b a = Xn b := by unfold Y4; rw [if_pos h]
 unfold Vb at h;by_cases hs : spoilt b a = 0
 ·rw [if_pos hs] at h; exact ⟨hs, h, hr⟩
 ·rw [if_neg hs] at h; exact absurd h hs
theorem Zwo (b : List UInt8) (a : Int) (hs : spoilt b a = 0) : b.take 14 = Zaq (Xn b) a := by
 obtain ⟨hl, hsl, hp, h8, hn⟩ := K8 hs;have hlen : ((b.drop 6).take (at' b 5).toNat).length = (at' b 5).toNat := by simp; omega
 have hz : Vh b = List.replicate (8 - (at' b 5).toNat) 0 := by
  refine List.eq_replicate_iff.2 ⟨by unfold Vh; simp; omega, fun c hc => ?_⟩;unfold Y1 at hn;have := (List.all_eq_true.1 hn) c hc;simpa using this
 unfold Zaq Xn;simp only [];rw [hlen, Zio, Zio, Zwm, Zwl, Zio, ← hp, Zio, ← hz];have e : b.take 14 = [at' b 0, at' b 1, at' b 2, at' b 3, at' b 4, at' b 5] ++ (b.drop 6).take 8 := by
  match b, hl with
  | [x0, x1, x2, x3, x4, x5, x6, x7, x8, x9, x10, x11, x12, x13, x14, x15], _ => rfl
 rw [e]
 congr 1
 unfold Vh;rw [← List.drop_drop, ← List.take_add]
 congr 1
 omega
theorem Zlh (b : List UInt8) (a : Int) (h : Vb b a = 0) : Z6 (Y4 b a) = 0 ∧ blk (Y4 b a) a = b := by
 obtain ⟨hs, hw, hr⟩ := Zml h;obtain ⟨hl, hsl, -, -, -⟩ := K8 hs;rw [hr];refine ⟨hw, ?_⟩;unfold blk;rw [← Zwo b a hs];have := Zmi b (by omega);rw [hsl, hl] at this;exact beq_iff_eq.1 this
theorem Zj1 (r : Rec) (a : Int) (n : Nat) (c : UInt8) (h : Z6 r = 0) (hn : n < (blk r a).length) (hne : (blk r a)[n] ≠ c) : Vb ((blk r a).set n c) a = 7 := by
 obtain ⟨k0, k1, y0, y1, n0, n1, hl⟩ := V2 h;have e : spoilt ((blk r a).set n c) a = 7 := by
  have hse : Xw ((blk r a).set n c) = false := Zju (Zaq r a) n c hn hne;unfold spoilt;rw [if_neg (by rw [List.length_set, Q8 r a hl]; simp), if_pos hse]
 unfold Vb;rw [e]; rfl
end Go.Proofs.YtgaecpdokgklpadGreatDoor
namespace Go.Proofs.YtgaecpdokgklpadGreatDoor
set_option maxRecDepth 100000
open Plain
theorem Qk : Z6 Rec.free = 0 := by decide
theorem Ze4 (d : Dk) (a : Int) : Z6 (Yb d a) = 0 := by
 unfold Yb;split
 ·next h => exact (Zlh _ _ h).1
 ·exact Qk
theorem X0 (d : Dk) (p : Int) : Z6 (d.tell p) = 0 := by
 unfold Dk.tell;split
 ·exact Qk
 ·split
  ·exact Qk
  ·unfold Zcg; split
   ·exact Ze4 _ _
   ·exact Ze4 _ _
theorem Zr8 {d : Dk} {a : Int} {r : Rec} (h : d.get a = some (blk r a)) (hr : Z6 r = 0) (h0 : 0 ≤ a) (h1 : a ≤ 255) : Yb d a = r ∧ Xi d a = 0 := by
 have hb : Y8 d a = blk r a := by unfold Y8; rw [h]; rfl
 obtain ⟨he, hR⟩ := Zj2 r a hr h0 h1;unfold Xi Yb Qg;rw [hb, if_pos he, if_pos he]; exact ⟨hR, rfl⟩
theorem Ze5 {d : Dk} {a : Int} (h : Qg d a ≠ 0) : Yb d a = Rec.free ∧ Xi d a = 1 := by
 unfold Xi Yb;rw [if_neg h, if_neg h]; exact ⟨rfl, rfl⟩
theorem Qn {d : Dk} {a : Int} (h : (Yb d a).kind = 1) : X3 d a = 0 := by unfold X3; rw [if_pos h]
theorem Ko {d : Dk} {a : Int} (h : (Yb d a).kind ≠ 1) : X3 d a = 1 := by unfold X3; rw [if_neg h]
theorem Vk {d : Dk} {p : Int} {r : Rec} (hn : d.noPair p = false) (h0 : Yb d (2 * p) = r) (h1 : Yb d (2 * p + 1) = r) (hr : r.kind ≠ 1) : d.how p = 1 ∧ d.tell p = r := by
 have s0 : X3 d (2 * p) = 1 := Ko (by rw [h0]; exact hr);have s1 : X3 d (2 * p + 1) = 1 := Ko (by rw [h1]; exact hr);have hs : Jb r r = true := by rw [Jw]
 unfold Dk.how Dk.tell Zcg;rw [hn, s0, s1, h0, h1, if_neg hr];simp [hs]
theorem Ztr {d : Dk} {p : Int} (hn : d.noPair p = false) (h0 : (Yb d (2 * p)).kind = 1) (h1 : (Yb d (2 * p + 1)).kind = 1) (b0 : Xi d (2 * p) = 0) (b1 : Xi d (2 * p + 1) = 0) : d.how p = 0 ∧ d.tell p = Rec.free := by
 have s0 := Qn h0;have s1 := Qn h1;unfold Dk.how Dk.tell;rw [hn, s0, s1, b0, b1];simp
theorem Q5 {d : Dk} {p : Int} {r : Rec} (hn : d.noPair p = false) (hr : r.kind ≠ 1) (h : Yb d (2 * p) = r ∧ (Yb d (2 * p + 1)).kind = 1 ∨ Yb d (2 * p + 1) = r ∧ (Yb d (2 * p)).kind = 1) : d.how p = 2 ∧ d.tell p = r := by
 rcases h with ⟨h0, h1⟩ | ⟨h0, h1⟩
 ·have s0 : X3 d (2 * p) = 1 := Ko (by rw [h0]; exact hr);have s1 := Qn h1;unfold Dk.how Dk.tell Zcg;rw [hn, s0, s1, h0, if_neg hr];simp
 ·have s1 : X3 d (2 * p + 1) = 1 := Ko (by rw [h0]; exact hr);have s0 := Qn h1;unfold Dk.how Dk.tell Zcg;rw [hn, s0, s1, h0, if_pos h1];simp
theorem Zpz {d : Dk} {p : Int} (h0 : 0 ≤ p) (h1 : 2 * p + 1 < (d.blocks.length : Int)) : d.noPair p = false := by
 unfold Dk.noPair; exact decide_eq_false (by omega)
theorem Zj9 {d : Dk} {p : Int} {r : Rec} (h0 : 0 ≤ p) (h1 : 2 * p + 1 < (d.blocks.length : Int)) : d.pairE p r = Z6 r := by
 unfold Dk.pairE; rw [if_neg (by omega)]
theorem Zi6 (r : Rec) (a : Int) (h : Z6 r = 0) : (blk r a).length = 16 := Q8 r a (V2 h).2.2.2.2.2.2
theorem Zjs {d : Dk} {a : Int} {r : Rec} {n y : Int} (h : d.get a = some (turned (blk r a) n y)) (hr : Z6 r = 0) (hn0 : 0 ≤ n) (hn1 : n < ((blk r a).length : Int)) (hy : y % 256 ≠ 0) : Yb d a = Rec.free ∧ Xi d a = 1 := by
 refine Ze5 ?_;unfold Qg;have hb : Y8 d a = turned (blk r a) n y := by unfold Y8; rw [h]; rfl
 rw [hb];unfold turned;rw [if_pos ⟨hn0, hn1⟩, Kj _ _ _ (by omega)];rw [Zj1 r a n.toNat _ hr (by omega) ?_]
 ·decide
 ·intro hE;have h1 : lo y = 0 := by
   have h2 : (blk r a)[n.toNat] ^^^ ((blk r a)[n.toNat] ^^^ lo y) = (blk r a)[n.toNat] ^^^ (blk r a)[n.toNat] := by rw [← hE]
   rw [← UInt8.xor_assoc, UInt8.xor_self, UInt8.zero_xor] at h2;exact h2
  have h3 := Jo y;rw [h1] at h3;exact hy h3.symm
theorem Zvt (a : Int) (h0 : 0 ≤ a) (h1 : a < 12) : (Dk.new.blocks).getD a.toNat [] = blk Rec.free a := by
 unfold Dk.new;rw [Kj _ _ _ (by simp; omega), List.getElem_map, List.getElem_range, show ((a.toNat : Nat) : Int) = a from by omega]; rfl
def Za5 (e : Ent) : List Ent → List Ent
 | [] => [e]
 | x :: l => if Yv e x = true then e :: x :: l else x :: Za5 e l
theorem Zf1 (e : Ent) : ∀ (l pre : List Ent), l.foldl (Vj e) (pre, true) = (pre ++ l, true)
 | [], pre => by simp
 | x :: l, pre => by
  rw [List.foldl_cons, show Vj e (pre, true) x = (pre ++ [x], true) from by simp [Vj], Zf1 e l];simp
theorem Zhj (e : Ent) : ∀ (l pre : List Ent), (if (l.foldl (Vj e) (pre, false)).2 = true then (l.foldl (Vj e) (pre, false)).1 else (l.foldl (Vj e) (pre, false)).1 ++ [e]) = pre ++ Za5 e l
 | [], pre => by simp [Za5]
 | x :: l, pre => by
  rw [List.foldl_cons];by_cases h : Yv e x = true
  ·rw [show Vj e (pre, false) x = (pre ++ [e] ++ [x], true) from by simp [Vj, h], Zf1];simp [Za5, h]
  ·rw [show Vj e (pre, false) x = (pre ++ [x], false) from by simp [Vj, h], Zhj e l];simp [Za5, h]
theorem Jd (e : Ent) (l : List Ent) : X9 e l = Za5 e l := by
 have := Zhj e l [];unfold X9 Zof;simpa using this
theorem Zc5 (e x : Ent) : ∀ l : List Ent, x ∈ Za5 e l ↔ x = e ∨ x ∈ l
 | [] => by simp [Za5]
 | y :: l => by
  have ih := Zc5 e x l;unfold Za5;split
  ·simp
  ·simp [ih];constructor
   ·rintro (h | h | h)
    ·exact .inr (.inl h)
    ·exact .inl h
    ·exact .inr (.inr h)
   ·rintro (h | h | h)
    ·exact .inr (.inl h)
    ·exact .inl h
    ·exact .inr (.inr h)
theorem Vd (e x : Ent) (l : List Ent) : x ∈ X9 e l ↔ x = e ∨ x ∈ l := by rw [Jd]; exact Zc5 e x l
theorem Kx {a b c : Ent} (h1 : Yv a b = true) (h2 : Yv b c = true) : Yv a c = true := by
 unfold Yv at h1 h2 ⊢;split at h1 <;> split at h2 <;> split <;> try split at h1 <;> try split at h2 <;> try split
 all_goals simp only [decide_eq_true_eq] at *
 all_goals first | omega | (split at h2 <;> simp only [decide_eq_true_eq] at * <;> first | omega | (split <;> simp only [decide_eq_true_eq] at * <;> omega)) | (split <;> simp only [decide_eq_true_eq] at * <;> omega)
theorem Zce {a b : Ent} (h : ¬ Yv a b = true) (hp : a.pair ≠ b.pair) : Yv b a = true := by
 unfold Yv at h ⊢;by_cases hk : a.rc.key = b.rc.key
 ·rw [if_pos hk] at h;rw [if_pos hk.symm];by_cases hv : a.rc.ver = b.rc.ver
  ·rw [if_pos hv] at h;rw [if_pos hv.symm];simp only [decide_eq_true_eq] at *; omega
  ·rw [if_neg hv] at h;rw [if_neg (fun e => hv e.symm)];simp only [decide_eq_true_eq] at *; omega
 ·rw [if_neg hk] at h;rw [if_neg (fun e => hk e.symm)];simp only [decide_eq_true_eq] at *; omega
def Good (e : Ent) : Prop := Z6 e.rc = 0 ∧ e.rc.kind ≠ 1 ∧ 0 ≤ e.pair ∧ e.pair ≤ 1000
def Ups (a b : Ent) : Prop := Yv a b = true ∧ a.pair ≠ b.pair
theorem Zvp (pre : List Ent) (e : Ent) : okE pre e = true ↔ Good e ∧ Za2 pre e = true ∧ ∀ x ∈ pre, x.pair ≠ e.pair := by
 unfold okE Good;simp only [Bool.and_eq_true, decide_eq_true_eq, List.all_eq_true];exact ⟨fun ⟨⟨h1, h2⟩, h3⟩ => ⟨h1, h2, h3⟩, fun ⟨h1, h2, h3⟩ => ⟨⟨h1, h2⟩, h3⟩⟩
theorem Ztm {e : Ent} : ∀ pre : List Ent, pre.Pairwise Ups → Za2 pre e = true → ∀ x ∈ pre, Yv x e = true := by
 intro pre hp hl x hx;have h : pre ≠ [] := by rintro rfl; cases hx
 obtain ⟨pre', y, rfl⟩ : ∃ pre' y, pre = pre' ++ [y] := ⟨pre.dropLast, pre.getLast h, (List.dropLast_concat_getLast h).symm⟩;have hy : Yv y e = true := by
  unfold Za2 at hl;rw [List.getLast?_append] at hl;simpa using hl
 rcases List.mem_append.1 hx with h1 | h1
 ·have := (List.pairwise_append.1 hp).2.2 x h1 y (by simp);exact Kx this.1 hy
 ·rw [List.mem_singleton.1 h1]; exact hy
theorem Jn : ∀ (l pre : List Ent), pre.Pairwise Ups → (Jx pre l = true ↔ (pre ++ l).Pairwise Ups ∧ ∀ x ∈ l, Good x)
 | [], pre, hp => by simp [Jx, hp]
 | e :: l, pre, hp => by
  unfold Jx;rw [Bool.and_eq_true, Zvp];constructor
  ·rintro ⟨⟨h1, h2, h3⟩, h4⟩;have hp2 : (pre ++ [e]).Pairwise Ups := List.pairwise_append.2 ⟨hp, by simp, fun x hx y hy => by
    rw [List.mem_singleton.1 hy]; exact ⟨Ztm pre hp h2 x hx, h3 x hx⟩⟩
   obtain ⟨h5, h6⟩ := (Jn l (pre ++ [e]) hp2).1 h4;refine ⟨by simpa using h5, fun x hx => ?_⟩;rcases List.mem_cons.1 hx with rfl | hx
   ·exact h1
   ·exact h6 x hx
  ·rintro ⟨h1, h2⟩;have hp2 : (pre ++ [e]).Pairwise Ups := by
    have : (pre ++ [e] ++ l).Pairwise Ups := by simpa using h1
    exact (List.pairwise_append.1 this).1
   have hq := (List.pairwise_append.1 hp2).2.2;refine ⟨⟨h2 e (by simp), ?_, fun x hx => (hq x hx e (by simp)).2⟩, (Jn l (pre ++ [e]) hp2).2 ⟨by simpa using h1, fun x hx => h2 x (by simp [hx])⟩⟩;unfold Za2;cases hg : pre.getLast? with
   | none => rfl
   | some y => exact (hq y (List.mem_of_getLast? hg) e (by simp)).1
theorem Yy (l : List Ent) : Xq l = true ↔ l.Pairwise Ups ∧ ∀ x ∈ l, Good x := by
 have := Jn l [] (by simp);simpa [Xq] using this
theorem Zkq (e : Ent) : ∀ l : List Ent, l.Pairwise Ups → (∀ x ∈ l, x.pair ≠ e.pair) → (Za5 e l).Pairwise Ups
 | [], _, _ => by simp [Za5]
 | x :: l, hp, hne => by
  obtain ⟨h1, h2⟩ := List.pairwise_cons.1 hp;unfold Za5;by_cases h : Yv e x = true
  ·rw [if_pos h];refine List.pairwise_cons.2 ⟨fun y hy => ?_, hp⟩;rcases List.mem_cons.1 hy with rfl | hy
   ·exact ⟨h, fun e' => hne y (by simp) e'.symm⟩
   ·exact ⟨Kx h (h1 y hy).1, fun e' => hne y (by simp [hy]) e'.symm⟩
  ·rw [if_neg h];refine List.pairwise_cons.2 ⟨fun y hy => ?_, Zkq e l h2 fun y hy => hne y (by simp [hy])⟩;rcases (Zc5 e y l).1 hy with rfl | hy
   ·exact ⟨Zce h fun e' => hne x (by simp) e'.symm, hne x (by simp)⟩
   ·exact h1 y hy
theorem Jp {e : Ent} {l : List Ent} (h : Xq l = true) (he : Good e) (hne : ∀ x ∈ l, x.pair ≠ e.pair) : Xq (X9 e l) = true := by
 obtain ⟨h1, h2⟩ := (Yy l).1 h;rw [Yy, Jd];refine ⟨Zkq e l h1 hne, fun x hx => ?_⟩;rcases (Zc5 e x l).1 hx with rfl | hx
 ·exact he
 ·exact h2 x hx
def Zah (l : List Ent) (key ver : Int) : Option Ent := l.find? fun x => decide (x.rc.key = key ∧ x.rc.ver = ver)
def K0 (l : List Ent) (p : Int) : List Ent := l.filter fun x => decide (x.pair ≠ p)
def J5 (l : List Ent) (f : Nat) : Prop := (∀ n : Nat, n < f → ∃ x ∈ l, x.pair = (n : Int)) ∧ ∀ x ∈ l, x.pair ≠ (f : Int)
def Znv (l : List Ent) (pairs r : Int) : Prop := ∃ f : Nat, J5 l f ∧ ((f : Int) < pairs ∧ r = (f : Int) ∨ pairs ≤ (f : Int) ∧ r = -1)
theorem Zqd {l : List Ent} {f g : Nat} (h1 : J5 l f) (h2 : J5 l g) : f = g := by
 rcases Nat.lt_trichotomy f g with h | h | h
 ·obtain ⟨x, hx, hp⟩ := h2.1 f h;exact absurd hp (h1.2 x hx)
 ·exact h
 ·obtain ⟨x, hx, hp⟩ := h1.1 g h;exact absurd hp (h2.2 x hx)
theorem Zqp {l : List Ent} {key ver : Int} (h : ∀ x ∈ l, ¬ (x.rc.key = key ∧ x.rc.ver = ver)) : Zah l key ver = none := by
 unfold Zah;rw [List.find?_eq_none];exact fun x hx => by simpa using h x hx
theorem Qb (d : Dk) (x : Ent) : ∀ n, x ∈ Yc d n ↔ ∃ p : Nat, p < n ∧ (d.tell (p : Int)).kind ≠ 1 ∧ x = ⟨d.tell (p : Int), (p : Int)⟩
 | 0 => by simp [Yc]
 | n + 1 => by
  have ih := Qb d x n;unfold Yc;by_cases h : (d.tell (n : Int)).kind = 1
  ·rw [if_pos h, ih];constructor
   ·rintro ⟨p, h1, h2⟩; exact ⟨p, by omega, h2⟩
   ·rintro ⟨p, h1, h2, h3⟩;refine ⟨p, ?_, h2, h3⟩;rcases Nat.lt_succ_iff_lt_or_eq.1 h1 with h4 | rfl
    ·exact h4
    ·exact absurd h h2
  ·rw [if_neg h, Vd, ih];constructor
   ·rintro (rfl | ⟨p, h1, h2⟩)
    ·exact ⟨n, by omega, h, rfl⟩
    ·exact ⟨p, by omega, h2⟩
   ·rintro ⟨p, h1, h2, h3⟩;rcases Nat.lt_succ_iff_lt_or_eq.1 h1 with h4 | rfl
    ·exact .inr ⟨p, h4, h2, h3⟩
    ·exact .inl h3
theorem Q6 (d : Dk) : ∀ n, n ≤ 1000 → Xq (Yc d n) = true
 | 0, _ => rfl
 | n + 1, hn => by
  have ih := Q6 d n (by omega);unfold Yc;split
  ·exact ih
  ·rename_i h;refine Jp ih ⟨X0 d _, h, by show (0 : Int) ≤ (n : Int); omega, by show (n : Int) ≤ 1000; omega⟩ fun x hx => ?_;obtain ⟨p, h1, _, rfl⟩ := (Qb d x n).1 hx;show (p : Int) ≠ (n : Int);omega
end Go.Proofs.YtgaecpdokgklpadGreatDoor
