import Derived.Test.YtpdnapbchcdhladGreatDoorDk
set_option maxHeartbeats 8000000
namespace Go.Proofs.YtpdnapbchcdhladGreatDoor
set_option maxRecDepth 100000
open Go.RowKit
open Plain Reg
def Yv (a b : Ent) : Bool := if a.rc.key = b.rc.key then (if a.rc.ver = b.rc.ver then decide (a.pair < b.pair) else decide (a.rc.ver < b.rc.ver)) else decide (a.rc.key < b.rc.key)
def Vt (e : Ent) (st : List Ent × Bool) (x : Ent) : List Ent × Bool := if st.2 = false ∧ Yv e x = true then (st.1 ++ [e] ++ [x], true) else (st.1 ++ [x], st.2)
def Zp6 (e : Ent) (l : List Ent) : List Ent × Bool := l.foldl (Vt e) ([], false)
def Qh (e : Ent) (l : List Ent) : List Ent := if (Zp6 e l).2 = true then (Zp6 e l).1 else (Zp6 e l).1 ++ [e]
theorem Zbh {P : Program} {w w2 : World} {o : Oper} {ev : Operand → Value} {v' : Value} (s x : Operand) (t : TypeId) (ho : o.op = .call { callee := .builtin .append, args := #[s, x], argTypes := #[t, t] }) (v u : Value) (hs : ev s = v) (hx : ev x = u)
  (hr : (Builtin.append_ #[t, t] o.type #[v, u]).run P w = .ok v' w2) : (execOp ev o).run P w = .ok (.value v') w2 := by
 unfold execOp;simp only [ho, resolve, invoke, builtin, Sem.run_bind, Sem.run_pure, Result.andThen_ok, List.map_toArray, List.map_cons, List.map_nil, hs, hx, hr]
def Rec.free : Rec := ⟨1, 0, 0, []⟩
def Y9 (d : Dk) (a : Int) : List UInt8 := (d.get a).getD []
def Qq (d : Dk) (a : Int) : Int := Vi (Y9 d a) a
def Yb (d : Dk) (a : Int) : Rec := if Qq d a = 0 then Y4 (Y9 d a) a else Rec.free
def Xi (d : Dk) (a : Int) : Int := if Qq d a = 0 then 0 else 1
def X8 (d : Dk) (a : Int) : Int := if (Yb d a).kind = 1 then 0 else 1
theorem Zav (d : Dk) (a : Int) : 0 ≤ Xi d a ∧ Xi d a ≤ 1 := by unfold Xi; split <;> omega
def Zcw (d : Dk) (p : Int) : Rec := if (Yb d (2 * p)).kind = 1 then Yb d (2 * p + 1) else Yb d (2 * p)
def Dk.noPair (d : Dk) (p : Int) : Bool := decide (p < 0 ∨ ((d.blocks.length / 2 : Nat) : Int) ≤ p)
def Dk.how (d : Dk) (p : Int) : Int :=
 if d.noPair p = true then 4 else if X8 d (2 * p) + X8 d (2 * p + 1) = 2 then (if Kb (Yb d (2 * p)) (Yb d (2 * p + 1)) = true then 1 else 5)
 else if X8 d (2 * p) + X8 d (2 * p + 1) = 1 then 2 else if Xi d (2 * p) + Xi d (2 * p + 1) = 0 then 0 else if Xi d (2 * p) + Xi d (2 * p + 1) = 1 then 3 else 4
def Dk.tell (d : Dk) (p : Int) : Rec := if d.noPair p = true then Rec.free else if X8 d (2 * p) + X8 d (2 * p + 1) = 0 then Rec.free else Zcw d p
theorem Zxl (g : Nat) (o : Obj) : X3 (fun _ w => w.heap[g]? = some o) := fun _ _ _ hg h => (hg.block _ (Za h)).trans h
def Dk.mendD (d : Dk) (p : Int) : Dk := if 2 ≤ d.how p then d.pairD p (d.tell p) else d
def Yd (d : Dk) : Nat → List Ent
 | 0 => []
 | n + 1 => if (d.tell (n : Int)).kind = 1 then Yd d n else Qh ⟨d.tell (n : Int), (n : Int)⟩ (Yd d n)
def Zbe (pre : List Ent) (e : Ent) : Bool := match pre.getLast? with | none => true | some x => Yv x e
def okE (pre : List Ent) (e : Ent) : Bool := decide (Z6 e.rc = 0 ∧ e.rc.kind ≠ 1 ∧ 0 ≤ e.pair ∧ e.pair ≤ 1000) && Zbe pre e && pre.all (fun x => decide (x.pair ≠ e.pair))
def J9 (pre : List Ent) : List Ent → Bool
 | [] => true
 | e :: l => okE pre e && J9 (pre ++ [e]) l
def Xr (l : List Ent) : Bool := J9 [] l
theorem Zjt (c : UInt8) : lo (c.toNat : Int) = c := by
 refine UInt8.toNat_inj.1 ?_;have := J0 (c.toNat : Int);have hc : c.toNat < 256 := UInt8.toNat_lt _;omega
theorem Kf (n : Int) (h0 : 0 ≤ n) (h1 : n ≤ 255) : ((lo n).toNat : Int) = n := by rw [J0]; omega
theorem Zy9 (x y : UInt8) : hi ((x.toNat : Int) * 256 + (y.toNat : Int)) = x := by
 have hx : x.toNat < 256 := UInt8.toNat_lt _;have hy : y.toNat < 256 := UInt8.toNat_lt _;exact ((Zck x y _ (by omega) (by omega)).1 rfl).1
theorem Zy8 (x y : UInt8) : lo ((x.toNat : Int) * 256 + (y.toNat : Int)) = y := by
 have hx : x.toNat < 256 := UInt8.toNat_lt _;have hy : y.toNat < 256 := UInt8.toNat_lt _;exact ((Zck x y _ (by omega) (by omega)).1 rfl).2
theorem Zys (r : Rec) (a : Int) : at' (blk r a) 0 = lo r.kind := rfl
theorem Zyr (r : Rec) (a : Int) : at' (blk r a) 1 = lo a := rfl
theorem Zyq (r : Rec) (a : Int) : at' (blk r a) 2 = lo r.key := rfl
theorem Zyp (r : Rec) (a : Int) : at' (blk r a) 3 = hi r.ver := rfl
theorem Zyo (r : Rec) (a : Int) : at' (blk r a) 4 = lo r.ver := rfl
theorem Zkd (r : Rec) (a : Int) : at' (blk r a) 5 = lo (r.data.length : Int) := rfl
theorem Zmz (r : Rec) (a : Int) : (blk r a).drop 6 = r.data ++ (List.replicate (8 - r.data.length) 0 ++ [hi (Xk (Za2 r a)), lo (Xk (Za2 r a))]) := by
 show (r.data ++ List.replicate (8 - r.data.length) 0) ++ _ = _;rw [List.append_assoc]
theorem Zpv (r : Rec) (a : Int) (h : Z6 r = 0) : Xo (blk r a) = r := by
 obtain ⟨k0, k1, y0, y1, n0, n1, hl⟩ := Kc h;unfold Xo;rw [Zys, Zyq, Zyp, Zyo, Zkd, Zmz];have e1 := Kf r.kind (by omega) (by omega);have e2 := Kf r.key (by omega) (by omega);have e3 := Kf (r.data.length : Int) (by omega) (by omega);have e4 : ((hi r.ver).toNat : Int) * 256 + ((lo r.ver).toNat : Int) = r.ver := by rw [Zow, J0]; omega
 have e5 : (lo (r.data.length : Int)).toNat = r.data.length := by omega
 rw [e1, e2, e4, e5, List.take_left' rfl]
theorem Zuo (r : Rec) (a : Int) (h : Z6 r = 0) : Y1 (Vq (blk r a)) = true := by
 obtain ⟨k0, k1, y0, y1, n0, n1, hl⟩ := Kc h;have e3 := Kf (r.data.length : Int) (by omega) (by omega);have e5 : (lo (r.data.length : Int)).toNat = r.data.length := by omega
 unfold Vq;rw [Zkd, e5, ← List.drop_drop, Zmz, List.drop_left' rfl, List.take_left' (by simp)];unfold Y1;rw [List.all_eq_true];intro c hc;simp [List.eq_of_mem_replicate hc]
theorem Znw (r : Rec) (a : Int) (h : Z6 r = 0) (h0 : 0 ≤ a) (h1 : a ≤ 255) : spoilt (blk r a) a = 0 := by
 obtain ⟨k0, k1, y0, y1, n0, n1, hl⟩ := Kc h;have e1 := Kf a h0 h1;have e3 := Kf (r.data.length : Int) (by omega) (by omega);unfold spoilt;rw [if_neg (by rw [Vg r a hl]; simp), if_neg (by unfold blk; rw [Zfv]; simp), if_neg (by rw [Zyr, e1]; simp), if_neg (by rw [Zkd]; omega), if_neg (by rw [Zuo r a h]; simp)]
theorem Zla (r : Rec) (a : Int) (h : Z6 r = 0) (h0 : 0 ≤ a) (h1 : a ≤ 255) : Vi (blk r a) a = 0 ∧ Y4 (blk r a) a = r := by
 have e : Vi (blk r a) a = 0 := by unfold Vi; rw [if_pos (Znw r a h h0 h1), Zpv r a h]; exact h
 refine ⟨e, ?_⟩;unfold Y4;rw [if_pos e, Zpv r a h]
theorem Zn5 {b : List UInt8} {a : Int} (h : Vi b a = 0) : spoilt b a = 0 ∧ Z6 (Xo b) = 0 ∧ Y4 b a = Xo b := by
 have hr : Y4 b a = Xo b := by unfold Y4; rw [if_pos h]
 unfold Vi at h;by_cases hs : spoilt b a = 0
 ·rw [if_pos hs] at h; exact ⟨hs, h, hr⟩
 ·rw [if_neg hs] at h; exact absurd h hs
theorem Zzb (b : List UInt8) (a : Int) (hs : spoilt b a = 0) : b.take 14 = Za2 (Xo b) a := by
 obtain ⟨hl, hsl, hp, h8, hn⟩ := Jj hs;have hlen : ((b.drop 6).take (at' b 5).toNat).length = (at' b 5).toNat := by simp; omega
 have hz : Vq b = List.replicate (8 - (at' b 5).toNat) 0 := by
  refine List.eq_replicate_iff.2 ⟨by unfold Vq; simp; omega, fun c hc => ?_⟩;unfold Y1 at hn;have := (List.all_eq_true.1 hn) c hc;simpa using this
 unfold Za2 Xo;simp only [];rw [hlen, Zjt, Zjt, Zy9, Zy8, Zjt, ← hp, Zjt, ← hz];have e : b.take 14 = [at' b 0, at' b 1, at' b 2, at' b 3, at' b 4, at' b 5] ++ (b.drop 6).take 8 := by
  match b, hl with
  | [x0, x1, x2, x3, x4, x5, x6, x7, x8, x9, x10, x11, x12, x13, x14, x15], _ => rfl
 rw [e]
 congr 1
 unfold Vq;rw [← List.drop_drop, ← List.take_add]
 congr 1
 omega
theorem Zmy (b : List UInt8) (a : Int) (h : Vi b a = 0) : Z6 (Y4 b a) = 0 ∧ blk (Y4 b a) a = b := by
 obtain ⟨hs, hw, hr⟩ := Zn5 h;obtain ⟨hl, hsl, -, -, -⟩ := Jj hs;rw [hr];refine ⟨hw, ?_⟩;unfold blk;rw [← Zzb b a hs];have := Zn1 b (by omega);rw [hsl, hl] at this;exact beq_iff_eq.1 this
theorem Zk9 (r : Rec) (a : Int) (n : Nat) (c : UInt8) (h : Z6 r = 0) (hn : n < (blk r a).length) (hne : (blk r a)[n] ≠ c) : Vi ((blk r a).set n c) a = 7 := by
 obtain ⟨k0, k1, y0, y1, n0, n1, hl⟩ := Kc h;have e : spoilt ((blk r a).set n c) a = 7 := by
  have hse : X0 ((blk r a).set n c) = false := Zk2 (Za2 r a) n c hn hne;unfold spoilt;rw [if_neg (by rw [List.length_set, Vg r a hl]; simp), if_pos hse]
 unfold Vi;rw [e]; rfl
end Go.Proofs.YtpdnapbchcdhladGreatDoor
namespace Go.Proofs.YtpdnapbchcdhladGreatDoor
set_option maxRecDepth 100000
open Plain
variable {a : Int} {d : Dk} {r : Rec}
theorem Qv : Z6 Rec.free = 0 := by decide
theorem Zft (d : Dk) (a : Int) : Z6 (Yb d a) = 0 := by
 unfold Yb;split
 ·next h => exact (Zmy _ _ h).1
 ·exact Qv
theorem X4 (d : Dk) (p : Int) : Z6 (d.tell p) = 0 := by
 unfold Dk.tell;split
 ·exact Qv
 ·split
  ·exact Qv
  ·unfold Zcw; split
   ·exact Zft _ _
   ·exact Zft _ _
theorem Zug (h : d.get a = some (blk r a)) (hr : Z6 r = 0) (h0 : 0 ≤ a) (h1 : a ≤ 255) : Yb d a = r ∧ Xi d a = 0 := by
 have hb : Y9 d a = blk r a := by unfold Y9; rw [h]; rfl
 obtain ⟨he, hR⟩ := Zla r a hr h0 h1;unfold Xi Yb Qq;rw [hb, if_pos he, if_pos he]; exact ⟨hR, rfl⟩
theorem Zfu (h : Qq d a ≠ 0) : Yb d a = Rec.free ∧ Xi d a = 1 := by
 unfold Xi Yb;rw [if_neg h, if_neg h]; exact ⟨rfl, rfl⟩
theorem Qy (h : (Yb d a).kind = 1) : X8 d a = 0 := by unfold X8; rw [if_pos h]
theorem Ky (h : (Yb d a).kind ≠ 1) : X8 d a = 1 := by unfold X8; rw [if_neg h]
theorem Vu {p : Int} (hn : d.noPair p = false) (h0 : Yb d (2 * p) = r) (h1 : Yb d (2 * p + 1) = r) (hr : r.kind ≠ 1) : d.how p = 1 ∧ d.tell p = r := by
 have s0 : X8 d (2 * p) = 1 := Ky (by rw [h0]; exact hr);have s1 : X8 d (2 * p + 1) = 1 := Ky (by rw [h1]; exact hr);have hs : Kb r r = true := by rw [J8]
 unfold Dk.how Dk.tell Zcw;rw [hn, s0, s1, h0, h1, if_neg hr];simp [hs]
theorem Zv5 {p : Int} (hn : d.noPair p = false) (h0 : (Yb d (2 * p)).kind = 1) (h1 : (Yb d (2 * p + 1)).kind = 1) (b0 : Xi d (2 * p) = 0) (b1 : Xi d (2 * p + 1) = 0) : d.how p = 0 ∧ d.tell p = Rec.free := by
 have s0 := Qy h0;have s1 := Qy h1;unfold Dk.how Dk.tell;rw [hn, s0, s1, b0, b1];simp
theorem Ve {p : Int} (hn : d.noPair p = false) (hr : r.kind ≠ 1) (h : Yb d (2 * p) = r ∧ (Yb d (2 * p + 1)).kind = 1 ∨ Yb d (2 * p + 1) = r ∧ (Yb d (2 * p)).kind = 1) : d.how p = 2 ∧ d.tell p = r := by
 rcases h with ⟨h0, h1⟩ | ⟨h0, h1⟩
 ·have s0 : X8 d (2 * p) = 1 := Ky (by rw [h0]; exact hr);have s1 := Qy h1;unfold Dk.how Dk.tell Zcw;rw [hn, s0, s1, h0, if_neg hr];simp
 ·have s1 : X8 d (2 * p + 1) = 1 := Ky (by rw [h0]; exact hr);have s0 := Qy h1;unfold Dk.how Dk.tell Zcw;rw [hn, s0, s1, h0, if_pos h1];simp
theorem Zrs {p : Int} (h0 : 0 ≤ p) (h1 : 2 * p + 1 < (d.blocks.length : Int)) : d.noPair p = false := by
 unfold Dk.noPair; exact decide_eq_false (by omega)
theorem Zlh {p : Int} (h0 : 0 ≤ p) (h1 : 2 * p + 1 < (d.blocks.length : Int)) : d.pairE p r = Z6 r := by
 unfold Dk.pairE; rw [if_neg (by omega)]
theorem Zke (r : Rec) (a : Int) (h : Z6 r = 0) : (blk r a).length = 16 := Vg r a (Kc h).2.2.2.2.2.2
theorem Zk0 {n y : Int} (h : d.get a = some (turned (blk r a) n y)) (hr : Z6 r = 0) (hn0 : 0 ≤ n) (hn1 : n < ((blk r a).length : Int)) (hy : y % 256 ≠ 0) : Yb d a = Rec.free ∧ Xi d a = 1 := by
 refine Zfu ?_;unfold Qq;have hb : Y9 d a = turned (blk r a) n y := by unfold Y9; rw [h]; rfl
 rw [hb];unfold turned;rw [if_pos ⟨hn0, hn1⟩, V9 _ _ _ (by omega)];rw [Zk9 r a n.toNat _ hr (by omega) ?_]
 ·decide
 ·intro hE;have h1 : lo y = 0 := by
   have h2 : (blk r a)[n.toNat] ^^^ ((blk r a)[n.toNat] ^^^ lo y) = (blk r a)[n.toNat] ^^^ (blk r a)[n.toNat] := by rw [← hE]
   rw [← UInt8.xor_assoc, UInt8.xor_self, UInt8.zero_xor] at h2;exact h2
  have h3 := J0 y;rw [h1] at h3;exact hy h3.symm
theorem Zyb (a : Int) (h0 : 0 ≤ a) (h1 : a < 12) : (Dk.new.blocks).getD a.toNat [] = blk Rec.free a := by
 unfold Dk.new;rw [V9 _ _ _ (by simp; omega), List.getElem_map, List.getElem_range, show ((a.toNat : Nat) : Int) = a from by omega]; rfl
variable {a b e : Ent} {l : List Ent}
def Zbg (e : Ent) : List Ent → List Ent
 | [] => [e]
 | x :: l => if Yv e x = true then e :: x :: l else x :: Zbg e l
theorem Zgt (e : Ent) : ∀ (l pre : List Ent), l.foldl (Vt e) (pre, true) = (pre ++ l, true)
 | [], pre => by simp
 | x :: l, pre => by
  rw [List.foldl_cons, show Vt e (pre, true) x = (pre ++ [x], true) from by simp [Vt], Zgt e l];simp
theorem Zir (e : Ent) : ∀ (l pre : List Ent), (if (l.foldl (Vt e) (pre, false)).2 = true then (l.foldl (Vt e) (pre, false)).1 else (l.foldl (Vt e) (pre, false)).1 ++ [e]) = pre ++ Zbg e l
 | [], pre => by simp [Zbg]
 | x :: l, pre => by
  rw [List.foldl_cons];by_cases h : Yv e x = true
  ·rw [show Vt e (pre, false) x = (pre ++ [e] ++ [x], true) from by simp [Vt, h], Zgt];simp [Zbg, h]
  ·rw [show Vt e (pre, false) x = (pre ++ [x], false) from by simp [Vt, h], Zir e l];simp [Zbg, h]
theorem Jq (e : Ent) (l : List Ent) : Qh e l = Zbg e l := by
 have := Zir e l [];unfold Qh Zp6;simpa using this
theorem Zdo (e x : Ent) : ∀ l : List Ent, x ∈ Zbg e l ↔ x = e ∨ x ∈ l
 | [] => by simp [Zbg]
 | y :: l => by
  have ih := Zdo e x l;unfold Zbg;split
  ·simp
  ·simp [ih];constructor
   ·rintro (h | h | h)
    ·exact .inr (.inl h)
    ·exact .inl h
    ·exact .inr (.inr h)
   ·rintro (h | h | h)
    ·exact .inr (.inl h)
    ·exact .inl h
    ·exact .inr (.inr h)
theorem Vk (e x : Ent) (l : List Ent) : x ∈ Qh e l ↔ x = e ∨ x ∈ l := by rw [Jq]; exact Zdo e x l
theorem K7 {c : Ent} (h1 : Yv a b = true) (h2 : Yv b c = true) : Yv a c = true := by
 unfold Yv at h1 h2 ⊢;split at h1 <;> split at h2 <;> split <;> try split at h1 <;> try split at h2 <;> try split
 all_goals simp only [decide_eq_true_eq] at *
 all_goals first | omega | (split at h2 <;> simp only [decide_eq_true_eq] at * <;> first | omega | (split <;> simp only [decide_eq_true_eq] at * <;> omega)) | (split <;> simp only [decide_eq_true_eq] at * <;> omega)
theorem Zct (h : ¬ Yv a b = true) (hp : a.pair ≠ b.pair) : Yv b a = true := by
 unfold Yv at h ⊢;by_cases hk : a.rc.key = b.rc.key
 ·rw [if_pos hk] at h;rw [if_pos hk.symm];by_cases hv : a.rc.ver = b.rc.ver
  ·rw [if_pos hv] at h;rw [if_pos hv.symm];simp only [decide_eq_true_eq] at *; omega
  ·rw [if_neg hv] at h;rw [if_neg (fun e => hv e.symm)];simp only [decide_eq_true_eq] at *; omega
 ·rw [if_neg hk] at h;rw [if_neg (fun e => hk e.symm)];simp only [decide_eq_true_eq] at *; omega
def Good (e : Ent) : Prop := Z6 e.rc = 0 ∧ e.rc.kind ≠ 1 ∧ 0 ≤ e.pair ∧ e.pair ≤ 1000
def Ups (a b : Ent) : Prop := Yv a b = true ∧ a.pair ≠ b.pair
theorem Zx7 (pre : List Ent) (e : Ent) : okE pre e = true ↔ Good e ∧ Zbe pre e = true ∧ ∀ x ∈ pre, x.pair ≠ e.pair := by
 unfold okE Good;simp only [Bool.and_eq_true, decide_eq_true_eq, List.all_eq_true];exact ⟨fun ⟨⟨h1, h2⟩, h3⟩ => ⟨h1, h2, h3⟩, fun ⟨h1, h2, h3⟩ => ⟨⟨h1, h2⟩, h3⟩⟩
theorem Zvy : ∀ pre : List Ent, pre.Pairwise Ups → Zbe pre e = true → ∀ x ∈ pre, Yv x e = true := by
 intro pre hp hl x hx;have h : pre ≠ [] := by rintro rfl; cases hx
 obtain ⟨pre', y, rfl⟩ : ∃ pre' y, pre = pre' ++ [y] := ⟨pre.dropLast, pre.getLast h, (List.dropLast_concat_getLast h).symm⟩;have hy : Yv y e = true := by
  unfold Zbe at hl;rw [List.getLast?_append] at hl;simpa using hl
 rcases List.mem_append.1 hx with h1 | h1
 ·have := (List.pairwise_append.1 hp).2.2 x h1 y (by simp);exact K7 this.1 hy
 ·rw [List.mem_singleton.1 h1]; exact hy
theorem Jz : ∀ (l pre : List Ent), pre.Pairwise Ups → (J9 pre l = true ↔ (pre ++ l).Pairwise Ups ∧ ∀ x ∈ l, Good x)
 | [], pre, hp => by simp [J9, hp]
 | e :: l, pre, hp => by
  unfold J9;rw [Bool.and_eq_true, Zx7];constructor
  ·rintro ⟨⟨h1, h2, h3⟩, h4⟩;have hp2 : (pre ++ [e]).Pairwise Ups := List.pairwise_append.2 ⟨hp, by simp, fun x hx y hy => by
    rw [List.mem_singleton.1 hy]; exact ⟨Zvy pre hp h2 x hx, h3 x hx⟩⟩
   obtain ⟨h5, h6⟩ := (Jz l (pre ++ [e]) hp2).1 h4;refine ⟨by simpa using h5, fun x hx => ?_⟩;rcases List.mem_cons.1 hx with rfl | hx
   ·exact h1
   ·exact h6 x hx
  ·rintro ⟨h1, h2⟩;have hp2 : (pre ++ [e]).Pairwise Ups := by
    have : (pre ++ [e] ++ l).Pairwise Ups := by simpa using h1
    exact (List.pairwise_append.1 this).1
   have hq := (List.pairwise_append.1 hp2).2.2;refine ⟨⟨h2 e (by simp), ?_, fun x hx => (hq x hx e (by simp)).2⟩, (Jz l (pre ++ [e]) hp2).2 ⟨by simpa using h1, fun x hx => h2 x (by simp [hx])⟩⟩;unfold Zbe;cases hg : pre.getLast? with
   | none => rfl
   | some y => exact (hq y (List.mem_of_getLast? hg) e (by simp)).1
theorem Yr (l : List Ent) : Xr l = true ↔ l.Pairwise Ups ∧ ∀ x ∈ l, Good x := by
 have := Jz l [] (by simp);simpa [Xr] using this
theorem Zl1 (e : Ent) : ∀ l : List Ent, l.Pairwise Ups → (∀ x ∈ l, x.pair ≠ e.pair) → (Zbg e l).Pairwise Ups
 | [], _, _ => by simp [Zbg]
 | x :: l, hp, hne => by
  obtain ⟨h1, h2⟩ := List.pairwise_cons.1 hp;unfold Zbg;by_cases h : Yv e x = true
  ·rw [if_pos h];refine List.pairwise_cons.2 ⟨fun y hy => ?_, hp⟩;rcases List.mem_cons.1 hy with rfl | hy
   ·exact ⟨h, fun e' => hne y (by simp) e'.symm⟩
   ·exact ⟨K7 h (h1 y hy).1, fun e' => hne y (by simp [hy]) e'.symm⟩
  ·rw [if_neg h];refine List.pairwise_cons.2 ⟨fun y hy => ?_, Zl1 e l h2 fun y hy => hne y (by simp [hy])⟩;rcases (Zdo e y l).1 hy with rfl | hy
   ·exact ⟨Zct h fun e' => hne x (by simp) e'.symm, hne x (by simp)⟩
   ·exact h1 y hy
theorem J1 (h : Xr l = true) (he : Good e) (hne : ∀ x ∈ l, x.pair ≠ e.pair) : Xr (Qh e l) = true := by
 obtain ⟨h1, h2⟩ := (Yr l).1 h;rw [Yr, Jq];refine ⟨Zl1 e l h1 hne, fun x hx => ?_⟩;rcases (Zdo e x l).1 hx with rfl | hx
 ·exact he
 ·exact h2 x hx
def Zar (l : List Ent) (key ver : Int) : Option Ent := l.find? fun x => decide (x.rc.key = key ∧ x.rc.ver = ver)
def Jb (l : List Ent) (p : Int) : List Ent := l.filter fun x => decide (x.pair ≠ p)
def Zag (l : List Ent) (f : Nat) : Prop := (∀ n : Nat, n < f → ∃ x ∈ l, x.pair = (n : Int)) ∧ ∀ x ∈ l, x.pair ≠ (f : Int)
def Zpk (l : List Ent) (pairs r : Int) : Prop := ∃ f : Nat, Zag l f ∧ ((f : Int) < pairs ∧ r = (f : Int) ∨ pairs ≤ (f : Int) ∧ r = -1)
theorem Zsb {f g : Nat} (h1 : Zag l f) (h2 : Zag l g) : f = g := by
 rcases Nat.lt_trichotomy f g with h | h | h
 ·obtain ⟨x, hx, hp⟩ := h2.1 f h;exact absurd hp (h1.2 x hx)
 ·exact h
 ·obtain ⟨x, hx, hp⟩ := h1.1 g h;exact absurd hp (h2.2 x hx)
theorem Zsn {key ver : Int} (h : ∀ x ∈ l, ¬ (x.rc.key = key ∧ x.rc.ver = ver)) : Zar l key ver = none := by
 unfold Zar;rw [List.find?_eq_none];exact fun x hx => by simpa using h x hx
theorem Qj (d : Dk) (x : Ent) : ∀ n, x ∈ Yd d n ↔ ∃ p : Nat, p < n ∧ (d.tell (p : Int)).kind ≠ 1 ∧ x = ⟨d.tell (p : Int), (p : Int)⟩
 | 0 => by simp [Yd]
 | n + 1 => by
  have ih := Qj d x n;unfold Yd;by_cases h : (d.tell (n : Int)).kind = 1
  ·rw [if_pos h, ih];constructor
   ·rintro ⟨p, h1, h2⟩; exact ⟨p, by omega, h2⟩
   ·rintro ⟨p, h1, h2, h3⟩;refine ⟨p, ?_, h2, h3⟩;rcases Nat.lt_succ_iff_lt_or_eq.1 h1 with h4 | rfl
    ·exact h4
    ·exact absurd h h2
  ·rw [if_neg h, Vk, ih];constructor
   ·rintro (rfl | ⟨p, h1, h2⟩)
    ·exact ⟨n, by omega, h, rfl⟩
    ·exact ⟨p, by omega, h2⟩
   ·rintro ⟨p, h1, h2, h3⟩;rcases Nat.lt_succ_iff_lt_or_eq.1 h1 with h4 | rfl
    ·exact .inr ⟨p, h4, h2, h3⟩
    ·exact .inl h3
theorem Vf (d : Dk) : ∀ n, n ≤ 1000 → Xr (Yd d n) = true
 | 0, _ => rfl
 | n + 1, hn => by
  have ih := Vf d n (by omega);unfold Yd;split
  ·exact ih
  ·rename_i h;refine J1 ih ⟨X4 d _, h, by show (0 : Int) ≤ (n : Int); omega, by show (n : Int) ≤ 1000; omega⟩ fun x hx => ?_;obtain ⟨p, h1, _, rfl⟩ := (Qj d x n).1 hx;show (p : Int) ≠ (n : Int);omega
end Go.Proofs.YtpdnapbchcdhladGreatDoor
