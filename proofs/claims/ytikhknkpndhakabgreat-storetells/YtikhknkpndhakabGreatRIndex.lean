import Derived.Test.YtikhknkpndhakabGreatRScan
import Derived.Maps.OwnOps
import Derived.Maps.Views
set_option maxHeartbeats 8000000
namespace Go.Proofs.YtikhknkpndhakabGreat
set_option maxRecDepth 100000
open Go.RowKit
open Plain Reg
def Zbc (pre : List Ent) (e : Ent) : Bool := match pre.getLast? with | none => true | some x => Y1 x e
def okE (pre : List Ent) (e : Ent) : Bool := decide (Yh e.rc = 0 ∧ e.rc.kind ≠ 1 ∧ 0 ≤ e.pair ∧ e.pair ≤ 1000) && Zbc pre e && pre.all (fun x => decide (x.pair ≠ e.pair))
def J3 (pre : List Ent) : List Ent → Bool
 | [] => true
 | e :: l => okE pre e && J3 (pre ++ [e]) l
def Qc (l : List Ent) : Bool := J3 [] l
end Go.Proofs.YtikhknkpndhakabGreat
namespace Go.Proofs.YtikhknkpndhakabGreat
set_option maxRecDepth 100000
open Plain
def Zbe (e : Ent) : List Ent → List Ent
 | [] => [e]
 | x :: l => if Y1 e x = true then e :: x :: l else x :: Zbe e l
theorem Zfo (e : Ent) : ∀ (l pre : List Ent), l.foldl (Xq e) (pre, true) = (pre ++ l, true)
 | [], pre => by simp
 | x :: l, pre => by
  rw [List.foldl_cons, show Xq e (pre, true) x = (pre ++ [x], true) from by simp [Xq], Zfo e l];simp
theorem Zhe (e : Ent) : ∀ (l pre : List Ent), (if (l.foldl (Xq e) (pre, false)).2 = true then (l.foldl (Xq e) (pre, false)).1 else (l.foldl (Xq e) (pre, false)).1 ++ [e]) = pre ++ Zbe e l
 | [], pre => by simp [Zbe]
 | x :: l, pre => by
  rw [List.foldl_cons];by_cases h : Y1 e x = true
  ·rw [show Xq e (pre, false) x = (pre ++ [e] ++ [x], true) from by simp [Xq, h], Zfo];simp [Zbe, h]
  ·rw [show Xq e (pre, false) x = (pre ++ [x], false) from by simp [Xq, h], Zhe e l];simp [Zbe, h]
theorem Jo (e : Ent) (l : List Ent) : Qa e l = Zbe e l := by
 have := Zhe e l [];unfold Qa Qx;simpa using this
theorem Zcu (e x : Ent) : ∀ l : List Ent, x ∈ Zbe e l ↔ x = e ∨ x ∈ l
 | [] => by simp [Zbe]
 | y :: l => by
  have ih := Zcu e x l;unfold Zbe;split
  ·simp
  ·simp [ih];constructor
   ·rintro (h | h | h)
    ·exact .inr (.inl h)
    ·exact .inl h
    ·exact .inr (.inr h)
   ·rintro (h | h | h)
    ·exact .inr (.inl h)
    ·exact .inl h
    ·exact .inr (.inr h)
theorem Zdw (e x : Ent) (l : List Ent) : x ∈ Qa e l ↔ x = e ∨ x ∈ l := by rw [Jo]; exact Zcu e x l
theorem K6 {a b c : Ent} (h1 : Y1 a b = true) (h2 : Y1 b c = true) : Y1 a c = true := by
 unfold Y1 at h1 h2 ⊢;split at h1 <;> split at h2 <;> split <;> try split at h1 <;> try split at h2 <;> try split
 all_goals simp only [decide_eq_true_eq] at *
 all_goals first | omega | (split at h2 <;> simp only [decide_eq_true_eq] at * <;> first | omega | (split <;> simp only [decide_eq_true_eq] at * <;> omega)) | (split <;> simp only [decide_eq_true_eq] at * <;> omega)
theorem Zcc {a b : Ent} (h : ¬ Y1 a b = true) (hp : a.pair ≠ b.pair) : Y1 b a = true := by
 unfold Y1 at h ⊢;by_cases hk : a.rc.key = b.rc.key
 ·rw [if_pos hk] at h;rw [if_pos hk.symm];by_cases hv : a.rc.ver = b.rc.ver
  ·rw [if_pos hv] at h;rw [if_pos hv.symm];simp only [decide_eq_true_eq] at *; omega
  ·rw [if_neg hv] at h;rw [if_neg (fun e => hv e.symm)];simp only [decide_eq_true_eq] at *; omega
 ·rw [if_neg hk] at h;rw [if_neg (fun e => hk e.symm)];simp only [decide_eq_true_eq] at *; omega
def Zky (e : Ent) : Prop := Yh e.rc = 0 ∧ e.rc.kind ≠ 1 ∧ 0 ≤ e.pair ∧ e.pair ≤ 1000
def Ups (a b : Ent) : Prop := Y1 a b = true ∧ a.pair ≠ b.pair
theorem Zt5 (pre : List Ent) (e : Ent) : okE pre e = true ↔ Zky e ∧ Zbc pre e = true ∧ ∀ x ∈ pre, x.pair ≠ e.pair := by
 unfold okE Zky;simp only [Bool.and_eq_true, decide_eq_true_eq, List.all_eq_true];exact ⟨fun ⟨⟨h1, h2⟩, h3⟩ => ⟨h1, h2, h3⟩, fun ⟨h1, h2, h3⟩ => ⟨⟨h1, h2⟩, h3⟩⟩
theorem Zr5 {e : Ent} : ∀ pre : List Ent, pre.Pairwise Ups → Zbc pre e = true → ∀ x ∈ pre, Y1 x e = true := by
 intro pre hp hl x hx;have h : pre ≠ [] := by rintro rfl; cases hx
 obtain ⟨pre', y, rfl⟩ : ∃ pre' y, pre = pre' ++ [y] := ⟨pre.dropLast, pre.getLast h, (List.dropLast_concat_getLast h).symm⟩;have hy : Y1 y e = true := by
  unfold Zbc at hl;rw [List.getLast?_append] at hl;simpa using hl
 rcases List.mem_append.1 hx with h1 | h1
 ·have := (List.pairwise_append.1 hp).2.2 x h1 y (by simp);exact K6 this.1 hy
 ·rw [List.mem_singleton.1 h1]; exact hy
theorem Jy : ∀ (l pre : List Ent), pre.Pairwise Ups → (J3 pre l = true ↔ (pre ++ l).Pairwise Ups ∧ ∀ x ∈ l, Zky x)
 | [], pre, hp => by simp [J3, hp]
 | e :: l, pre, hp => by
  unfold J3;rw [Bool.and_eq_true, Zt5];constructor
  ·rintro ⟨⟨h1, h2, h3⟩, h4⟩;have hp2 : (pre ++ [e]).Pairwise Ups := List.pairwise_append.2 ⟨hp, by simp, fun x hx y hy => by
    rw [List.mem_singleton.1 hy]; exact ⟨Zr5 pre hp h2 x hx, h3 x hx⟩⟩
   obtain ⟨h5, h6⟩ := (Jy l (pre ++ [e]) hp2).1 h4;refine ⟨by simpa using h5, fun x hx => ?_⟩;rcases List.mem_cons.1 hx with rfl | hx
   ·exact h1
   ·exact h6 x hx
  ·rintro ⟨h1, h2⟩;have hp2 : (pre ++ [e]).Pairwise Ups := by
    have : (pre ++ [e] ++ l).Pairwise Ups := by simpa using h1
    exact (List.pairwise_append.1 this).1
   have hq := (List.pairwise_append.1 hp2).2.2;refine ⟨⟨h2 e (by simp), ?_, fun x hx => (hq x hx e (by simp)).2⟩, (Jy l (pre ++ [e]) hp2).2 ⟨by simpa using h1, fun x hx => h2 x (by simp [hx])⟩⟩;unfold Zbc;cases hg : pre.getLast? with
   | none => rfl
   | some y => exact (hq y (List.mem_of_getLast? hg) e (by simp)).1
theorem Xr (l : List Ent) : Qc l = true ↔ l.Pairwise Ups ∧ ∀ x ∈ l, Zky x := by
 have := Jy l [] (by simp);simpa [Qc] using this
theorem Zj8 (e : Ent) : ∀ l : List Ent, l.Pairwise Ups → (∀ x ∈ l, x.pair ≠ e.pair) → (Zbe e l).Pairwise Ups
 | [], _, _ => by simp [Zbe]
 | x :: l, hp, hne => by
  obtain ⟨h1, h2⟩ := List.pairwise_cons.1 hp;unfold Zbe;by_cases h : Y1 e x = true
  ·rw [if_pos h];refine List.pairwise_cons.2 ⟨fun y hy => ?_, hp⟩;rcases List.mem_cons.1 hy with rfl | hy
   ·exact ⟨h, fun e' => hne y (by simp) e'.symm⟩
   ·exact ⟨K6 h (h1 y hy).1, fun e' => hne y (by simp [hy]) e'.symm⟩
  ·rw [if_neg h];refine List.pairwise_cons.2 ⟨fun y hy => ?_, Zj8 e l h2 fun y hy => hne y (by simp [hy])⟩;rcases (Zcu e y l).1 hy with rfl | hy
   ·exact ⟨Zcc h fun e' => hne x (by simp) e'.symm, hne x (by simp)⟩
   ·exact h1 y hy
theorem Zb4 {e : Ent} {l : List Ent} (h : Qc l = true) (he : Zky e) (hne : ∀ x ∈ l, x.pair ≠ e.pair) : Qc (Qa e l) = true := by
 obtain ⟨h1, h2⟩ := (Xr l).1 h;rw [Xr, Jo];refine ⟨Zj8 e l h1 hne, fun x hx => ?_⟩;rcases (Zcu e x l).1 hx with rfl | hx
 ·exact he
 ·exact h2 x hx
def Zas (l : List Ent) (key ver : Int) : Option Ent := l.find? fun x => decide (x.rc.key = key ∧ x.rc.ver = ver)
def Vk (l : List Ent) (p : Int) : List Ent := l.filter fun x => decide (x.pair ≠ p)
def Je (l : List Ent) (f : Nat) : Prop := (∀ n : Nat, n < f → ∃ x ∈ l, x.pair = (n : Int)) ∧ ∀ x ∈ l, x.pair ≠ (f : Int)
def Zm4 (l : List Ent) (pairs r : Int) : Prop := ∃ f : Nat, Je l f ∧ ((f : Int) < pairs ∧ r = (f : Int) ∨ pairs ≤ (f : Int) ∧ r = -1)
theorem Zpe {l : List Ent} {f g : Nat} (h1 : Je l f) (h2 : Je l g) : f = g := by
 rcases Nat.lt_trichotomy f g with h | h | h
 ·obtain ⟨x, hx, hp⟩ := h2.1 f h;exact absurd hp (h1.2 x hx)
 ·exact h
 ·obtain ⟨x, hx, hp⟩ := h1.1 g h;exact absurd hp (h2.2 x hx)
theorem Zpn {l : List Ent} {key ver : Int} (h : ∀ x ∈ l, ¬ (x.rc.key = key ∧ x.rc.ver = ver)) : Zas l key ver = none := by
 unfold Zas;rw [List.find?_eq_none];exact fun x hx => by simpa using h x hx
theorem Za5 (d : Dk) (x : Ent) : ∀ n, x ∈ Yi d n ↔ ∃ p : Nat, p < n ∧ (d.tell (p : Int)).kind ≠ 1 ∧ x = ⟨d.tell (p : Int), (p : Int)⟩
 | 0 => by simp [Yi]
 | n + 1 => by
  have ih := Za5 d x n;unfold Yi;by_cases h : (d.tell (n : Int)).kind = 1
  ·rw [if_pos h, ih];constructor
   ·rintro ⟨p, h1, h2⟩; exact ⟨p, by omega, h2⟩
   ·rintro ⟨p, h1, h2, h3⟩;refine ⟨p, ?_, h2, h3⟩;rcases Nat.lt_succ_iff_lt_or_eq.1 h1 with h4 | rfl
    ·exact h4
    ·exact absurd h h2
  ·rw [if_neg h, Zdw, ih];constructor
   ·rintro (rfl | ⟨p, h1, h2⟩)
    ·exact ⟨n, by omega, h, rfl⟩
    ·exact ⟨p, by omega, h2⟩
   ·rintro ⟨p, h1, h2, h3⟩;rcases Nat.lt_succ_iff_lt_or_eq.1 h1 with h4 | rfl
    ·exact .inr ⟨p, h4, h2, h3⟩
    ·exact .inl h3
theorem Zaj (d : Dk) : ∀ n, n ≤ 1000 → Qc (Yi d n) = true
 | 0, _ => rfl
 | n + 1, hn => by
  have ih := Zaj d n (by omega);unfold Yi;split
  ·exact ih
  ·rename_i h;refine Zb4 ih ⟨Zla d _, h, by show (0 : Int) ≤ (n : Int); omega, by show (n : Int) ≤ 1000; omega⟩ fun x hx => ?_;obtain ⟨p, h1, _, rfl⟩ := (Za5 d x n).1 hx;show (p : Int) ≠ (n : Int);omega
end Go.Proofs.YtikhknkpndhakabGreat
namespace Go.Proofs.YtikhknkpndhakabGreat
set_option maxRecDepth 100000
open Go.RowKit
open Plain Reg
theorem Ze7 : ∀ (n : Nat) (l : List Nat), l.Nodup → (∀ x ∈ l, x < n) → l.length ≤ n
 | 0, l, _, h => by
  cases l with
  | nil => simp
  | cons x l => exact absurd (h x (by simp)) (by omega)
 | n + 1, l, hn, h => by
  have h1 := Ze7 n (l.erase n) (hn.erase n) fun x hx => by
   have h2 := (hn.mem_erase_iff).1 hx;have := h x h2.2;omega
  by_cases hm : n ∈ l
  ·have := List.length_erase_of_mem hm;omega
  ·rw [List.erase_of_not_mem hm] at h1;omega
theorem Zom {l : List Ent} (h : Qc l = true) : l.length ≤ 1001 := by
 obtain ⟨h1, h2⟩ := (Xr l).1 h;have hn : (l.map fun x => x.pair.toNat).Nodup := by
  rw [List.nodup_iff_pairwise_ne, List.pairwise_map];exact List.Pairwise.imp_of_mem (fun ha hb hR e => hR.2 (by have := (h2 _ ha).2.2; have := (h2 _ hb).2.2; omega)) h1
 have := Ze7 1001 _ hn fun n hn => by
  obtain ⟨x, hx, rfl⟩ := List.mem_map.1 hn;have := (h2 x hx).2.2;omega
 simpa using this
def Zvr : Prop := ∀ (S : Nat → Prop) (l : List Ent) (pairs : Int) (v : Value) (w : World), Qc l = true → pairs ≤ 1000 → Ys S w v l →
 Calls Tryz.prog 69 #[v, .int .i64 pairs] w fun r w' => ∃ n, r = .returned (.int .i64 n) ∧ Zm4 l pairs n ∧ Zp w w'
def Zwf : Prop := ∀ (S : Nat → Prop) (l : List Ent) (e : Ent) (a : Option Addr) (c : Nat) (v : Value) (w : World), (∀ b, S b → b < w.heap.size) → Qc l = true → (∀ x ∈ l, x.pair ≠ e.pair) → Yh e.rc = 0 → Ys S w v l → Z0 S w (.slice a e.rc.data.length c) e.rc.data →
 Calls Tryz.prog 75 #[v, .agg #[.int .i64 e.rc.kind, .int .i64 e.rc.key, .int .i64 e.rc.ver, .slice a e.rc.data.length c, .int .i64 e.pair]] w fun r w' => ∃ v', r = .returned v' ∧ Ys (Zx S w.heap.size) w' v' (Qa e l) ∧ Zp w w'
def Zvt : Prop := ∀ (S : Nat → Prop) (l : List Ent) (p : Int) (v : Value) (w : World), (∀ b, S b → b < w.heap.size) → Qc l = true → Ys S w v l →
 Calls Tryz.prog 74 #[v, .int .i64 p] w fun r w' => ∃ v', r = .returned v' ∧ Ys (Zx S w.heap.size) w' v' (Vk l p) ∧ Zp w w'
def Zqc (S : Nat → Prop) (o : Option Ent) (v : Value) (w : World) : Prop := ∃ (x : Ent) (a : Option Addr) (c : Nat), v = .tuple #[.agg #[.int .i64 x.rc.kind, .int .i64 x.rc.key, .int .i64 x.rc.ver, .slice a x.rc.data.length c, .int .i64 x.pair], .bool o.isSome] ∧ ∀ y, o = some y → y = x ∧ Z0 S w (.slice a x.rc.data.length c) x.rc.data
def Zvs : Prop := ∀ (S : Nat → Prop) (l : List Ent) (key ver : Int) (v : Value) (w : World), (∀ b, S b → b < w.heap.size) → Qc l = true → Ys S w v l →
 Calls Tryz.prog 67 #[v, .int .i64 key, .int .i64 ver] w fun r w' => ∃ v', r = .returned v' ∧ Zqc (Zx S w.heap.size) (Zas l key ver) v' w' ∧ Zp w w'
end Go.Proofs.YtikhknkpndhakabGreat
namespace Go.Proofs.YtikhknkpndhakabGreat
set_option maxRecDepth 100000
open Go.RowKit Go.Maps
open Plain Reg
theorem Ze0 {H : Type} {P : Program} {e : TypeId} (he : P.underlying e = some .bool) {v : Value} {z : DataW H × List MemPlace} (h : plainElem P e v = some z) : ∃ x, v = .bool x ∧ z = (.lit (.bool x), []) := by
 unfold plainElem at h;rw [he] at h;cases v <;> simp at h
 case bool x => exact ⟨x, rfl, h.symm⟩
theorem Zn3 (w : World) : (zeroValue 4).run Tryz.prog w = .ok (.bool false) w := by kernel_rfl
def Zaf (w : World) (b n : Nat) (f : Int → Bool) : Prop := ∃ D : DataW Unit, w.ownsMap Tryz.prog 3 (plainElem Tryz.prog 4) b n D ∧ ∀ x : Int, (Lit.int .i64 x).wf = true → D.atKey (.int .i64 x) (.lit (.bool false)) = .lit (.bool (f x))
theorem Zl5 {H : Type} {w : World} {P : Program} {k : TypeId} {R : Value → Option (DataW H × List MemPlace)} {b n : Nat} {D : DataW H} (h : w.ownsMap P k R b n D) : IsMap D := by
 obtain ⟨es, clock, _, _, _, rfl⟩ := h; exact ⟨_, rfl⟩
theorem Zaf.made (w : World) : Zaf (w.alloc (.map #[] 0)) w.heap.size 0 (fun _ => false) := ⟨.map [], World.ownsMap_made _ _ _ _, fun _ _ => rfl⟩
theorem Zaf.lt {w : World} {b n : Nat} {f : Int → Bool} (h : Zaf w b n f) : b < w.heap.size := by
 obtain ⟨D, h1, _⟩ := h; exact h1.lt
theorem Zaf.same {w w' : World} {b n : Nat} {f : Int → Bool} (h : Zaf w b n f) (hb : w'.heap[b]? = w.heap[b]?) : Zaf w' b n f := by
 obtain ⟨D, ⟨es, clock, h1, h2⟩, h3⟩ := h;exact ⟨D, ⟨es, clock, hb.trans h1, h2⟩, h3⟩
theorem Zaf.grow {w w' : World} {b n : Nat} {f : Int → Bool} (h : Zaf w b n f) (hg : Zp w w') : Zaf w' b n f := h.same (hg.block _ h.lt)
theorem Zaf.ask {w : World} {b n : Nat} {f : Int → Bool} (h : Zaf w b n f) (x : Int) (hx : (Lit.int .i64 x).wf = true) : (Instr.lookup 76 (.map (some b)) (.int .i64 x) false).run Tryz.prog w = .ok (.bool (f x)) w := by
 obtain ⟨D, h1, h2⟩ := h;obtain ⟨v, ps, hrun, hv⟩ := h1.lookup (int_keyed Tryz.underlying3) Tryz.underlying76 (Zn3 w) (plainElem_bool Tryz.underlying4 false) (keyOf_int_mk Tryz.underlying3 hx);obtain ⟨c, rfl, hc⟩ := Ze0 Tryz.underlying4 hv;simp only [Prod.mk.injEq] at hc;have := h2 x hx;rw [this] at hc;have hcc : f x = c := by injection hc.1 with h; injection h
 rw [hcc]; exact hrun
theorem Zu.grown {g : Nat} {w w' : World} (h : w.grownBy w' (some g)) : Zu g w w' := ⟨h.os, h.tape, h.output, h.size, fun k hk hg => h.block k hk (by intro e; exact hg (Option.some.inj e))⟩
theorem Zaf.put {w : World} {b n : Nat} {f : Int → Bool} (h : Zaf w b n f) (x : Int) (hx : (Lit.int .i64 x).wf = true) (hn : n < 1000000) :
  ∃ w', (Instr.mapUpdate 76 (.map (some b)) (.int .i64 x) (.bool true)).run Tryz.prog w = .ok () w' ∧ Zaf w' b (n + 1) (fun y => decide (y = x) || f y) ∧ Zu b w w' := by
 obtain ⟨D, h1, h2⟩ := h;obtain ⟨w', hrun, h3, h4⟩ := h1.update (int_keyed Tryz.underlying3) Tryz.underlying76 (by unfold maxLen; omega) (keyOf_int_mk Tryz.underlying3 hx) (plainElem_bool Tryz.underlying4 true);refine ⟨w', hrun, ⟨_, h3, fun y hy => ?_⟩, Zu.grown h4⟩;by_cases e : y = x
 ·subst e;rw [atKey_put_same (Zl5 h1) (show WideAt.IsKeyLit (.int .i64 y) from trivial)];simp
 ·rw [atKey_put_other (by intro e2; injection e2 with _ e2; exact e e2), h2 y hy];simp [e]
theorem Zaf.on {w : World} {b n m : Nat} {f g : Int → Bool} (h : Zaf w b n f) (hf : ∀ x, f x = g x) (hn : n ≤ m) : Zaf w b m g := by
 obtain ⟨D, h1, h2⟩ := h;exact ⟨D, h1.mono hn, fun x hx => by rw [h2 x hx, hf x]⟩
theorem Zpt (l : List Ent) (p : Int) (k : Nat) (h : k < l.length) : Vk (l.take (k + 1)) p = Vk (l.take k) p ++ (if l[k].pair = p then [] else [l[k]]) := by
 unfold Vk;rw [List.take_succ_eq_append_getElem h, List.filter_append];by_cases e : l[k].pair = p
 ·simp [e]
 ·simp [e]
def Kz (l : List Ent) (y : Int) : Bool := l.any fun x => decide (y = x.pair)
theorem Zn5 (l : List Ent) (k : Nat) (h : k < l.length) (y : Int) : (decide (y = l[k].pair) || Kz (l.take k) y) = Kz (l.take (k + 1)) y := by
 unfold Kz;rw [List.take_succ_eq_append_getElem h, List.any_append];simp [Bool.or_comm]
theorem Kg (l : List Ent) (y : Int) : Kz l y = true ↔ ∃ x ∈ l, x.pair = y := by
 unfold Kz;rw [List.any_eq_true];exact ⟨fun ⟨x, h1, h2⟩ => ⟨x, h1, (of_decide_eq_true h2).symm⟩, fun ⟨x, h1, h2⟩ => ⟨x, h1, by simp [h2]⟩⟩
theorem Zix {x : Int} (h0 : 0 ≤ x) (h1 : x ≤ 1000000) : (Lit.int .i64 x).wf = true := WalkArith.wf_i64 (by omega)
end Go.Proofs.YtikhknkpndhakabGreat
