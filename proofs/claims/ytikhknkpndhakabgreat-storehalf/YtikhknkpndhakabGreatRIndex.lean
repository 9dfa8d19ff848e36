import Derived.Test.YtikhknkpndhakabGreatRScan
import Derived.Maps.OwnOps
import Derived.Maps.Views
set_option maxHeartbeats 8000000
namespace Go.Proofs.YtikhknkpndhakabGreat
set_option maxRecDepth 100000
open Go.RowKit
open Plain Reg
def Zbz (pre : List Ent) (e : Ent) : Bool := match pre.getLast? with | none => true | some x => Yy x e
def okE (pre : List Ent) (e : Ent) : Bool := decide (Ya e.rc = 0 ∧ e.rc.kind ≠ 1 ∧ 0 ≤ e.pair ∧ e.pair ≤ 1000) && Zbz pre e && pre.all (fun x => decide (x.pair ≠ e.pair))
def Zan (pre : List Ent) : List Ent → Bool
 | [] => true
 | e :: l => okE pre e && Zan (pre ++ [e]) l
def Qf (l : List Ent) : Bool := Zan [] l
end Go.Proofs.YtikhknkpndhakabGreat
namespace Go.Proofs.YtikhknkpndhakabGreat
set_option maxRecDepth 100000
open Plain
def Zb1 (e : Ent) : List Ent → List Ent
 | [] => [e]
 | x :: l => if Yy e x = true then e :: x :: l else x :: Zb1 e l
theorem Zgs (e : Ent) : ∀ (l pre : List Ent), l.foldl (Xy e) (pre, true) = (pre ++ l, true)
 | [], pre => by simp
 | x :: l, pre => by
  rw [List.foldl_cons, show Xy e (pre, true) x = (pre ++ [x], true) from by simp [Xy], Zgs e l];simp
theorem Zik (e : Ent) : ∀ (l pre : List Ent), (if (l.foldl (Xy e) (pre, false)).2 = true then (l.foldl (Xy e) (pre, false)).1 else (l.foldl (Xy e) (pre, false)).1 ++ [e]) = pre ++ Zb1 e l
 | [], pre => by simp [Zb1]
 | x :: l, pre => by
  rw [List.foldl_cons];by_cases h : Yy e x = true
  ·rw [show Xy e (pre, false) x = (pre ++ [e] ++ [x], true) from by simp [Xy, h], Zgs];simp [Zb1, h]
  ·rw [show Xy e (pre, false) x = (pre ++ [x], false) from by simp [Xy, h], Zik e l];simp [Zb1, h]
theorem J8 (e : Ent) (l : List Ent) : X1 e l = Zb1 e l := by
 have := Zik e l [];unfold X1 Qz;simpa using this
theorem Zdn (e x : Ent) : ∀ l : List Ent, x ∈ Zb1 e l ↔ x = e ∨ x ∈ l
 | [] => by simp [Zb1]
 | y :: l => by
  have ih := Zdn e x l;unfold Zb1;split
  ·simp
  ·simp [ih];constructor
   ·rintro (h | h | h)
    ·exact .inr (.inl h)
    ·exact .inl h
    ·exact .inr (.inr h)
   ·rintro (h | h | h)
    ·exact .inr (.inl h)
    ·exact .inl h
    ·exact .inr (.inr h)
theorem J9 (e x : Ent) (l : List Ent) : x ∈ X1 e l ↔ x = e ∨ x ∈ l := by rw [J8]; exact Zdn e x l
theorem Jn {a b c : Ent} (h1 : Yy a b = true) (h2 : Yy b c = true) : Yy a c = true := by
 unfold Yy at h1 h2 ⊢;split at h1 <;> split at h2 <;> split <;> try split at h1 <;> try split at h2 <;> try split
 all_goals simp only [decide_eq_true_eq] at *
 all_goals first | omega | (split at h2 <;> simp only [decide_eq_true_eq] at * <;> first | omega | (split <;> simp only [decide_eq_true_eq] at * <;> omega)) | (split <;> simp only [decide_eq_true_eq] at * <;> omega)
theorem Zc3 {a b : Ent} (h : ¬ Yy a b = true) (hp : a.pair ≠ b.pair) : Yy b a = true := by
 unfold Yy at h ⊢;by_cases hk : a.rc.key = b.rc.key
 ·rw [if_pos hk] at h;rw [if_pos hk.symm];by_cases hv : a.rc.ver = b.rc.ver
  ·rw [if_pos hv] at h;rw [if_pos hv.symm];simp only [decide_eq_true_eq] at *; omega
  ·rw [if_neg hv] at h;rw [if_neg (fun e => hv e.symm)];simp only [decide_eq_true_eq] at *; omega
 ·rw [if_neg hk] at h;rw [if_neg (fun e => hk e.symm)];simp only [decide_eq_true_eq] at *; omega
def Good (e : Ent) : Prop := Ya e.rc = 0 ∧ e.rc.kind ≠ 1 ∧ 0 ≤ e.pair ∧ e.pair ≤ 1000
def Ups (a b : Ent) : Prop := Yy a b = true ∧ a.pair ≠ b.pair
theorem Zvw (pre : List Ent) (e : Ent) : okE pre e = true ↔ Good e ∧ Zbz pre e = true ∧ ∀ x ∈ pre, x.pair ≠ e.pair := by
 unfold okE Good;simp only [Bool.and_eq_true, decide_eq_true_eq, List.all_eq_true];exact ⟨fun ⟨⟨h1, h2⟩, h3⟩ => ⟨h1, h2, h3⟩, fun ⟨h1, h2, h3⟩ => ⟨⟨h1, h2⟩, h3⟩⟩
theorem Zt1 {e : Ent} : ∀ pre : List Ent, pre.Pairwise Ups → Zbz pre e = true → ∀ x ∈ pre, Yy x e = true := by
 intro pre hp hl x hx;have h : pre ≠ [] := by rintro rfl; cases hx
 obtain ⟨pre', y, rfl⟩ : ∃ pre' y, pre = pre' ++ [y] := ⟨pre.dropLast, pre.getLast h, (List.dropLast_concat_getLast h).symm⟩;have hy : Yy y e = true := by
  unfold Zbz at hl;rw [List.getLast?_append] at hl;simpa using hl
 rcases List.mem_append.1 hx with h1 | h1
 ·have := (List.pairwise_append.1 hp).2.2 x h1 y (by simp);exact Jn this.1 hy
 ·rw [List.mem_singleton.1 h1]; exact hy
theorem Zah : ∀ (l pre : List Ent), pre.Pairwise Ups → (Zan pre l = true ↔ (pre ++ l).Pairwise Ups ∧ ∀ x ∈ l, Good x)
 | [], pre, hp => by simp [Zan, hp]
 | e :: l, pre, hp => by
  unfold Zan;rw [Bool.and_eq_true, Zvw];constructor
  ·rintro ⟨⟨h1, h2, h3⟩, h4⟩;have hp2 : (pre ++ [e]).Pairwise Ups := List.pairwise_append.2 ⟨hp, by simp, fun x hx y hy => by
    rw [List.mem_singleton.1 hy]; exact ⟨Zt1 pre hp h2 x hx, h3 x hx⟩⟩
   obtain ⟨h5, h6⟩ := (Zah l (pre ++ [e]) hp2).1 h4;refine ⟨by simpa using h5, fun x hx => ?_⟩;rcases List.mem_cons.1 hx with rfl | hx
   ·exact h1
   ·exact h6 x hx
  ·rintro ⟨h1, h2⟩;have hp2 : (pre ++ [e]).Pairwise Ups := by
    have : (pre ++ [e] ++ l).Pairwise Ups := by simpa using h1
    exact (List.pairwise_append.1 this).1
   have hq := (List.pairwise_append.1 hp2).2.2;refine ⟨⟨h2 e (by simp), ?_, fun x hx => (hq x hx e (by simp)).2⟩, (Zah l (pre ++ [e]) hp2).2 ⟨by simpa using h1, fun x hx => h2 x (by simp [hx])⟩⟩;unfold Zbz;cases hg : pre.getLast? with
   | none => rfl
   | some y => exact (hq y (List.mem_of_getLast? hg) e (by simp)).1
theorem Xd (l : List Ent) : Qf l = true ↔ l.Pairwise Ups ∧ ∀ x ∈ l, Good x := by
 have := Zah l [] (by simp);simpa [Qf] using this
theorem Zli (e : Ent) : ∀ l : List Ent, l.Pairwise Ups → (∀ x ∈ l, x.pair ≠ e.pair) → (Zb1 e l).Pairwise Ups
 | [], _, _ => by simp [Zb1]
 | x :: l, hp, hne => by
  obtain ⟨h1, h2⟩ := List.pairwise_cons.1 hp;unfold Zb1;by_cases h : Yy e x = true
  ·rw [if_pos h];refine List.pairwise_cons.2 ⟨fun y hy => ?_, hp⟩;rcases List.mem_cons.1 hy with rfl | hy
   ·exact ⟨h, fun e' => hne y (by simp) e'.symm⟩
   ·exact ⟨Jn h (h1 y hy).1, fun e' => hne y (by simp [hy]) e'.symm⟩
  ·rw [if_neg h];refine List.pairwise_cons.2 ⟨fun y hy => ?_, Zli e l h2 fun y hy => hne y (by simp [hy])⟩;rcases (Zdn e y l).1 hy with rfl | hy
   ·exact ⟨Zc3 h fun e' => hne x (by simp) e'.symm, hne x (by simp)⟩
   ·exact h1 y hy
theorem Zai {e : Ent} {l : List Ent} (h : Qf l = true) (he : Good e) (hne : ∀ x ∈ l, x.pair ≠ e.pair) : Qf (X1 e l) = true := by
 obtain ⟨h1, h2⟩ := (Xd l).1 h;rw [Xd, J8];refine ⟨Zli e l h1 hne, fun x hx => ?_⟩;rcases (Zdn e x l).1 hx with rfl | hx
 ·exact he
 ·exact h2 x hx
def Zbi (l : List Ent) (key ver : Int) : Option Ent := l.find? fun x => decide (x.rc.key = key ∧ x.rc.ver = ver)
def Qv (l : List Ent) (p : Int) : List Ent := l.filter fun x => decide (x.pair ≠ p)
def Jw (l : List Ent) (f : Nat) : Prop := (∀ n : Nat, n < f → ∃ x ∈ l, x.pair = (n : Int)) ∧ ∀ x ∈ l, x.pair ≠ (f : Int)
def Zoj (l : List Ent) (pairs r : Int) : Prop := ∃ f : Nat, Jw l f ∧ ((f : Int) < pairs ∧ r = (f : Int) ∨ pairs ≤ (f : Int) ∧ r = -1)
theorem Zqx {l : List Ent} {f g : Nat} (h1 : Jw l f) (h2 : Jw l g) : f = g := by
 rcases Nat.lt_trichotomy f g with h | h | h
 ·obtain ⟨x, hx, hp⟩ := h2.1 f h;exact absurd hp (h1.2 x hx)
 ·exact h
 ·obtain ⟨x, hx, hp⟩ := h1.1 g h;exact absurd hp (h2.2 x hx)
theorem Zq8 {l : List Ent} {key ver : Int} (h : ∀ x ∈ l, ¬ (x.rc.key = key ∧ x.rc.ver = ver)) : Zbi l key ver = none := by
 unfold Zbi;rw [List.find?_eq_none];exact fun x hx => by simpa using h x hx
theorem Vb (d : Dk) (x : Ent) : ∀ n, x ∈ Yb d n ↔ ∃ p : Nat, p < n ∧ (d.tell (p : Int)).kind ≠ 1 ∧ x = ⟨d.tell (p : Int), (p : Int)⟩
 | 0 => by simp [Yb]
 | n + 1 => by
  have ih := Vb d x n;unfold Yb;by_cases h : (d.tell (n : Int)).kind = 1
  ·rw [if_pos h, ih];constructor
   ·rintro ⟨p, h1, h2⟩; exact ⟨p, by omega, h2⟩
   ·rintro ⟨p, h1, h2, h3⟩;refine ⟨p, ?_, h2, h3⟩;rcases Nat.lt_succ_iff_lt_or_eq.1 h1 with h4 | rfl
    ·exact h4
    ·exact absurd h h2
  ·rw [if_neg h, J9, ih];constructor
   ·rintro (rfl | ⟨p, h1, h2⟩)
    ·exact ⟨n, by omega, h, rfl⟩
    ·exact ⟨p, by omega, h2⟩
   ·rintro ⟨p, h1, h2, h3⟩;rcases Nat.lt_succ_iff_lt_or_eq.1 h1 with h4 | rfl
    ·exact .inr ⟨p, h4, h2, h3⟩
    ·exact .inl h3
theorem V1 (d : Dk) : ∀ n, n ≤ 1000 → Qf (Yb d n) = true
 | 0, _ => rfl
 | n + 1, hn => by
  have ih := V1 d n (by omega);unfold Yb;split
  ·exact ih
  ·rename_i h;refine Zai ih ⟨Q5 d _, h, by show (0 : Int) ≤ (n : Int); omega, by show (n : Int) ≤ 1000; omega⟩ fun x hx => ?_;obtain ⟨p, h1, _, rfl⟩ := (Vb d x n).1 hx;show (p : Int) ≠ (n : Int);omega
end Go.Proofs.YtikhknkpndhakabGreat
namespace Go.Proofs.YtikhknkpndhakabGreat
set_option maxRecDepth 100000
open Go.RowKit
open Plain Reg
theorem Zgc : ∀ (n : Nat) (l : List Nat), l.Nodup → (∀ x ∈ l, x < n) → l.length ≤ n
 | 0, l, _, h => by
  cases l with
  | nil => simp
  | cons x l => exact absurd (h x (by simp)) (by omega)
 | n + 1, l, hn, h => by
  have h1 := Zgc n (l.erase n) (hn.erase n) fun x hx => by
   have h2 := (hn.mem_erase_iff).1 hx;have := h x h2.2;omega
  by_cases hm : n ∈ l
  ·have := List.length_erase_of_mem hm;omega
  ·rw [List.erase_of_not_mem hm] at h1;omega
theorem Zp4 {l : List Ent} (h : Qf l = true) : l.length ≤ 1001 := by
 obtain ⟨h1, h2⟩ := (Xd l).1 h;have hn : (l.map fun x => x.pair.toNat).Nodup := by
  rw [List.nodup_iff_pairwise_ne, List.pairwise_map];exact List.Pairwise.imp_of_mem (fun ha hb hR e => hR.2 (by have := (h2 _ ha).2.2; have := (h2 _ hb).2.2; omega)) h1
 have := Zgc 1001 _ hn fun n hn => by
  obtain ⟨x, hx, rfl⟩ := List.mem_map.1 hn;have := (h2 x hx).2.2;omega
 simpa using this
def Zxs : Prop := ∀ (S : Nat → Prop) (l : List Ent) (pairs : Int) (v : Value) (w : World), Qf l = true → pairs ≤ 1000 → Yq S w v l →
 Calls Tryz.prog 69 #[v, .int .i64 pairs] w fun r w' => ∃ n, r = .returned (.int .i64 n) ∧ Zoj l pairs n ∧ Zn w w'
def Zye : Prop := ∀ (S : Nat → Prop) (l : List Ent) (e : Ent) (a : Option Addr) (c : Nat) (v : Value) (w : World), (∀ b, S b → b < w.heap.size) → Qf l = true → (∀ x ∈ l, x.pair ≠ e.pair) → Ya e.rc = 0 → Yq S w v l → Z0 S w (.slice a e.rc.data.length c) e.rc.data →
 Calls Tryz.prog 75 #[v, .agg #[.int .i64 e.rc.kind, .int .i64 e.rc.key, .int .i64 e.rc.ver, .slice a e.rc.data.length c, .int .i64 e.pair]] w fun r w' => ∃ v', r = .returned v' ∧ Yq (Zw S w.heap.size) w' v' (X1 e l) ∧ Zn w w'
def Zxu : Prop := ∀ (S : Nat → Prop) (l : List Ent) (p : Int) (v : Value) (w : World), (∀ b, S b → b < w.heap.size) → Qf l = true → Yq S w v l →
 Calls Tryz.prog 74 #[v, .int .i64 p] w fun r w' => ∃ v', r = .returned v' ∧ Yq (Zw S w.heap.size) w' v' (Qv l p) ∧ Zn w w'
def Zrx (S : Nat → Prop) (o : Option Ent) (v : Value) (w : World) : Prop := ∃ (x : Ent) (a : Option Addr) (c : Nat), v = .tuple #[.agg #[.int .i64 x.rc.kind, .int .i64 x.rc.key, .int .i64 x.rc.ver, .slice a x.rc.data.length c, .int .i64 x.pair], .bool o.isSome] ∧ ∀ y, o = some y → y = x ∧ Z0 S w (.slice a x.rc.data.length c) x.rc.data
def Zxt : Prop := ∀ (S : Nat → Prop) (l : List Ent) (key ver : Int) (v : Value) (w : World), (∀ b, S b → b < w.heap.size) → Qf l = true → Yq S w v l →
 Calls Tryz.prog 67 #[v, .int .i64 key, .int .i64 ver] w fun r w' => ∃ v', r = .returned v' ∧ Zrx (Zw S w.heap.size) (Zbi l key ver) v' w' ∧ Zn w w'
end Go.Proofs.YtikhknkpndhakabGreat
namespace Go.Proofs.YtikhknkpndhakabGreat
set_option maxRecDepth 100000
open Go.RowKit Go.Maps
open Plain Reg
theorem Zf5 {H : Type} {P : Program} {e : TypeId} (he : P.underlying e = some .bool) {v : Value} {z : DataW H × List MemPlace} (h : plainElem P e v = some z) : ∃ x, v = .bool x ∧ z = (.lit (.bool x), []) := by
 unfold plainElem at h;rw [he] at h;cases v <;> simp at h
 case bool x => exact ⟨x, rfl, h.symm⟩
theorem Zpk (w : World) : (zeroValue 4).run Tryz.prog w = .ok (.bool false) w := by kernel_rfl
def Za1 (w : World) (b n : Nat) (f : Int → Bool) : Prop := ∃ D : DataW Unit, w.ownsMap Tryz.prog 3 (plainElem Tryz.prog 4) b n D ∧ ∀ x : Int, (Lit.int .i64 x).wf = true → D.atKey (.int .i64 x) (.lit (.bool false)) = .lit (.bool (f x))
theorem Znj {H : Type} {w : World} {P : Program} {k : TypeId} {R : Value → Option (DataW H × List MemPlace)} {b n : Nat} {D : DataW H} (h : w.ownsMap P k R b n D) : IsMap D := by
 obtain ⟨es, clock, _, _, _, rfl⟩ := h; exact ⟨_, rfl⟩
theorem Za1.made (w : World) : Za1 (w.alloc (.map #[] 0)) w.heap.size 0 (fun _ => false) := ⟨.map [], World.ownsMap_made _ _ _ _, fun _ _ => rfl⟩
theorem Za1.lt {w : World} {b n : Nat} {f : Int → Bool} (h : Za1 w b n f) : b < w.heap.size := by
 obtain ⟨D, h1, _⟩ := h; exact h1.lt
theorem Za1.same {w w' : World} {b n : Nat} {f : Int → Bool} (h : Za1 w b n f) (hb : w'.heap[b]? = w.heap[b]?) : Za1 w' b n f := by
 obtain ⟨D, ⟨es, clock, h1, h2⟩, h3⟩ := h;exact ⟨D, ⟨es, clock, hb.trans h1, h2⟩, h3⟩
theorem Za1.grow {w w' : World} {b n : Nat} {f : Int → Bool} (h : Za1 w b n f) (hg : Zn w w') : Za1 w' b n f := h.same (hg.block _ h.lt)
theorem Za1.ask {w : World} {b n : Nat} {f : Int → Bool} (h : Za1 w b n f) (x : Int) (hx : (Lit.int .i64 x).wf = true) : (Instr.lookup 76 (.map (some b)) (.int .i64 x) false).run Tryz.prog w = .ok (.bool (f x)) w := by
 obtain ⟨D, h1, h2⟩ := h;obtain ⟨v, ps, hrun, hv⟩ := h1.lookup (int_keyed Tryz.underlying3) Tryz.underlying76 (Zpk w) (plainElem_bool Tryz.underlying4 false) (keyOf_int_mk Tryz.underlying3 hx);obtain ⟨c, rfl, hc⟩ := Zf5 Tryz.underlying4 hv;simp only [Prod.mk.injEq] at hc;have := h2 x hx;rw [this] at hc;have hcc : f x = c := by injection hc.1 with h; injection h
 rw [hcc]; exact hrun
theorem Zr.grown {g : Nat} {w w' : World} (h : w.grownBy w' (some g)) : Zr g w w' := ⟨h.os, h.tape, h.output, h.size, fun k hk hg => h.block k hk (by intro e; exact hg (Option.some.inj e))⟩
theorem Za1.put {w : World} {b n : Nat} {f : Int → Bool} (h : Za1 w b n f) (x : Int) (hx : (Lit.int .i64 x).wf = true) (hn : n < 1000000) :
  ∃ w', (Instr.mapUpdate 76 (.map (some b)) (.int .i64 x) (.bool true)).run Tryz.prog w = .ok () w' ∧ Za1 w' b (n + 1) (fun y => decide (y = x) || f y) ∧ Zr b w w' := by
 obtain ⟨D, h1, h2⟩ := h;obtain ⟨w', hrun, h3, h4⟩ := h1.update (int_keyed Tryz.underlying3) Tryz.underlying76 (by unfold maxLen; omega) (keyOf_int_mk Tryz.underlying3 hx) (plainElem_bool Tryz.underlying4 true);refine ⟨w', hrun, ⟨_, h3, fun y hy => ?_⟩, Zr.grown h4⟩;by_cases e : y = x
 ·subst e;rw [atKey_put_same (Znj h1) (show WideAt.IsKeyLit (.int .i64 y) from trivial)];simp
 ·rw [atKey_put_other (by intro e2; injection e2 with _ e2; exact e e2), h2 y hy];simp [e]
theorem Za1.on {w : World} {b n m : Nat} {f g : Int → Bool} (h : Za1 w b n f) (hf : ∀ x, f x = g x) (hn : n ≤ m) : Za1 w b m g := by
 obtain ⟨D, h1, h2⟩ := h;exact ⟨D, h1.mono hn, fun x hx => by rw [h2 x hx, hf x]⟩
theorem Zre (l : List Ent) (p : Int) (k : Nat) (h : k < l.length) : Qv (l.take (k + 1)) p = Qv (l.take k) p ++ (if l[k].pair = p then [] else [l[k]]) := by
 unfold Qv;rw [List.take_succ_eq_append_getElem h, List.filter_append];by_cases e : l[k].pair = p
 ·simp [e]
 ·simp [e]
def Ji (l : List Ent) (y : Int) : Bool := l.any fun x => decide (y = x.pair)
theorem Zpm (l : List Ent) (k : Nat) (h : k < l.length) (y : Int) : (decide (y = l[k].pair) || Ji (l.take k) y) = Ji (l.take (k + 1)) y := by
 unfold Ji;rw [List.take_succ_eq_append_getElem h, List.any_append];simp [Bool.or_comm]
theorem Kt (l : List Ent) (y : Int) : Ji l y = true ↔ ∃ x ∈ l, x.pair = y := by
 unfold Ji;rw [List.any_eq_true];exact ⟨fun ⟨x, h1, h2⟩ => ⟨x, h1, (of_decide_eq_true h2).symm⟩, fun ⟨x, h1, h2⟩ => ⟨x, h1, by simp [h2]⟩⟩
theorem Zj5 {x : Int} (h0 : 0 ≤ x) (h1 : x ≤ 1000000) : (Lit.int .i64 x).wf = true := WalkArith.wf_i64 (by omega)
end Go.Proofs.YtikhknkpndhakabGreat
