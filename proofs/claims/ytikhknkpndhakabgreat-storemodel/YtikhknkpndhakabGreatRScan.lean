import Derived.Test.YtikhknkpndhakabGreatRowApp
import Derived.Test.YtikhknkpndhakabGreatRMend
import Derived.Maps.OwnOps
import Derived.Maps.Views
set_option maxHeartbeats 8000000
namespace Go.Proofs.YtikhknkpndhakabGreat
set_option maxRecDepth 100000
open Go.RowKit
open Plain Reg
def Ya (d : Dk) : Nat → List Ent
 | 0 => []
 | n + 1 => if (d.tell (n : Int)).kind = 1 then Ya d n else X0 ⟨d.tell (n : Int), (n : Int)⟩ (Ya d n)
theorem Zld (e : Ent) (l : List Ent) : (Qz e l).1.length = l.length + (if (Qz e l).2 = true then 1 else 0) := by
 have key : ∀ (l : List Ent) (st : List Ent × Bool), (l.foldl (Xy e) st).1.length + (if st.2 = true then 1 else 0) = st.1.length + l.length + (if (l.foldl (Xy e) st).2 = true then 1 else 0) := by
  intro l
  induction l with
  | nil => rintro ⟨a, b⟩; cases b <;> simp
  | cons x l ih =>
   intro st;rw [List.foldl_cons, List.length_cons];have h1 := ih (Xy e st x);have h2 : (Xy e st x).1.length + (if st.2 = true then 1 else 0) = st.1.length + 1 + (if (Xy e st x).2 = true then 1 else 0) := by
    unfold Xy;by_cases hc : st.2 = false ∧ Yy e x = true
    ·rw [if_pos hc, hc.1]; simp
    ·rw [if_neg hc]; simp
   omega
 have := key l ([], false);unfold Qz;simpa using this
theorem Zho (e : Ent) (l : List Ent) : (X0 e l).length = l.length + 1 := by
 have h := Zld e l;unfold X0;by_cases hd : (Qz e l).2 = true
 ·rw [if_pos hd] at h ⊢; exact h
 ·rw [if_neg hd] at h ⊢; simp [h]
theorem Zh0 (d : Dk) : ∀ n, (Ya d n).length ≤ n
 | 0 => by simp [Ya]
 | n + 1 => by
  have ih := Zh0 d n;unfold Ya;split
  ·omega
  ·rw [Zho]; omega
theorem Zh3 (S : Nat → Prop) (d : Dk) (vb vl : Value) (w : World) (hb : Yx S w vb d.blocks) (hl : Xm S w vl d.late) (hlen : d.blocks.length ≤ 256) (hm : d.late.length ≤ 999990) :
  Calls Tryz.prog 45 #[.agg #[vb, vl]] w fun r w' => ∃ v', r = .returned v' ∧ Yt (Zw S w.heap.size) w' v' (Ya d (d.blocks.length / 2)) ∧ Zo w w' := by
 obtain ⟨ab, cb, rfl⟩ := hb.p.form;obtain ⟨al, cl, rfl⟩ := hl.p.form;have g0 := Zb w (.cells #[.slice ab d.blocks.length cb, .slice al d.late.length cl] 30);have hD0 := Zk w #[.slice ab d.blocks.length cb, .slice al d.late.length cl] 30;have hq : (d.blocks.length : Int).tdiv 2 = ((d.blocks.length / 2 : Nat) : Int) := by rw [Int.tdiv_eq_ediv_of_nonneg (by omega)]; omega
 obtain ⟨N, hN⟩ : ∃ N, N = d.blocks.length / 2 := ⟨_, rfl⟩;rw [← hN] at hq ⊢;have hN2 : N ≤ 128 := by omega
 clear hN;go_enter Tryz.func45, Tryz.ntmps45;go_wp2_with fail;generalize World.alloc w _ = W at *;go_loopw [3, 11] (fun o i wr => ∃ k : Nat, k ≤ N ∧ i = .int .i64 k ∧ Yt (fun b => Zw S (w.heap.size + 1) b ∧ b < wr.heap.size) wr o (Ya d k) ∧ Zo w wr ∧ wr.heap[w.heap.size]? = some (.cells #[.slice ab d.blocks.length cb, .slice al d.late.length cl] 30 (0, 0))) (fun _ i _ => N - (intOf i).toNat)
 case atStart => exact ⟨0, Nat.zero_le _, rfl, Yf.nil _ _ _, g0, hD0⟩
 case round =>
  clear g0 hD0;obtain ⟨k, hk, rfl, hO, hg, hD⟩ := hrel;by_cases hlt : k < N
  ·have hsc := Zh0 d k;have HN : Hid (Ya d (k + 1) = if (d.tell (k : Int)).kind = 1 then Ya d k else X0 ⟨d.tell (k : Int), (k : Int)⟩ (Ya d k)) := rfl;obtain ⟨a0, c0, rfl⟩ := hO.form;obtain ⟨x0, x1⟩ := X3 hD rfl rfl;go_wp2_with fail;refine (Zgd _ d (k : Int) _ _ _ (hb.grow hg) (hl.grow hg) hlen hm).mono ?_;rintro e w1 ⟨dv, rfl, ho, g1⟩;obtain ⟨a1, c1, rfl⟩ := Yg ho;generalize d.tell (k : Int) = r at *;generalize d.how (k : Int) = how at *;have g2 := Zb w1 (.cells #[.int .i64 r.kind, .int .i64 r.key, .int .i64 r.ver, .slice a1 r.data.length c1] 51);have hR2 := Zk w1 #[.int .i64 r.kind, .int .i64 r.key, .int .i64 r.ver, .slice a1 r.data.length c1] 51;have hD2 := ((g1.trans g2).block _ (Za hD)).trans hD;have hwr : w.heap.size + 1 ≤ wr.heap.size := Za hD;have hB2 : Zz (fun b => Zw S (w.heap.size + 1) b ∧ b < w1.heap.size + 1) (w1.alloc (.cells #[.int .i64 r.kind, .int .i64 r.key, .int .i64 r.ver, .slice a1 r.data.length c1] 51)) (.slice a1 r.data.length c1) r.data := by
    have h := ((Zbu S (Yi ho hwr)).grow g2).caps;rw [World.size_alloc] at h;exact h
   have hO2 : Yt (fun b => Zw S (w.heap.size + 1) b ∧ b < w1.heap.size + 1) (w1.alloc (.cells #[.int .i64 r.kind, .int .i64 r.key, .int .i64 r.ver, .slice a1 r.data.length c1] 51)) (.slice a0 (Ya d k).length c0) (Ya d k) := (hO.grow (g1.trans g2)).mono fun b h => ⟨h.1, by have := g1.size; omega⟩
   have gw2 := hg.trans (g1.trans g2);obtain ⟨r0, r1, r2, r3⟩ := Ye hR2 rfl rfl rfl rfl;have HSZ : Hid (w.heap.size + 1 ≤ w1.heap.size) := Nat.le_trans hwr g1.size;clear x0 x1 hO hg hD g1 g2 ho hR2 hwr;by_cases hk1 : r.kind = 1
   ·have HN2 : Hid (Ya d (k + 1) = Ya d k) := by show _ = _; rw [HN.out, if_pos hk1]
    have d1 : (r.kind != 1) = false := by simp [hk1]
    clear hk1 HN;have hsz := World.size_alloc w1 (.cells #[.int .i64 r.kind, .int .i64 r.key, .int .i64 r.ver, .slice a1 r.data.length c1] 51);have hO3 := hO2.mono (S' := fun b => Zw S (w.heap.size + 1) b ∧ b < (w1.alloc (.cells #[.int .i64 r.kind, .int .i64 r.key, .int .i64 r.ver, .slice a1 r.data.length c1] 51)).heap.size) (fun b h => ⟨h.1, by rw [hsz]; exact h.2⟩);clear hO2 hB2 hsz;go_wp2_with fail;go_roundw
    case rel => exact ⟨k + 1, by omega, by go_num, by rw [HN2.out]; exact hO3, gw2, hD2⟩
    case measure => simp [intOf]; omega
   ·have HN2 : Hid (Ya d (k + 1) = X0 ⟨r, (k : Int)⟩ (Ya d k)) := by show _ = _; rw [HN.out, if_neg hk1]
    have d1 : (r.kind != 1) = true := by simp [hk1]
    clear hk1 HN;go_wp2_with fail;refine (Zek _ (Ya d k) ⟨r, (k : Int)⟩ _ a1 c1 _ (fun b h => by rw [World.size_alloc]; exact h.2) hO2 hB2 (by omega)).mono ?_;rintro e w3 ⟨v3, rfl, hO3, g3⟩;rw [← HN2.out] at hO3;have hO4 : Yt (fun b => Zw S (w.heap.size + 1) b ∧ b < w3.heap.size) w3 v3 (Ya d (k + 1)) := (hO3.caps (by decide)).mono fun b h => ⟨h.1.elim (fun x => x.1) (fun x => .inr (by have := HSZ.out; rw [World.size_alloc] at x; omega)), h.2⟩
    have hD3 := (g3.block _ (Za hD2)).trans hD2;have gw3 := gw2.trans g3;clear hO2 hO3 hB2 hD2 gw2 g3 r0 r1 r2 r3;go_wp2_with fail;go_roundw
    case rel => exact ⟨k + 1, by omega, by go_num, hO4, gw3, hD3⟩
    case measure => simp [intOf]; omega
  ·have hk' : k = N := by omega
   subst hk';have hfin := hO.mono (S' := Zw S w.heap.size) (fun b h => Z6 (B := w.heap.size) (by omega) b h.1);obtain ⟨a0, c0, rfl⟩ := hO.form;clear hO;go_wp2_with fail;go_ret;exact ⟨_, rfl, hfin, hg⟩
def Zby (pre : List Ent) (e : Ent) : Bool := match pre.getLast? with | none => true | some x => Yy x e
def okE (pre : List Ent) (e : Ent) : Bool := decide (Z9 e.rc = 0 ∧ e.rc.kind ≠ 1 ∧ 0 ≤ e.pair ∧ e.pair ≤ 1000) && Zby pre e && pre.all (fun x => decide (x.pair ≠ e.pair))
def Zai (pre : List Ent) : List Ent → Bool
 | [] => true
 | e :: l => okE pre e && Zai (pre ++ [e]) l
def Qg (l : List Ent) : Bool := Zai [] l
end Go.Proofs.YtikhknkpndhakabGreat
namespace Go.Proofs.YtikhknkpndhakabGreat
set_option maxRecDepth 100000
open Plain
def Zb0 (e : Ent) : List Ent → List Ent
 | [] => [e]
 | x :: l => if Yy e x = true then e :: x :: l else x :: Zb0 e l
theorem Zgn (e : Ent) : ∀ (l pre : List Ent), l.foldl (Xy e) (pre, true) = (pre ++ l, true)
 | [], pre => by simp
 | x :: l, pre => by
  rw [List.foldl_cons, show Xy e (pre, true) x = (pre ++ [x], true) from by simp [Xy], Zgn e l];simp
theorem Zig (e : Ent) : ∀ (l pre : List Ent), (if (l.foldl (Xy e) (pre, false)).2 = true then (l.foldl (Xy e) (pre, false)).1 else (l.foldl (Xy e) (pre, false)).1 ++ [e]) = pre ++ Zb0 e l
 | [], pre => by simp [Zb0]
 | x :: l, pre => by
  rw [List.foldl_cons];by_cases h : Yy e x = true
  ·rw [show Xy e (pre, false) x = (pre ++ [e] ++ [x], true) from by simp [Xy, h], Zgn];simp [Zb0, h]
  ·rw [show Xy e (pre, false) x = (pre ++ [x], false) from by simp [Xy, h], Zig e l];simp [Zb0, h]
theorem J3 (e : Ent) (l : List Ent) : X0 e l = Zb0 e l := by
 have := Zig e l [];unfold X0 Qz;simpa using this
theorem Zdm (e x : Ent) : ∀ l : List Ent, x ∈ Zb0 e l ↔ x = e ∨ x ∈ l
 | [] => by simp [Zb0]
 | y :: l => by
  have ih := Zdm e x l;unfold Zb0;split
  ·simp
  ·simp [ih];constructor
   ·rintro (h | h | h)
    ·exact .inr (.inl h)
    ·exact .inl h
    ·exact .inr (.inr h)
   ·rintro (h | h | h)
    ·exact .inr (.inl h)
    ·exact .inl h
    ·exact .inr (.inr h)
theorem J4 (e x : Ent) (l : List Ent) : x ∈ X0 e l ↔ x = e ∨ x ∈ l := by rw [J3]; exact Zdm e x l
theorem Jk {a b c : Ent} (h1 : Yy a b = true) (h2 : Yy b c = true) : Yy a c = true := by
 unfold Yy at h1 h2 ⊢;split at h1 <;> split at h2 <;> split <;> try split at h1 <;> try split at h2 <;> try split
 all_goals simp only [decide_eq_true_eq] at *
 all_goals first | omega | (split at h2 <;> simp only [decide_eq_true_eq] at * <;> first | omega | (split <;> simp only [decide_eq_true_eq] at * <;> omega)) | (split <;> simp only [decide_eq_true_eq] at * <;> omega)
theorem Zc1 {a b : Ent} (h : ¬ Yy a b = true) (hp : a.pair ≠ b.pair) : Yy b a = true := by
 unfold Yy at h ⊢;by_cases hk : a.rc.key = b.rc.key
 ·rw [if_pos hk] at h;rw [if_pos hk.symm];by_cases hv : a.rc.ver = b.rc.ver
  ·rw [if_pos hv] at h;rw [if_pos hv.symm];simp only [decide_eq_true_eq] at *; omega
  ·rw [if_neg hv] at h;rw [if_neg (fun e => hv e.symm)];simp only [decide_eq_true_eq] at *; omega
 ·rw [if_neg hk] at h;rw [if_neg (fun e => hk e.symm)];simp only [decide_eq_true_eq] at *; omega
def Good (e : Ent) : Prop := Z9 e.rc = 0 ∧ e.rc.kind ≠ 1 ∧ 0 ≤ e.pair ∧ e.pair ≤ 1000
def Ups (a b : Ent) : Prop := Yy a b = true ∧ a.pair ≠ b.pair
theorem Zvt (pre : List Ent) (e : Ent) : okE pre e = true ↔ Good e ∧ Zby pre e = true ∧ ∀ x ∈ pre, x.pair ≠ e.pair := by
 unfold okE Good;simp only [Bool.and_eq_true, decide_eq_true_eq, List.all_eq_true];exact ⟨fun ⟨⟨h1, h2⟩, h3⟩ => ⟨h1, h2, h3⟩, fun ⟨h1, h2, h3⟩ => ⟨⟨h1, h2⟩, h3⟩⟩
theorem Ztu {e : Ent} : ∀ pre : List Ent, pre.Pairwise Ups → Zby pre e = true → ∀ x ∈ pre, Yy x e = true := by
 intro pre hp hl x hx;have h : pre ≠ [] := by rintro rfl; cases hx
 obtain ⟨pre', y, rfl⟩ : ∃ pre' y, pre = pre' ++ [y] := ⟨pre.dropLast, pre.getLast h, (List.dropLast_concat_getLast h).symm⟩;have hy : Yy y e = true := by
  unfold Zby at hl;rw [List.getLast?_append] at hl;simpa using hl
 rcases List.mem_append.1 hx with h1 | h1
 ·have := (List.pairwise_append.1 hp).2.2 x h1 y (by simp);exact Jk this.1 hy
 ·rw [List.mem_singleton.1 h1]; exact hy
theorem Zac : ∀ (l pre : List Ent), pre.Pairwise Ups → (Zai pre l = true ↔ (pre ++ l).Pairwise Ups ∧ ∀ x ∈ l, Good x)
 | [], pre, hp => by simp [Zai, hp]
 | e :: l, pre, hp => by
  unfold Zai;rw [Bool.and_eq_true, Zvt];constructor
  ·rintro ⟨⟨h1, h2, h3⟩, h4⟩;have hp2 : (pre ++ [e]).Pairwise Ups := List.pairwise_append.2 ⟨hp, by simp, fun x hx y hy => by
    rw [List.mem_singleton.1 hy]; exact ⟨Ztu pre hp h2 x hx, h3 x hx⟩⟩
   obtain ⟨h5, h6⟩ := (Zac l (pre ++ [e]) hp2).1 h4;refine ⟨by simpa using h5, fun x hx => ?_⟩;rcases List.mem_cons.1 hx with rfl | hx
   ·exact h1
   ·exact h6 x hx
  ·rintro ⟨h1, h2⟩;have hp2 : (pre ++ [e]).Pairwise Ups := by
    have : (pre ++ [e] ++ l).Pairwise Ups := by simpa using h1
    exact (List.pairwise_append.1 this).1
   have hq := (List.pairwise_append.1 hp2).2.2;refine ⟨⟨h2 e (by simp), ?_, fun x hx => (hq x hx e (by simp)).2⟩, (Zac l (pre ++ [e]) hp2).2 ⟨by simpa using h1, fun x hx => h2 x (by simp [hx])⟩⟩;unfold Zby;cases hg : pre.getLast? with
   | none => rfl
   | some y => exact (hq y (List.mem_of_getLast? hg) e (by simp)).1
theorem Xe (l : List Ent) : Qg l = true ↔ l.Pairwise Ups ∧ ∀ x ∈ l, Good x := by
 have := Zac l [] (by simp);simpa [Qg] using this
theorem Zle (e : Ent) : ∀ l : List Ent, l.Pairwise Ups → (∀ x ∈ l, x.pair ≠ e.pair) → (Zb0 e l).Pairwise Ups
 | [], _, _ => by simp [Zb0]
 | x :: l, hp, hne => by
  obtain ⟨h1, h2⟩ := List.pairwise_cons.1 hp;unfold Zb0;by_cases h : Yy e x = true
  ·rw [if_pos h];refine List.pairwise_cons.2 ⟨fun y hy => ?_, hp⟩;rcases List.mem_cons.1 hy with rfl | hy
   ·exact ⟨h, fun e' => hne y (by simp) e'.symm⟩
   ·exact ⟨Jk h (h1 y hy).1, fun e' => hne y (by simp [hy]) e'.symm⟩
  ·rw [if_neg h];refine List.pairwise_cons.2 ⟨fun y hy => ?_, Zle e l h2 fun y hy => hne y (by simp [hy])⟩;rcases (Zdm e y l).1 hy with rfl | hy
   ·exact ⟨Zc1 h fun e' => hne x (by simp) e'.symm, hne x (by simp)⟩
   ·exact h1 y hy
theorem Zad {e : Ent} {l : List Ent} (h : Qg l = true) (he : Good e) (hne : ∀ x ∈ l, x.pair ≠ e.pair) : Qg (X0 e l) = true := by
 obtain ⟨h1, h2⟩ := (Xe l).1 h;rw [Xe, J3];refine ⟨Zle e l h1 hne, fun x hx => ?_⟩;rcases (Zdm e x l).1 hx with rfl | hx
 ·exact he
 ·exact h2 x hx
def Zbe (l : List Ent) (key ver : Int) : Option Ent := l.find? fun x => decide (x.rc.key = key ∧ x.rc.ver = ver)
def Qv (l : List Ent) (p : Int) : List Ent := l.filter fun x => decide (x.pair ≠ p)
def Js (l : List Ent) (f : Nat) : Prop := (∀ n : Nat, n < f → ∃ x ∈ l, x.pair = (n : Int)) ∧ ∀ x ∈ l, x.pair ≠ (f : Int)
def Zof (l : List Ent) (pairs r : Int) : Prop := ∃ f : Nat, Js l f ∧ ((f : Int) < pairs ∧ r = (f : Int) ∨ pairs ≤ (f : Int) ∧ r = -1)
theorem Zqq {l : List Ent} {f g : Nat} (h1 : Js l f) (h2 : Js l g) : f = g := by
 rcases Nat.lt_trichotomy f g with h | h | h
 ·obtain ⟨x, hx, hp⟩ := h2.1 f h;exact absurd hp (h1.2 x hx)
 ·exact h
 ·obtain ⟨x, hx, hp⟩ := h1.1 g h;exact absurd hp (h2.2 x hx)
theorem Zq1 {l : List Ent} {key ver : Int} (h : ∀ x ∈ l, ¬ (x.rc.key = key ∧ x.rc.ver = ver)) : Zbe l key ver = none := by
 unfold Zbe;rw [List.find?_eq_none];exact fun x hx => by simpa using h x hx
theorem Vb (d : Dk) (x : Ent) : ∀ n, x ∈ Ya d n ↔ ∃ p : Nat, p < n ∧ (d.tell (p : Int)).kind ≠ 1 ∧ x = ⟨d.tell (p : Int), (p : Int)⟩
 | 0 => by simp [Ya]
 | n + 1 => by
  have ih := Vb d x n;unfold Ya;by_cases h : (d.tell (n : Int)).kind = 1
  ·rw [if_pos h, ih];constructor
   ·rintro ⟨p, h1, h2⟩; exact ⟨p, by omega, h2⟩
   ·rintro ⟨p, h1, h2, h3⟩;refine ⟨p, ?_, h2, h3⟩;rcases Nat.lt_succ_iff_lt_or_eq.1 h1 with h4 | rfl
    ·exact h4
    ·exact absurd h h2
  ·rw [if_neg h, J4, ih];constructor
   ·rintro (rfl | ⟨p, h1, h2⟩)
    ·exact ⟨n, by omega, h, rfl⟩
    ·exact ⟨p, by omega, h2⟩
   ·rintro ⟨p, h1, h2, h3⟩;rcases Nat.lt_succ_iff_lt_or_eq.1 h1 with h4 | rfl
    ·exact .inr ⟨p, h4, h2, h3⟩
    ·exact .inl h3
theorem V0 (d : Dk) : ∀ n, n ≤ 1000 → Qg (Ya d n) = true
 | 0, _ => rfl
 | n + 1, hn => by
  have ih := V0 d n (by omega);unfold Ya;split
  ·exact ih
  ·rename_i h;refine Zad ih ⟨Q7 d _, h, by show (0 : Int) ≤ (n : Int); omega, by show (n : Int) ≤ 1000; omega⟩ fun x hx => ?_;obtain ⟨p, h1, _, rfl⟩ := (Vb d x n).1 hx;show (p : Int) ≠ (n : Int);omega
end Go.Proofs.YtikhknkpndhakabGreat
namespace Go.Proofs.YtikhknkpndhakabGreat
set_option maxRecDepth 100000
open Go.RowKit
open Plain Reg
theorem Zf7 : ∀ (n : Nat) (l : List Nat), l.Nodup → (∀ x ∈ l, x < n) → l.length ≤ n
 | 0, l, _, h => by
  cases l with
  | nil => simp
  | cons x l => exact absurd (h x (by simp)) (by omega)
 | n + 1, l, hn, h => by
  have h1 := Zf7 n (l.erase n) (hn.erase n) fun x hx => by
   have h2 := (hn.mem_erase_iff).1 hx;have := h x h2.2;omega
  by_cases hm : n ∈ l
  ·have := List.length_erase_of_mem hm;omega
  ·rw [List.erase_of_not_mem hm] at h1;omega
theorem Zpx {l : List Ent} (h : Qg l = true) : l.length ≤ 1001 := by
 obtain ⟨h1, h2⟩ := (Xe l).1 h;have hn : (l.map fun x => x.pair.toNat).Nodup := by
  rw [List.nodup_iff_pairwise_ne, List.pairwise_map];exact List.Pairwise.imp_of_mem (fun ha hb hR e => hR.2 (by have := (h2 _ ha).2.2; have := (h2 _ hb).2.2; omega)) h1
 have := Zf7 1001 _ hn fun n hn => by
  obtain ⟨x, hx, rfl⟩ := List.mem_map.1 hn;have := (h2 x hx).2.2;omega
 simpa using this
def Zxs : Prop := ∀ (S : Nat → Prop) (l : List Ent) (pairs : Int) (v : Value) (w : World), Qg l = true → pairs ≤ 1000 → Yt S w v l →
 Calls Tryz.prog 69 #[v, .int .i64 pairs] w fun r w' => ∃ n, r = .returned (.int .i64 n) ∧ Zof l pairs n ∧ Zo w w'
def Zyf : Prop := ∀ (S : Nat → Prop) (l : List Ent) (e : Ent) (a : Option Addr) (c : Nat) (v : Value) (w : World), (∀ b, S b → b < w.heap.size) → Qg l = true → (∀ x ∈ l, x.pair ≠ e.pair) → Z9 e.rc = 0 → Yt S w v l → Zz S w (.slice a e.rc.data.length c) e.rc.data →
 Calls Tryz.prog 75 #[v, .agg #[.int .i64 e.rc.kind, .int .i64 e.rc.key, .int .i64 e.rc.ver, .slice a e.rc.data.length c, .int .i64 e.pair]] w fun r w' => ∃ v', r = .returned v' ∧ Yt (Zw S w.heap.size) w' v' (X0 e l) ∧ Zo w w'
def Zxu : Prop := ∀ (S : Nat → Prop) (l : List Ent) (p : Int) (v : Value) (w : World), (∀ b, S b → b < w.heap.size) → Qg l = true → Yt S w v l →
 Calls Tryz.prog 74 #[v, .int .i64 p] w fun r w' => ∃ v', r = .returned v' ∧ Yt (Zw S w.heap.size) w' v' (Qv l p) ∧ Zo w w'
def Zrq (S : Nat → Prop) (o : Option Ent) (v : Value) (w : World) : Prop := ∃ (x : Ent) (a : Option Addr) (c : Nat), v = .tuple #[.agg #[.int .i64 x.rc.kind, .int .i64 x.rc.key, .int .i64 x.rc.ver, .slice a x.rc.data.length c, .int .i64 x.pair], .bool o.isSome] ∧ ∀ y, o = some y → y = x ∧ Zz S w (.slice a x.rc.data.length c) x.rc.data
def Zxt : Prop := ∀ (S : Nat → Prop) (l : List Ent) (key ver : Int) (v : Value) (w : World), (∀ b, S b → b < w.heap.size) → Qg l = true → Yt S w v l →
 Calls Tryz.prog 67 #[v, .int .i64 key, .int .i64 ver] w fun r w' => ∃ v', r = .returned v' ∧ Zrq (Zw S w.heap.size) (Zbe l key ver) v' w' ∧ Zo w w'
end Go.Proofs.YtikhknkpndhakabGreat
namespace Go.Proofs.YtikhknkpndhakabGreat
set_option maxRecDepth 100000
open Go.RowKit Go.Maps
open Plain Reg
theorem Zf0 {H : Type} {P : Program} {e : TypeId} (he : P.underlying e = some .bool) {v : Value} {z : DataW H × List MemPlace} (h : plainElem P e v = some z) : ∃ x, v = .bool x ∧ z = (.lit (.bool x), []) := by
 unfold plainElem at h;rw [he] at h;cases v <;> simp at h
 case bool x => exact ⟨x, rfl, h.symm⟩
theorem Zpe (w : World) : (zeroValue 4).run Tryz.prog w = .ok (.bool false) w := by kernel_rfl
def Zax (w : World) (b n : Nat) (f : Int → Bool) : Prop := ∃ D : DataW Unit, w.ownsMap Tryz.prog 3 (plainElem Tryz.prog 4) b n D ∧ ∀ x : Int, (Lit.int .i64 x).wf = true → D.atKey (.int .i64 x) (.lit (.bool false)) = .lit (.bool (f x))
theorem Znf {H : Type} {w : World} {P : Program} {k : TypeId} {R : Value → Option (DataW H × List MemPlace)} {b n : Nat} {D : DataW H} (h : w.ownsMap P k R b n D) : IsMap D := by
 obtain ⟨es, clock, _, _, _, rfl⟩ := h; exact ⟨_, rfl⟩
theorem Zax.made (w : World) : Zax (w.alloc (.map #[] 0)) w.heap.size 0 (fun _ => false) := ⟨.map [], World.ownsMap_made _ _ _ _, fun _ _ => rfl⟩
theorem Zax.lt {w : World} {b n : Nat} {f : Int → Bool} (h : Zax w b n f) : b < w.heap.size := by
 obtain ⟨D, h1, _⟩ := h; exact h1.lt
theorem Zax.same {w w' : World} {b n : Nat} {f : Int → Bool} (h : Zax w b n f) (hb : w'.heap[b]? = w.heap[b]?) : Zax w' b n f := by
 obtain ⟨D, ⟨es, clock, h1, h2⟩, h3⟩ := h;exact ⟨D, ⟨es, clock, hb.trans h1, h2⟩, h3⟩
theorem Zax.grow {w w' : World} {b n : Nat} {f : Int → Bool} (h : Zax w b n f) (hg : Zo w w') : Zax w' b n f := h.same (hg.block _ h.lt)
theorem Zax.ask {w : World} {b n : Nat} {f : Int → Bool} (h : Zax w b n f) (x : Int) (hx : (Lit.int .i64 x).wf = true) : (Instr.lookup 76 (.map (some b)) (.int .i64 x) false).run Tryz.prog w = .ok (.bool (f x)) w := by
 obtain ⟨D, h1, h2⟩ := h;obtain ⟨v, ps, hrun, hv⟩ := h1.lookup (int_keyed Tryz.underlying3) Tryz.underlying76 (Zpe w) (plainElem_bool Tryz.underlying4 false) (keyOf_int_mk Tryz.underlying3 hx);obtain ⟨c, rfl, hc⟩ := Zf0 Tryz.underlying4 hv;simp only [Prod.mk.injEq] at hc;have := h2 x hx;rw [this] at hc;have hcc : f x = c := by injection hc.1 with h; injection h
 rw [hcc]; exact hrun
theorem Zp.grown {g : Nat} {w w' : World} (h : w.grownBy w' (some g)) : Zp g w w' := ⟨h.os, h.tape, h.output, h.size, fun k hk hg => h.block k hk (by intro e; exact hg (Option.some.inj e))⟩
theorem Zax.put {w : World} {b n : Nat} {f : Int → Bool} (h : Zax w b n f) (x : Int) (hx : (Lit.int .i64 x).wf = true) (hn : n < 1000000) :
  ∃ w', (Instr.mapUpdate 76 (.map (some b)) (.int .i64 x) (.bool true)).run Tryz.prog w = .ok () w' ∧ Zax w' b (n + 1) (fun y => decide (y = x) || f y) ∧ Zp b w w' := by
 obtain ⟨D, h1, h2⟩ := h;obtain ⟨w', hrun, h3, h4⟩ := h1.update (int_keyed Tryz.underlying3) Tryz.underlying76 (by unfold maxLen; omega) (keyOf_int_mk Tryz.underlying3 hx) (plainElem_bool Tryz.underlying4 true);refine ⟨w', hrun, ⟨_, h3, fun y hy => ?_⟩, Zp.grown h4⟩;by_cases e : y = x
 ·subst e;rw [atKey_put_same (Znf h1) (show WideAt.IsKeyLit (.int .i64 y) from trivial)];simp
 ·rw [atKey_put_other (by intro e2; injection e2 with _ e2; exact e e2), h2 y hy];simp [e]
theorem Zax.on {w : World} {b n m : Nat} {f g : Int → Bool} (h : Zax w b n f) (hf : ∀ x, f x = g x) (hn : n ≤ m) : Zax w b m g := by
 obtain ⟨D, h1, h2⟩ := h;exact ⟨D, h1.mono hn, fun x hx => by rw [h2 x hx, hf x]⟩
theorem Zq7 (l : List Ent) (p : Int) (k : Nat) (h : k < l.length) : Qv (l.take (k + 1)) p = Qv (l.take k) p ++ (if l[k].pair = p then [] else [l[k]]) := by
 unfold Qv;rw [List.take_succ_eq_append_getElem h, List.filter_append];by_cases e : l[k].pair = p
 ·simp [e]
 ·simp [e]
def Jg (l : List Ent) (y : Int) : Bool := l.any fun x => decide (y = x.pair)
theorem Zpg (l : List Ent) (k : Nat) (h : k < l.length) (y : Int) : (decide (y = l[k].pair) || Jg (l.take k) y) = Jg (l.take (k + 1)) y := by
 unfold Jg;rw [List.take_succ_eq_append_getElem h, List.any_append];simp [Bool.or_comm]
theorem Kr (l : List Ent) (y : Int) : Jg l y = true ↔ ∃ x ∈ l, x.pair = y := by
 unfold Jg;rw [List.any_eq_true];exact ⟨fun ⟨x, h1, h2⟩ => ⟨x, h1, (of_decide_eq_true h2).symm⟩, fun ⟨x, h1, h2⟩ => ⟨x, h1, by simp [h2]⟩⟩
theorem Zjy {x : Int} (h0 : 0 ≤ x) (h1 : x ≤ 1000000) : (Lit.int .i64 x).wf = true := WalkArith.wf_i64 (by omega)
end Go.Proofs.YtikhknkpndhakabGreat
