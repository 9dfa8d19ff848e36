import Derived.Lib.AtoiAll
import Derived.Lib.ItoaNum
import Derived.Test.YtpdnapbchcdhladGreatDoorInv3
import Derived.Lib.SlBytesConst
set_option maxHeartbeats 8000000
namespace Go.Proofs.YtpdnapbchcdhladGreatDoor
set_option maxRecDepth 100000
open Plain
variable {d : Dd}
theorem Zh4 : ∀ (a b : List UInt8) (acc : Nat), Lib.parseUint10 acc (a ++ b) = (match Lib.parseUint10 acc a with | .ok n => Lib.parseUint10 n b | .syntax => .syntax | .range => .range)
 | [], b, acc => by simp [Lib.parseUint10]
 | c :: a, b, acc => by
  have ih := Zh4 a b;simp only [List.cons_append, Lib.parseUint10];split
  ·split
   ·rfl
   ·split
    ·rfl
    ·exact ih _
  ·rfl
theorem Zrf (u : Nat) (hu : u < 18446744073709551616) : Lib.parseUint10 0 (Lib.decDigits u) = .ok u := by
 induction u using Nat.strongRecOn with
 | _ u ih =>
  have one : ∀ k acc, k < 10 → acc < 1844674407370955162 → acc * 10 + k < 18446744073709551616 → Lib.parseUint10 acc [UInt8.ofNat (48 + k)] = .ok (acc * 10 + k) := fun k acc hk ha hb => by
   have hn : (UInt8.ofNat (48 + k)).toNat = 48 + k := by simp; omega
   simp only [Lib.parseUint10, hn];rw [if_pos (by omega), if_neg (by omega), if_neg (by omega)]
   congr 1; omega
  rw [Lib.decDigits];by_cases h : u < 10
  ·rw [dif_pos h, one u 0 h (by omega) (by omega)]; congr 1; omega
  ·rw [dif_neg h, Zh4, ih (u / 10) (by omega) (by omega)];show Lib.parseUint10 (u / 10) [UInt8.ofNat (48 + u % 10)] = .ok u;rw [one (u % 10) (u / 10) (by omega) (by omega) (by omega)]
   congr 1; omega
theorem Zj6 (u : Nat) : ∀ c ∈ Lib.decDigits u, 48 ≤ c.toNat ∧ c.toNat ≤ 57 := by
 induction u using Nat.strongRecOn with
 | _ u ih =>
  rw [Lib.decDigits];by_cases h : u < 10
  ·rw [dif_pos h];intro c hc;rw [List.mem_singleton.1 hc];have : (UInt8.ofNat (48 + u)).toNat = 48 + u := by simp; omega
   omega
  ·rw [dif_neg h];intro c hc;rcases List.mem_append.1 hc with h1 | h1
   ·exact ih (u / 10) (by omega) c h1
   ·rw [List.mem_singleton.1 h1];have : (UInt8.ofNat (48 + u % 10)).toNat = 48 + u % 10 := by simp; omega
    omega
theorem Zwb (u : Nat) : Lib.decDigits u ≠ [] := by
 rw [Lib.decDigits];split
 ·simp
 ·simp
theorem Zh8 (u : Nat) (hu : u < 18446744073709551616) : Lib.parseMag (Lib.decDigits u) = .ok u := by
 unfold Lib.parseMag;rw [if_neg (Zwb u), Zrf u hu]
theorem Zte (n : Int) (h0 : -9223372036854775808 ≤ n) (h1 : n ≤ 9223372036854775807) : Lib.atoiAll (Lib.itoa n) = .ok n := by
 unfold Lib.itoa;by_cases h : n < 0
 ·rw [if_pos h];have hp := Zh8 n.natAbs (by omega);simp only [Lib.atoiAll];rw [if_pos (by decide), hp];have h45 : (45 : UInt8).toNat = 45 := rfl;simp only [h45];rw [if_neg (by simp), if_neg (by omega), if_pos trivial]
  congr 1; omega
 ·rw [if_neg h];have hp := Zh8 n.toNat (by omega);have hne := Zwb n.toNat;have hm := Zj6 n.toNat;cases hd : Lib.decDigits n.toNat with
  | nil => exact absurd hd hne
  | cons b r =>
   rw [hd] at hp hm;have hb := hm b (by simp);simp only [Lib.atoiAll];rw [if_neg (by omega), hp];have h3 : ¬ (b.toNat = 45) := by omega
   simp only [h3];rw [if_neg (by omega), if_neg (by omega), if_neg (by simp)]
   congr 1; omega
theorem Zdm (n : Int) : ∀ c ∈ Lib.itoa n, c ≠ 32 := by
 intro c hc e;subst e;unfold Lib.itoa at hc;split at hc
 ·rcases List.mem_cons.1 hc with h | h
  ·cases h
  ·have := Zj6 _ _ h; simp at this
 ·have := Zj6 _ _ hc; simp at this
def Vw (w : List UInt8) : Option Int := match Lib.atoiAll w with
 | .ok n => if Lib.itoa n = w then some n else none
 | _ => none
theorem Zbx {n : Int} (h0 : -9223372036854775808 ≤ n) (h1 : n ≤ 9223372036854775807) : Vw (Lib.itoa n) = some n := by
 unfold Vw;rw [Zte n h0 h1];exact if_pos rfl
def Zhl (n : Nat) : UInt8 := UInt8.ofNat (if n < 10 then 48 + n else 87 + n)
def Kv (c : UInt8) : Option Nat := if 48 ≤ c.toNat ∧ c.toNat ≤ 57 then some (c.toNat - 48) else if 97 ≤ c.toNat ∧ c.toNat ≤ 102 then some (c.toNat - 87) else none
theorem Zdr {n : Nat} (h : n < 16) : (Zhl n).toNat = if n < 10 then 48 + n else 87 + n := by
 unfold Zhl;split <;> (simp; omega)
theorem Ziu {n : Nat} (h : n < 16) : Kv (Zhl n) = some n := by
 unfold Kv;rw [Zdr h];by_cases h1 : n < 10
 ·rw [if_pos h1, if_pos (by omega)]; congr 1; omega
 ·rw [if_neg h1, if_neg (by omega), if_pos (by omega)]; congr 1; omega
theorem Zit {c : UInt8} {n : Nat} (h : Kv c = some n) : n < 16 ∧ Zhl n = c := by
 unfold Kv at h;split at h
 ·cases h;refine ⟨by omega, ?_⟩;apply UInt8.toNat_inj.1;rw [Zdr (by omega), if_pos (by omega)]; omega
 ·split at h
  ·cases h;refine ⟨by omega, ?_⟩;apply UInt8.toNat_inj.1;rw [Zdr (by omega), if_neg (by omega)]; omega
  ·cases h
def Zjv : List UInt8 → List UInt8
 | [] => []
 | c :: l => Zhl (c.toNat / 16) :: Zhl (c.toNat % 16) :: Zjv l
def Q9 : List UInt8 → Option (List UInt8)
 | [] => some []
 | [_] => none
 | a :: b :: r => match Kv a, Kv b, Q9 r with
  | some x, some y, some t => some (UInt8.ofNat (16 * x + y) :: t)
  | _, _, _ => none
theorem Zfn : ∀ l : List UInt8, Q9 (Zjv l) = some l
 | [] => rfl
 | c :: l => by
  have hc := c.toNat_lt;unfold Zjv Q9;rw [Ziu (by omega), Ziu (by omega), Zfn l];simp only [Option.some.injEq, List.cons.injEq, and_true];apply UInt8.toNat_inj.1;simp; omega
theorem Zgw : ∀ (l : List UInt8), ∀ c ∈ Zjv l, c ≠ 32 ∧ c ≠ 45
 | [], c, h => by cases h
 | x :: l, c, h => by
  have hx := x.toNat_lt;have key : ∀ n, n < 16 → Zhl n ≠ 32 ∧ Zhl n ≠ 45 := fun n hn => by
   have := Zdr hn;constructor <;> (intro e; rw [e] at this; simp at this; split at this <;> omega)
  unfold Zjv at h;rcases List.mem_cons.1 h with rfl | h
  ·exact key _ (by omega)
  ·rcases List.mem_cons.1 h with rfl | h
   ·exact key _ (by omega)
   ·exact Zgw l c h
def Zdx (l : List UInt8) : List UInt8 := if l = [] then [45] else Zjv l
def Kp (w : List UInt8) : Option (List UInt8) := if w = [45] then some [] else if w = [] then none else Q9 w
theorem Zmt (l : List UInt8) : Kp (Zdx l) = some l := by
 unfold Zdx;by_cases h : l = []
 ·rw [if_pos h, h]; rfl
 ·rw [if_neg h];unfold Kp;rw [if_neg, if_neg, Zfn]
  ·intro e;cases l with
   | nil => exact h rfl
   | cons c l => unfold Zjv at e; cases e
  ·intro e;have := (Zgw l 45 (by rw [e]; simp)).2;exact this rfl
theorem Zs0 (l : List UInt8) : ∀ c ∈ Zdx l, c ≠ 32 := by
 intro c hc;unfold Zdx at hc;split at hc
 ·rw [List.mem_singleton.1 hc]; decide
 ·exact (Zgw l c hc).1
def Yx : List UInt8 → List (List UInt8)
 | [] => [[]]
 | c :: s => if c = 32 then [] :: Yx s else match Yx s with
  | w :: ws => (c :: w) :: ws
  | [] => [[c]]
theorem Kx : ∀ (a : List UInt8), (∀ c ∈ a, c ≠ 32) → Yx a = [a]
 | [], _ => rfl
 | c :: a, h => by
  unfold Yx;rw [if_neg (h c (by simp)), Kx a fun x hx => h x (by simp [hx])]
theorem Qx : ∀ (a b : List UInt8), (∀ c ∈ a, c ≠ 32) → Yx (a ++ 32 :: b) = a :: Yx b
 | [], b, _ => by
  rw [List.nil_append]
  conv => lhs; unfold Yx
  rw [if_pos rfl]
 | c :: a, b, h => by
  rw [List.cons_append]
  conv => lhs; unfold Yx
  rw [if_neg (h c (by simp)), Qx a b fun x hx => h x (by simp [hx])]
theorem Zc0 (s : List UInt8) : Yx s ≠ [] := by
 cases s with
 | nil => simp [Yx]
 | cons c s =>
  unfold Yx;split
  ·simp
  ·split <;> simp
def Zc2 : List UInt8 := [112, 117, 116]
def V5 : List UInt8 := [100, 101, 108, 101, 116, 101]
def Za5 : List UInt8 := [112, 117, 114, 103, 101]
def Zgg : Dd := ⟨0, 0, 0, []⟩
def V3 (d : Dd) : List UInt8 :=
 if d.kind = 3 then Za5 ++ 32 :: (Lib.itoa d.key ++ 32 :: Lib.itoa d.num)
 else if d.kind = 2 then V5 ++ 32 :: Lib.itoa d.key
 else Zc2 ++ 32 :: (Lib.itoa d.key ++ 32 :: Zdx d.data)
def Zh2 (ws : List (List UInt8)) : Option Dd × Int :=
 if ws.head? = some Zc2 then (match ws.tail with
  | [a, b] => (match Vw a, Kp b with | some k, some l => (some ⟨1, k, 0, l⟩, 0) | _, _ => (none, 2))
  | _ => (none, 2))
 else if ws.head? = some V5 then (match ws.tail with
  | [a] => (match Vw a with | some k => (some ⟨2, k, 0, []⟩, 0) | _ => (none, 2))
  | _ => (none, 2))
 else if ws.head? = some Za5 then (match ws.tail with
  | [a, b] => (match Vw a, Vw b with | some k, some n => (some ⟨3, k, n, []⟩, 0) | _, _ => (none, 2))
  | _ => (none, 2))
 else (none, 1)
def K6 (s : List UInt8) : Dd × Int := match Zh2 (Yx s) with
 | (some d, _) => if Z1 d = 0 then (d, 0) else (Zgg, Z1 d)
 | (none, e) => (Zgg, e)
theorem Zn4 (h : Z1 d = 0) : 1 ≤ d.kind ∧ d.kind ≤ 3 ∧ 1 ≤ d.key ∧ d.key ≤ 255 ∧ 0 ≤ d.num ∧ d.num ≤ 60000 ∧ (d.kind ≠ 3 → d.num = 0) ∧ (d.kind ≠ 1 → d.data = []) := by
 unfold Z1 at h;by_cases h1 : d.kind < 1 ∨ 3 < d.kind
 ·rw [if_pos h1] at h; omega
 ·rw [if_neg h1] at h;by_cases h3 : d.kind = 3
  ·rw [if_pos h3, if_pos h3] at h;by_cases h2 : d.key < 1 ∨ 255 < d.key ∨ d.num < 1 ∨ 60000 < d.num
   ·rw [if_pos h2] at h; omega
   ·rw [if_neg h2] at h;by_cases h4 : 8 < d.data.length ∨ d.kind ≠ 1 ∧ d.data.length ≠ 0
    ·rw [if_pos h4] at h; omega
    ·exact ⟨by omega, by omega, by omega, by omega, by omega, by omega, fun h => absurd h3 h, fun h => List.eq_nil_of_length_eq_zero (by omega)⟩
  ·rw [if_neg h3, if_neg h3] at h;by_cases h2 : d.key < 1 ∨ 255 < d.key ∨ d.num < 0 ∨ 0 < d.num
   ·rw [if_pos h2] at h; omega
   ·rw [if_neg h2] at h;by_cases h4 : 8 < d.data.length ∨ d.kind ≠ 1 ∧ d.data.length ≠ 0
    ·rw [if_pos h4] at h; omega
    ·exact ⟨by omega, by omega, by omega, by omega, by omega, by omega, fun _ => by omega, fun h => List.eq_nil_of_length_eq_zero (by omega)⟩
theorem Kd (h : Z1 d = 0) : K6 (V3 d) = (d, 0) := by
 obtain ⟨h1, h2, h3, h4, h5, h6, h7, h8⟩ := Zn4 h;have hs : Zh2 (Yx (V3 d)) = (some d, 0) := by
  obtain ⟨k, y, n, l⟩ := d;simp only at h1 h2 h3 h4 h5 h6 h7 h8;unfold V3;simp only;by_cases hk3 : k = 3
  ·subst hk3;rw [if_pos rfl, Qx _ _ (by decide), Qx _ _ (Zdm y), Kx _ (Zdm n)];have := h8 (by decide);subst this;simp [Zh2, Zc2, V5, Za5, Zbx (n := y) (by omega) (by omega), Zbx (n := n) (by omega) (by omega)]
  ·rw [if_neg hk3];have := h7 hk3;subst this;by_cases hk2 : k = 2
   ·subst hk2;have := h8 (by decide);subst this;rw [if_pos rfl, Qx _ _ (by decide), Kx _ (Zdm y)];simp [Zh2, Zc2, V5, Zbx (n := y) (by omega) (by omega)]
   ·obtain rfl : k = 1 := by omega
    rw [if_neg (by decide), Qx _ _ (by decide), Qx _ _ (Zdm y), Kx _ (Zs0 l)];simp [Zh2, Zc2, Zbx (n := y) (by omega) (by omega), Zmt]
 unfold K6;rw [hs];simp [h]
end Go.Proofs.YtpdnapbchcdhladGreatDoor
namespace Go.Proofs.YtpdnapbchcdhladGreatDoor
set_option maxRecDepth 100000
open Go.RowKit
open Plain Reg
def Zy5 (p : Dd × Int) (v : Value) (w : World) : Prop := ∃ a c, v = .tuple #[.agg #[.int .i64 p.1.kind, .int .i64 p.1.key, .int .i64 p.1.num, .slice a p.1.data.length c], .int .i64 p.2] ∧ Bytes w (.slice a p.1.data.length c) p.1.data
def Zkg (V : World → Prop) : Prop := ∀ (s : List UInt8) (w : World), V w → s.length ≤ 140737488355328 →
 Calls Tryz.prog 16 #[.string ⟨s.toArray⟩] w fun r w' => ∃ v, r = .returned v ∧ Zy5 (K6 s) v w' ∧ Zj w w'
theorem Vp (w : World) (v : Value) (l : List UInt8) (h : Bytes w v l) : (convert 38 9 v).run Tryz.prog w = .ok (.string ⟨l.toArray⟩) w := Zjn w v l h
end Go.Proofs.YtpdnapbchcdhladGreatDoor
namespace Go.Proofs.YtpdnapbchcdhladGreatDoor
set_option maxRecDepth 100000
open Plain
variable {d : Dd}
theorem Ze7 {s : St} (h : s.At) (he : (s.begin d).e = 0) {r : Rec} (hr : r ∈ s.recs) (hn : ¬ (d.kind = 3 ∧ d.key = r.key ∧ d.num = r.ver)) : r ∈ (s.begin d).st.recs := by
 obtain ⟨hw, hd⟩ := Zau he;have hb : s.begin d = if d.kind = 3 then ⟨⟨s.dk.pairD (Zha d s.idx) Rec.free, Jb s.idx (Zha d s.idx), s.next⟩, (doR s.recs d).n, 0⟩ else ⟨⟨s.dk.pairD (Xt s.idx) (Y5 d (doR s.recs d).n), Qh ⟨Y5 d (doR s.recs d).n, (Xt s.idx : Nat)⟩ s.idx, s.next⟩, (doR s.recs d).n, 0⟩ := by
  unfold St.begin;rw [if_neg (by simpa using hw), if_neg (by simpa using hd)]
 obtain ⟨x, hx, rfl⟩ := List.mem_map.1 hr;rw [hb];by_cases hk : d.kind = 3
 ·rw [if_pos hk];obtain ⟨y, hf, ha⟩ := Zf5 hk hd;rw [ha];refine List.mem_map.2 ⟨x, List.mem_filter.2 ⟨hx, decide_eq_true fun hp => ?_⟩, rfl⟩;have hy := List.mem_of_find?_eq_some hf;have hq : y.rc.key = d.key ∧ y.rc.ver = d.num := by
   have := List.find?_some (show s.idx.find? (fun x => decide (x.rc.key = d.key ∧ x.rc.ver = d.num)) = some y from hf);exact of_decide_eq_true this
  have hup := ((Yr s.idx).1 h.ok.right).1;have hxy : x = y := by
   obtain ⟨i, hi, rfl⟩ := List.mem_iff_getElem.1 hx;obtain ⟨j, hj, rfl⟩ := List.mem_iff_getElem.1 hy;rcases Nat.lt_trichotomy i j with hl | hl | hl
   ·exact absurd hp (List.pairwise_iff_getElem.1 hup i j hi hj hl).2
   ·subst hl; rfl
   ·exact absurd hp.symm (List.pairwise_iff_getElem.1 hup j i hj hi hl).2
  subst hxy;exact hn ⟨hk, hq.1.symm, hq.2.symm⟩
 ·rw [if_neg hk];exact List.mem_map.2 ⟨x, (Vk _ _ _).2 (.inr hx), rfl⟩
theorem Zhy {s : St} (h : s.Inv) {x : Sp} (hx : Xe s x = true) : (s.step x).st.recs = s.recs ∨ (x.kind = 1 ∨ x.kind = 2) ∧ (s.begin x.deed).e = 0 ∧ (s.step x).st.recs = (s.begin x.deed).st.recs := by
 have hg := h.good;have hi := Za7 h hx;have same : (∀ q : Nat, q < 6 → (s.step x).st.dk.tell (q : Int) = s.dk.tell (q : Int)) → (s.step x).st.recs = s.recs := fun ht => by
  unfold St.recs;rw [hi.idx, h.idx, Kz 6 ht]
 by_cases k1 : x.kind = 1
 ·have hs : s.step x = s.doS x.deed := by unfold St.step; rw [if_pos k1]
  rw [hs];by_cases he : (s.begin x.deed).e = 0
  ·exact .inr ⟨.inl k1, he, by unfold St.doS; rw [if_pos he]; rfl⟩
  ·left; unfold St.doS; rw [if_neg he, (Zeo he).1]
 ·by_cases k2 : x.kind = 2
  ·by_cases he : (s.begin x.deed).e = 0
   ·have hs : (s.step x).st = Xs ((s.begin x.deed).st.dk.keep x.n) := by unfold St.step; rw [if_neg k1, if_pos k2, if_neg (by simpa using he)]
    obtain ⟨p, r, H⟩ := Zat h he;have hk : (s.begin x.deed).st.dk.keep x.n = s.dk.half p r (Qr x.n 0) (Qr x.n 1) := by rw [H.disk, Zib h.good.fine H.p6 H.right]
    have hg2 := H.good (Qr x.n 0) (Qr x.n 1);rw [hs, hk];unfold St.recs;rw [hg2.mounted];rcases H.same (Qr x.n 0) (Qr x.n 1) with e | e
    ·left;show (Yd _ 6).map Ent.rc = _;rw [Kz 6 e, h.idx]
    ·right;refine ⟨.inr k2, he, ?_⟩;show (Yd _ 6).map Ent.rc = _;rw [e]
   ·left;have hs : (s.step x).st = s := by unfold St.step; rw [if_neg k1, if_pos k2, if_pos he]
    rw [hs]
  ·left;by_cases k3 : x.kind = 3
   ·have hs : (s.step x).st.idx = s.idx := by
     unfold St.step;rw [if_neg k1, if_neg k2, if_pos k3];split <;> rfl
    unfold St.recs;rw [hs]
   ·by_cases k4 : x.kind = 4
    ·refine same fun q hq => ?_;have hs : (s.step x).st = s.scrub := by unfold St.step; rw [if_neg k1, if_neg k2, if_neg k3, if_pos k4]
     rw [hs];have c1 : ((s.next.toNat : Nat) : Int) = s.next := by have := h.at'.low; omega
     have := (hg.mend (p := s.next.toNat) (by have := h.at'.high; omega)).2 q hq;rw [c1] at this;exact this
    ·by_cases k5 : x.kind = 5
     ·refine same fun q hq => ?_;have hs : (s.step x).st = Xs s.dk.clean := by unfold St.step; rw [if_neg k1, if_neg k2, if_neg k3, if_neg k4, if_pos k5]
      obtain ⟨h1, h2⟩ := hg.cleaned;rw [hs, h1.mounted];exact h2 q hq
     ·by_cases k6 : x.kind = 6
      ·refine same fun q _ => ?_;have hs : (s.step x).st = Xs s.dk := by unfold St.step; rw [if_neg k1, if_neg k2, if_neg k3, if_neg k4, if_neg k5, if_pos k6]
       rw [hs, hg.mounted]
      ·have hs : (s.step x).st = s := by unfold St.step; rw [if_neg k1, if_neg k2, if_neg k3, if_neg k4, if_neg k5, if_neg k6]
       rw [hs]
theorem Zyk {s : St} (hk : d.kind ≠ 3) (he : (s.doS d).e = 0) : Y5 d (s.doS d).n ∈ (s.doS d).st.recs := by
 have he0 : (s.begin d).e = 0 := by
  unfold St.doS at he;by_cases hb : (s.begin d).e = 0
  ·exact hb
  ·rw [if_neg hb] at he; exact absurd he hb
 obtain ⟨hw, hd⟩ := Zau he0;have hb : s.begin d = ⟨⟨s.dk.pairD (Xt s.idx) (Y5 d (doR s.recs d).n), Qh ⟨Y5 d (doR s.recs d).n, (Xt s.idx : Nat)⟩ s.idx, s.next⟩, (doR s.recs d).n, 0⟩ := by
  unfold St.begin;rw [if_neg (by simpa using hw), if_neg (by simpa using hd), if_neg hk]
 unfold St.doS;rw [if_pos he0, hb];exact List.mem_map.2 ⟨_, (Vk _ _ _).2 (.inl rfl), rfl⟩
end Go.Proofs.YtpdnapbchcdhladGreatDoor
namespace Go.Proofs.YtpdnapbchcdhladGreatDoor
set_option maxRecDepth 100000
open Go.RowKit
open Plain Reg
theorem Zya : Qg.idx = [] := by
 rw [Jp.idx];cases h : Yd Qg.dk 6 with
 | nil => rfl
 | cons x l =>
  exfalso;have hx : x ∈ Yd Qg.dk 6 := by rw [h]; simp
  obtain ⟨p, hp, hk, -⟩ := (Qj _ _ 6).1 hx;have hd : Qg.dk = Dk.new := by show Dk.new.keep 0 = _; exact Zlo.keep0
  rw [hd] at hk;have : ∀ q : Fin 6, (Dk.new.tell ((q.val : Nat) : Int)).kind = 1 := by decide +kernel
  exact hk (this ⟨p, hp⟩)
theorem Qz : Qg.recs = [] := by unfold St.recs; rw [Zya]; rfl
end Go.Proofs.YtpdnapbchcdhladGreatDoor
