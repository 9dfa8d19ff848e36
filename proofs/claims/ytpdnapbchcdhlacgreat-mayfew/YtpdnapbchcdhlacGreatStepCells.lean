import Derived.Test.YtpdnapbchcdhlacGreatPyDo
set_option maxHeartbeats 8000000
namespace Go.Proofs.YtpdnapbchcdhlacGreat
set_option maxRecDepth 100000
open Go.RowKit
open Plain Reg
theorem Zfc {w : World} {N : Nat} {A : Array Value} {T : TypeId} {f : Nat × Nat} (h : w.heap[N]? = some (.cells A T f)) (k : Nat) {cs : List Value} (hl : cs.length = 7) (h0 : A[k]? = cs[0]?) (h1 : A[k + 1]? = cs[1]?) (h2 : A[k + 2]? = cs[2]?) (h3 : A[k + 3]? = cs[3]?) (h4 : A[k + 4]? = cs[4]?) (h5 : A[k + 5]? = cs[5]?) (h6 : A[k + 6]? = cs[6]?) : ∀ (j : Nat) (u : Value), cs[j]? = some u → w.cell? ⟨N, 0 + k + j, none⟩ = some u := fun j u hj => by
 have h7 : j < 7 := by have := (List.getElem?_eq_some_iff.1 hj).1; omega
 rw [Nat.zero_add];refine Zc h (k + j) u ?_
 match j, h7, hj with
 | 0, _, hj => exact h0.trans hj
 | 1, _, hj => exact h1.trans hj
 | 2, _, hj => exact h2.trans hj
 | 3, _, hj => exact h3.trans hj
 | 4, _, hj => exact h4.trans hj
 | 5, _, hj => exact h5.trans hj
 | 6, _, hj => exact h6.trans hj
end Go.Proofs.YtpdnapbchcdhlacGreat
namespace Go.Proofs.YtpdnapbchcdhlacGreat
set_option maxRecDepth 100000
open Go.RowKit Go.Deep
open Plain Reg
structure Zty (B g n cap : Nat) (w0 : World) (zs : List Int) (w : World) : Prop where
 row : w.ownsRow B 3 1 (.slice (some ⟨g, 0, none⟩) n cap) n (zs.map (Value.int .i64))
 grow : Zl w0 w
theorem Zty.len {B g n cap : Nat} {w0 : World} {zs : List Int} {w : World} (h : Zty B g n cap w0 zs w) : zs.length = n := by have := h.row.1; simpa using this
end Go.Proofs.YtpdnapbchcdhlacGreat
namespace Go.Proofs.YtpdnapbchcdhlacGreat
set_option maxRecDepth 100000
open Plain
end Go.Proofs.YtpdnapbchcdhlacGreat
namespace Go.Proofs.YtpdnapbchcdhlacGreat
set_option maxRecDepth 100000
open Go.RowKit Go.Deep
open Plain Reg
end Go.Proofs.YtpdnapbchcdhlacGreat
namespace Go.Proofs.YtpdnapbchcdhlacGreat
set_option maxRecDepth 100000
open Go.RowKit
open Plain Reg
theorem Zjd : Zqu := fun S s v w _ hs hA => (Zcs S s v w hs (by have := hA.ok.len; omega) (fun r hr => (Vr (Zdk hA.ok.right hA.ok.len)).2 r hr |>.2.2)).mono fun _ _ ⟨v', _, h1, h2, h3⟩ => ⟨v', h1, h2.recs S, h3⟩
end Go.Proofs.YtpdnapbchcdhlacGreat
namespace Go.Proofs.YtpdnapbchcdhlacGreat
set_option maxRecDepth 100000
open Plain
theorem Zos {s : St} (h : s.Inv) {x : Sp} (hx : Qb s x = true) : (s.step x).st.recs = s.recs ∨ (x.kind = 1 ∨ x.kind = 2) ∧ (s.begin x.deed).e = 0 ∧ (s.step x).st.recs = (s.begin x.deed).st.recs := by
 have hg := h.good;have hi := Zi7 h hx;have same : (∀ q : Nat, q < 6 → (s.step x).st.dk.tell (q : Int) = s.dk.tell (q : Int)) → (s.step x).st.recs = s.recs := fun ht => by
  unfold St.recs;rw [hi.idx, h.idx, Jz 6 ht]
 by_cases k1 : x.kind = 1
 ·have hs : s.step x = s.doS x.deed := by unfold St.step; rw [if_pos k1]
  rw [hs];by_cases he : (s.begin x.deed).e = 0
  ·exact .inr ⟨.inl k1, he, by unfold St.doS; rw [if_pos he]; rfl⟩
  ·left; unfold St.doS; rw [if_neg he, (Zd0 he).1]
 ·by_cases k2 : x.kind = 2
  ·by_cases he : (s.begin x.deed).e = 0
   ·have hs : (s.step x).st = Xy ((s.begin x.deed).st.dk.keep x.n) := by unfold St.step; rw [if_neg k1, if_pos k2, if_neg (by simpa using he)]
    obtain ⟨p, r, H⟩ := Zap h he;have hk : (s.begin x.deed).st.dk.keep x.n = s.dk.half p r (Xv x.n 0) (Xv x.n 1) := by rw [H.disk, Zg6 h.good.fine H.p6 H.right]
    have hg2 := H.good (Xv x.n 0) (Xv x.n 1);rw [hs, hk];unfold St.recs;rw [hg2.mounted];rcases H.same (Xv x.n 0) (Xv x.n 1) with e | e
    ·left;show (Z4 _ 6).map Ent.rc = _;rw [Jz 6 e, h.idx]
    ·right;refine ⟨.inr k2, he, ?_⟩;show (Z4 _ 6).map Ent.rc = _;rw [e]
   ·left;have hs : (s.step x).st = s := by unfold St.step; rw [if_neg k1, if_pos k2, if_pos he]
    rw [hs]
  ·left;by_cases k3 : x.kind = 3
   ·have hs : (s.step x).st.idx = s.idx := by
     unfold St.step;rw [if_neg k1, if_neg k2, if_pos k3];split <;> rfl
    unfold St.recs;rw [hs]
   ·by_cases k4 : x.kind = 4
    ·refine same fun q hq => ?_;have hs : (s.step x).st = s.scrub := by unfold St.step; rw [if_neg k1, if_neg k2, if_neg k3, if_pos k4]
     rw [hs];have c1 : ((s.next.toNat : Nat) : Int) = s.next := by have := h.at'.low; omega
     have := (hg.mend (p := s.next.toNat) (by have := h.at'.high; omega)).2 q hq;rw [c1] at this;exact this
    ·by_cases k5 : x.kind = 5
     ·refine same fun q hq => ?_;have hs : (s.step x).st = Xy s.dk.clean := by unfold St.step; rw [if_neg k1, if_neg k2, if_neg k3, if_neg k4, if_pos k5]
      obtain ⟨h1, h2⟩ := hg.cleaned;rw [hs, h1.mounted];exact h2 q hq
     ·by_cases k6 : x.kind = 6
      ·refine same fun q _ => ?_;have hs : (s.step x).st = Xy s.dk := by unfold St.step; rw [if_neg k1, if_neg k2, if_neg k3, if_neg k4, if_neg k5, if_pos k6]
       rw [hs, hg.mounted]
      ·have hs : (s.step x).st = s := by unfold St.step; rw [if_neg k1, if_neg k2, if_neg k3, if_neg k4, if_neg k5, if_neg k6]
       rw [hs]
end Go.Proofs.YtpdnapbchcdhlacGreat
namespace Go.Proofs.YtpdnapbchcdhlacGreat
set_option maxRecDepth 100000
open Go.RowKit
open Plain Reg
def dMy : Dd := ⟨1, 7, 0, []⟩
def lMy : List Sp := [⟨1, 0, 0, dMy⟩, ⟨3, 5, 1, ⟨0, 0, 0, []⟩⟩, ⟨3, 20, 1, ⟨0, 0, 0, []⟩⟩]
theorem Zst : Xz [] ⟨2, 0, 0, dMy⟩ = [[], [⟨2, 7, 1, []⟩]] := Zai ⟨.inr rfl, by decide, by decide⟩ (by decide)
theorem Zss : Xz [] ⟨6, 0, 0, ⟨0, 0, 0, []⟩⟩ = [[]] := Za1 fun h => h.1.elim (by decide) (by decide)
theorem Zu7 : (Vh Q3 lMy : Int) = 2 := by decide +kernel
theorem Zpn : Qb Q3 ⟨3, 0, 0, ⟨0, 0, 0, []⟩⟩ = true := by decide +kernel
abbrev myA : Array Value := #[.int .i64 1, .int .i64 0, .int .i64 0, .int .i64 1, .int .i64 7, .int .i64 0, .slice none 0 0, .int .i64 3, .int .i64 5, .int .i64 1, .int .i64 0, .int .i64 0, .int .i64 0, .slice none 0 0, .int .i64 3, .int .i64 20, .int .i64 1, .int .i64 0, .int .i64 0, .int .i64 0, .slice none 0 0]
theorem Zsr {w : World} {N : Nat} {f : Nat × Nat} (h : w.heap[N]? = some (.cells myA 49 f)) : Zba (fun b => b < w.heap.size) w (.slice (some ⟨N, 0, none⟩) 3 3) lMy := by
 refine .inr ⟨N, 0, 3, Za h, rfl, Nat.le_refl _, fun i hi => ?_⟩;have hb : ∀ S, Z1 S w (.slice none 0 0) [] := fun S => .inl ⟨none, 0, rfl, rfl, fun _ => rfl⟩
 have hi3 : i < 3 := hi
 match i, hi3 with
 | 0, _ => exact ⟨_, ⟨_, rfl, hb _⟩, Zfc h 0 rfl rfl rfl rfl rfl rfl rfl rfl⟩
 | 1, _ => exact ⟨_, ⟨_, rfl, hb _⟩, Zfc h 7 rfl rfl rfl rfl rfl rfl rfl rfl⟩
 | 2, _ => exact ⟨_, ⟨_, rfl, hb _⟩, Zfc h 14 rfl rfl rfl rfl rfl rfl rfl rfl⟩
theorem Zml (ML : Zgc) (MG : Zhv) (MW : Zix) : Zdc := by
 intro w;have g0 := Zb w (.cells #[.int .i64 1, .int .i64 7, .int .i64 0, .slice none 0 0] 47);have hD0 := Zk w #[.int .i64 1, .int .i64 7, .int .i64 0, .slice none 0 0] 47;obtain ⟨p0, p1, p2, p3⟩ := Yk hD0 rfl rfl rfl rfl;go_enter Tryz.func36, Tryz.ntmps36;go_wp2_with fail;clear p0 p1 p2 p3;generalize World.alloc w _ = W0 at *;have hnb : ∀ (S : Nat → Prop) (w : World), Z1 S w (.slice none 0 0) [] := fun S w => .inl ⟨none, 0, rfl, rfl, fun _ => rfl⟩
 refine (ML (fun b => b < W0.heap.size) [] ⟨2, 0, 0, dMy⟩ _ none 0 W0 (fun b h => h) rfl (Zt.nil _ _ _) (hnb _ _) (by decide)).mono ?_;rw [Zst];rintro r w1 ⟨v1, rfl, h1, g1⟩;obtain ⟨a1, c1, rfl⟩ : ∃ a c, v1 = .slice a 2 c := Zt.form h1;have hD1 := (g1.block _ (Za hD0)).trans hD0;have gw1 := g0.trans g1;clear g0 g1 hD0;obtain ⟨p0, p1, p2, p3⟩ := Yk hD1 rfl rfl rfl rfl;go_wp2_with fail;have hL0 := Zk w1 myA 49;have gL := Zb w1 (.cells myA 49);have hl2 := Zt.grow h1 gL;have gw2 := gw1.trans gL;clear p0 p1 p2 p3 hD1 gL h1 gw1;obtain ⟨W2, hW2⟩ : ∃ W2, W2 = w1.alloc (.cells myA 49) := ⟨_, rfl⟩;rw [← hW2] at hL0 hl2 gw2;unfold myA at hW2;rw [← hW2];clear hW2;refine (MW (fun b => b < W2.heap.size) lMy _ W2 (fun b h => h) (Zsr hL0) (by decide) (fun x hx => by simp [lMy, dMy] at hx; rcases hx with rfl | rfl | rfl <;> decide)).mono ?_;rw [Zu7];rintro r w3 ⟨rfl, g3⟩;have hl3 := Zt.grow hl2 g3;have gw3 := gw2.trans g3;clear hL0 hl2 gw2 g3;obtain ⟨b, off, a2, c2, hao, z1, -⟩ := Za2 hl3 1 (by decide);cases hao;replace z1 : w3.cell? ⟨b, off + 1, none⟩ = some (.slice a2 1 c2) := z1;clear hl3;go_wp2_with fail;clear z1;refine (Zo1 (fun b => b < w3.heap.size) w3 (fun b h => h)).mono ?_;rintro r w4 ⟨v4, rfl, h4, g4⟩;obtain ⟨b4, e4, l4, m4, i4, j4, hv4, -, -, -⟩ := h4.form;subst hv4;have gw4 := gw3.trans g4;clear gw3 g4;go_wp2_with fail;refine (MG (fun b => b < w4.heap.size) Q3 ⟨3, 0, 0, ⟨0, 0, 0, []⟩⟩ _ none 0 w4 (fun b h => h) h4.any.now (hnb _ _) Zu4 (by decide)).mono ?_;rw [Zpn]
 rintro r w5 ⟨rfl, g5⟩;have gw5 := gw4.trans g5;clear gw4 g5 h4;generalize Q3 = s at *;go_wp2_with fail;refine (ML (fun b => b < w5.heap.size) [] ⟨6, 0, 0, ⟨0, 0, 0, []⟩⟩ _ none 0 w5 (fun b h => h) rfl (Zt.nil _ _ _) (hnb _ _) (by decide)).mono ?_;rw [Zss];rintro r w6 ⟨v6, rfl, h6, g6⟩;obtain ⟨a6, c6, rfl⟩ : ∃ a c, v6 = .slice a 1 c := Zt.form h6;have gE := gw5.trans g6;clear gw5 g6 h6;go_wp2_with fail;go_ret;exact ⟨rfl, gE⟩
end Go.Proofs.YtpdnapbchcdhlacGreat
