import Derived.Test.YtpdnapbchcdhlacGreatDkLaw
import Derived.Laws.OwnMore
import Derived.Test.YtpdnapbchcdhlacGreatRRead
set_option maxHeartbeats 8000000
namespace Go.Proofs.YtpdnapbchcdhlacGreat
set_option maxRecDepth 100000
open Go.RowKit
open Plain Reg
variable {B B' : Nat} {bs : List (List UInt8)} {us : List Value} {v : Value} {w w' : World}
structure Vl (B : Nat) (v : Value) (bs : List (List UInt8)) (us : List Value) (w : World) : Prop where
 len : us.length = bs.length
 row : w.ownsRow B 45 1 v bs.length us
 each : ∀ i (hi : i < bs.length), ∃ u, us[i]? = some u ∧ w.ownsRow B 5 1 u bs[i].length (bs[i].map bv)
def Zij (us : List Value) : Prop := ∀ (i j : Nat) (u u' : Value) (p : Nat), i < j → us[i]? = some u → us[j]? = some u' → u.ownBlock = some p → u'.ownBlock ≠ some p
def Jn (B : Nat) (v : Value) (bs : List (List UInt8)) (w : World) : Prop := ∃ us, Vl B v bs us w
theorem Vl.grow (h : Vl B v bs us w) (hg : Zn w w') : Vl B v bs us w' :=
 ⟨h.len, Yb h.row hg, fun i hi => (h.each i hi).imp fun _ hu => ⟨hu.1, Yb hu.2 hg⟩⟩
theorem Vl.mono (h : Vl B v bs us w) (hb : B' ≤ B) : Vl B' v bs us w :=
 ⟨h.len, Yk h.row hb, fun i hi => (h.each i hi).imp fun _ hu => ⟨hu.1, Yk hu.2 hb⟩⟩
theorem Vl.box (h : Vl B v bs us w) (hs : Yw 26 w w') : Vl B v bs us w' :=
 ⟨h.len, Qo (by decide) hs h.row, fun i hi => (h.each i hi).imp fun _ hu => ⟨hu.1, Qo (by decide) hs hu.2⟩⟩
theorem Vl.p (h : Vl B v bs us w) : X1 w v bs := by
 rcases h.row.2 with ⟨rfl, h0⟩ | ⟨q, cap, cur, rfl, hb, hh, k1, k2, k3, k4⟩
 ·exact .inl ⟨none, 0, rfl, List.eq_nil_of_length_eq_zero h0, fun _ => rfl⟩
 ·refine .inr ⟨q, 0, cap, rfl, k1, fun i hi => ?_⟩;have c0 := h.row.cellAt i (by omega);obtain ⟨u, hu1, hu2⟩ := h.each i hi;rw [hu1] at c0;exact ⟨u, by rw [Nat.zero_add]; exact c0, Qk hu2⟩
theorem Jn.grow (h : Jn B v bs w) (hg : Zn w w') : Jn B v bs w' := h.imp fun _ x => x.grow hg
theorem Jn.mono (h : Jn B v bs w) (hb : B' ≤ B) : Jn B' v bs w := h.imp fun _ x => x.mono hb
theorem Jn.box (h : Jn B v bs w) (hs : Yw 26 w w') : Jn B v bs w' := h.imp fun _ x => x.box hs
theorem Jn.p (h : Jn B v bs w) : X1 w v bs := h.elim fun _ x => x.p
theorem Jn.form (h : Jn B v bs w) : ∃ ao cap, v = .slice ao bs.length cap := h.p.form
theorem Zgd (w : World) (n : Nat) (hn : n ≤ 256) : (Instr.makeSlice 23 (.int .i64 (n : Int)) (.int .i64 (n : Int))).run Tryz.prog w = .ok (.slice (some ⟨w.heap.size, 0, none⟩) n n) (w.alloc (.cells (Array.replicate n (.slice none 0 0)) 45)) := by
 obtain ⟨i0, hif, hz0, hz1, hz2⟩ := info_parts Ji;have h := run_make (P := Tryz.prog) w 23 45 i0 (.slice none 0 0) Tryz.underlying23 hif hz0 .i64 .i64 n n (by omega) (by omega) (by rw [hz2]; omega) (by omega);rw [h, hz1];have e : madeCells (Value.slice none 0 0).cells ((n : Int).toNat * 1) = Array.replicate n (Value.slice none 0 0) := by
  have h2 := toList_madeCells_one (.slice none 0 0) n;rw [Int.toNat_natCast, Nat.mul_one, ← List.toArray_replicate, ← h2];rfl
 rw [e, Int.toNat_natCast]
structure Zcr (B : Nat) (bs : List (List UInt8)) (k : Nat) (us : List Value) (w : World) : Prop where
 len : us.length = bs.length
 row : w.ownsRow B 45 1 (.slice (some ⟨B, 0, none⟩) bs.length bs.length) bs.length us
 each : ∀ i (hi : i < bs.length), i < k → ∃ u, us[i]? = some u ∧ w.ownsRow B 5 1 u bs[i].length (bs[i].map bv)
 apart : ∀ (i j : Nat) (u u' : Value) (p : Nat), i < j → j < k → us[i]? = some u → us[j]? = some u' → u.ownBlock = some p → u'.ownBlock ≠ some p
theorem V4 {n : Nat} {e : TypeId} {size g cap : Nat} {xs : List Value} (h : w.ownsRow B e size (.slice (some ⟨g, 0, none⟩) n cap) n xs) : ∃ cur, w.heap[g]? = some (.cells cur e (0, 0)) := by
 rcases h.2 with ⟨e, _⟩ | ⟨q', cap', cur, e, _, hh, _⟩
 ·cases e
 ·cases e; exact ⟨cur, hh⟩
theorem Zcr.step {k : Nat} {w1 : World} {u : Value} (h : Zcr B bs k us w) (hk : k < bs.length) (hB : B ≤ w.heap.size) (hg : Zn w w1) (hu : w1.ownsRow w.heap.size 5 1 u bs[k].length (bs[k].map bv)) : Zcr B bs (k + 1) (us.set k u) (w1.setCell ⟨B, k, none⟩ u) := by
 obtain ⟨cur, hcur⟩ := V4 (Yb h.row hg);refine ⟨by rw [List.length_set]; exact h.len, ((Yb h.row hg).stored k u).1, fun i hi hik => ?_, fun i j x x' p hij hjk hx hx' hp => ?_⟩
 ·by_cases e : k = i
  ·subst e;exact ⟨u, by rw [List.getElem?_set]; simp [h.len, hi], Zb8 (Yk hu hB) hcur (by decide)⟩
  ·obtain ⟨x, h1, h2⟩ := h.each i hi (by omega);exact ⟨x, by rw [List.getElem?_set]; simp [e, h1], Zb8 (Yb h2 hg) hcur (by decide)⟩
 ·have hi : i < bs.length := by omega
  rw [List.getElem?_set, if_neg (by omega)] at hx;by_cases e : k = j
  ·subst e;rw [List.getElem?_set, if_pos rfl, if_pos (by rw [h.len]; exact hk)] at hx';cases hx';obtain ⟨y, h1, h2⟩ := h.each i hi (by omega);rw [hx] at h1; cases h1;intro hq;have a1 := (h2.lt p hp).2;have a2 := (hu.lt p hq).1;omega
  ·rw [List.getElem?_set, if_neg e] at hx';exact h.apart i j x x' p hij (by omega) hx hx' hp
theorem Km (bs : List (List UInt8)) (v : Value) (w : World) (hb : X1 w v bs) (hlen : bs.length ≤ 256) (h16 : ∀ x ∈ bs, x.length ≤ 1000) :
  Calls Tryz.prog 71 #[v] w fun e w' => ∃ v' us, e = .returned v' ∧ Vl w.heap.size v' bs us w' ∧ Zij us ∧ Zn w w' := by
 obtain ⟨ab, cb, rfl⟩ := hb.form;have mk := fun w => Zgd w bs.length hlen
 have hg0 := Zb w (.cells (Array.replicate bs.length (.slice none 0 0)) 45);have hstart : Zcr w.heap.size bs 0 (List.replicate bs.length (.slice none 0 0)) (w.alloc (.cells (Array.replicate bs.length (.slice none 0 0)) 45)) := by
  refine ⟨by simp, ?_, fun i _ h => by omega, fun i j _ _ _ _ h => by omega⟩;have := World.ownsRow_lit (e := 45) (base := w.heap.size) (size := 1) w (Array.replicate bs.length (.slice none 0 0)) bs.length (Nat.le_refl _) (by unfold maxLen; omega) (by simp);simpa using this
 go_enter Tryz.func71, Tryz.ntmps71;go_wp2_with fail;clear mk;generalize World.alloc w _ = W at *;go_loopw [11] (fun i wr => ∃ k : Nat, k ≤ bs.length ∧ i = .int .i64 k ∧ Zn w wr ∧ ∃ us, Zcr w.heap.size bs k us wr) (fun i _ => bs.length - (intOf i).toNat)
 case atStart => exact ⟨0, Nat.zero_le _, rfl, hg0, _, hstart⟩
 case round =>
  clear hstart hg0;obtain ⟨k, hk, rfl, hg, us, hL⟩ := hrel;by_cases hlt : k < bs.length
  ·obtain ⟨b, off, hvb, u, hc0, hu⟩ := (hb.grow hg).at k hlt;cases hvb;have hx16 := h16 bs[k] (List.getElem_mem _);have hstep := fun w1 u => Zcr.step (w1 := w1) (u := u) hL hlt hg.size
   have hgw := fun (w1 : World) (g1 : Zn wr w1) => hg.trans g1
   obtain ⟨au, cu, rfl, -, -⟩ := Yn hu;have hlk : (bs[k]).length ≤ 140737488355328 := by omega
   go_wp2_with fail;refine (V9 bs[k] _ _ hlk hu).mono ?_;rintro e w1 ⟨v1, rfl, ho, g1⟩;have hs1 := hstep w1 v1 g1 ho;have gw1 := hgw w1 g1;have hrow := Yb hL.row g1;obtain ⟨a1, c1, rfl⟩ := Yc ho;have fq := hrow.frozenAt k;have cq := hrow.cellAt k (by omega);rw [List.getElem?_eq_getElem (by rw [hL.len]; exact hlt)] at cq;generalize us[k]'(by rw [hL.len]; exact hlt) = xm at cq;have gw2 := Zx gw1 (a := ⟨w.heap.size, k, none⟩) (Nat.le_refl _) (.slice a1 (bs[k]).length c1);clear hstep hgw hrow hL ho hc0 hu gw1 g1 hb;go_wp2_with fail;go_roundw
   case rel => exact ⟨k + 1, by omega, by simp, gw2, _, hs1⟩
   case measure => simp [intOf]; omega
  ·have hk' : k = bs.length := by omega
   subst hk';have hE : Vl w.heap.size (.slice (some ⟨w.heap.size, 0, none⟩) bs.length bs.length) bs us wr := ⟨hL.len, hL.row, fun i hi => hL.each i hi hi⟩;have hA : Zij us := by
    intro i j u u' p hij h1 h2 h3;have hj : j < bs.length := by
     rcases Nat.lt_or_ge j us.length with h | h
     ·rw [← hL.len]; exact h
     ·rw [List.getElem?_eq_none h] at h2; cases h2
    exact hL.apart i j u u' p hij hj h1 h2 h3
   clear hL hb;go_wp2_with fail;go_ret;exact ⟨_, us, rfl, hE, hA, hg⟩
end Go.Proofs.YtpdnapbchcdhlacGreat
namespace Go.Proofs.YtpdnapbchcdhlacGreat
set_option maxRecDepth 100000
open Go.RowKit
open Plain Reg
variable {B B' base g n : Nat} {e : TypeId} {us xs : List Value} {v : Value} {w w' : World} {ws : List Wr} {x : Wr}
structure Zbk (B : Nat) (v : Value) (ws : List Wr) (us : List Value) (w : World) : Prop where
 len : us.length = ws.length
 row : w.ownsRow B 107 2 v ws.length (Vn ws us)
 each : ∀ i (hi : i < ws.length), ∃ u, us[i]? = some u ∧ w.ownsRow B 5 1 u ws[i].2.length (ws[i].2.map bv)
def Q4 (B : Nat) (v : Value) (ws : List Wr) (w : World) : Prop := ∃ us, Zbk B v ws us w
theorem Zbk.grow (h : Zbk B v ws us w) (hg : Zn w w') : Zbk B v ws us w' :=
 ⟨h.len, Yb h.row hg, fun i hi => (h.each i hi).imp fun _ hu => ⟨hu.1, Yb hu.2 hg⟩⟩
theorem Zbk.mono (h : Zbk B v ws us w) (hb : B' ≤ B) : Zbk B' v ws us w :=
 ⟨h.len, Yk h.row hb, fun i hi => (h.each i hi).imp fun _ hu => ⟨hu.1, Yk hu.2 hb⟩⟩
theorem Zbk.box (h : Zbk B v ws us w) (hs : Yw 26 w w') : Zbk B v ws us w' :=
 ⟨h.len, Qo (by decide) hs h.row, fun i hi => (h.each i hi).imp fun _ hu => ⟨hu.1, Qo (by decide) hs hu.2⟩⟩
theorem Zbk.p (h : Zbk B v ws us w) : Vv w v ws :=
 (Zgi (S := Zs (fun _ => False) B) h.row h.len (fun i hi => (h.each i hi).imp fun _ hu => ⟨hu.1, Zcl _ hu.2⟩)).p
theorem Q4.grow (h : Q4 B v ws w) (hg : Zn w w') : Q4 B v ws w' := h.imp fun _ x => x.grow hg
theorem Q4.mono (h : Q4 B v ws w) (hb : B' ≤ B) : Q4 B' v ws w := h.imp fun _ x => x.mono hb
theorem Q4.box (h : Q4 B v ws w) (hs : Yw 26 w w') : Q4 B v ws w' := h.imp fun _ x => x.box hs
theorem Q4.p (h : Q4 B v ws w) : Vv w v ws := h.elim fun _ x => x.p
theorem Q4.form (h : Q4 B v ws w) : ∃ ao cap, v = .slice ao ws.length cap := h.p.form
theorem Q4.nil (B : Nat) (w : World) : Q4 B (.slice none 0 0) [] w := ⟨[], rfl, World.ownsRow_nil _ _ _ _, fun i hi => by simp at hi⟩
theorem Zbk.snoc {u : Value} (hl : us.length = ws.length) (hr : w.ownsRow B 107 2 v (ws.length + 1) (Vn ws us ++ [.int .i64 x.1, u]))
  (he : ∀ i (hi : i < ws.length), ∃ u, us[i]? = some u ∧ w.ownsRow B 5 1 u ws[i].2.length (ws[i].2.map bv)) (hu : w.ownsRow B 5 1 u x.2.length (x.2.map bv)) : Zbk B v (ws ++ [x]) (us ++ [u]) w := by
 refine ⟨by simp [hl], ?_, fun i hi => ?_⟩
 ·rw [Zgt ws us x u hl]; simpa using hr
 ·by_cases hi2 : i < ws.length
  ·obtain ⟨y, h1, h2⟩ := he i hi2;refine ⟨y, by rw [List.getElem?_append_left (by omega)]; exact h1, ?_⟩;rw [List.getElem_append_left hi2]; exact h2
  ·have e : i = ws.length := by simp at hi; omega
   subst e;exact ⟨u, by rw [← hl]; simp, by simpa using hu⟩
theorem Znf (w : World) (n : Nat) (hn : n ≤ 10000) : ∃ c, c.size = n * 2 ∧ (Instr.makeSlice 24 (.int .i64 0) (.int .i64 (n : Int))).run Tryz.prog w = .ok (.slice (some ⟨w.heap.size, 0, none⟩) 0 n) (w.alloc (.cells c 107)) := by
 obtain ⟨i0, hif, hz0, hz1, hz2⟩ := info_parts Za7;have h := run_make (P := Tryz.prog) w 24 107 i0 (.agg #[.int .i64 0, .slice none 0 0]) Tryz.underlying24 hif hz0 .i64 .i64 0 n (by omega) (by omega) (by rw [hz2]; omega) (by omega);rw [h, hz1];exact ⟨_, size_madeCells _ _, by rw [Int.toNat_natCast]; rfl⟩
def Zfa (g : Nat) (w w' : World) : Prop := w' = w ∨ w.grownBy w' (some g)
theorem Zdf {size : Nat} (hs : Zfa g w w') (hg : g < base) (h : w.ownsRow base e size v n xs) : w'.ownsRow base e size v n xs := by
 rcases hs with rfl | hs
 ·exact h
 ·refine ⟨h.1, Xq h.2 (fun x => x) fun ⟨q, cap, cur, h1, h2, h3, r⟩ => ⟨q, cap, cur, h1, h2, ?_, r⟩⟩;rw [hs.block _ (Za h3) (by intro e; cases e; omega)];exact h3
theorem Zp8 {T : TypeId} {c f} {size : Nat} (hs : w.grownBy w' (some g)) (hg : w.heap[g]? = some (.cells c T f)) (hT : e ≠ T) (h : w.ownsRow base e size v n xs) : w'.ownsRow base e size v n xs := by
 refine ⟨h.1, Xq h.2 (fun x => x) fun ⟨q, cap, cur, h1, h2, h3, r⟩ => ⟨q, cap, cur, h1, h2, ?_, r⟩⟩;rw [hs.block _ (Za h3) (by intro e; cases e; rw [hg] at h3; cases h3; exact hT rfl)];exact h3
def Zpb (w : World) (g bx : Nat) (c : Array Value) (v : Value) (ws : List Wr) (us : List Value) (dn : Nat → Bool) (w' : World) : Prop :=
 Zn w w' ∧ w'.heap[bx]? = some (.cells c 107 (0, 0)) ∧ (dn 8 = false → w'.ownsRow g 107 2 v ws.length (Vn ws us)) ∧
  (∀ i (hi : i < ws.length), ∃ u, us[i]? = some u ∧ w'.ownsRow g 5 1 u ws[i].2.length (ws[i].2.map bv))
theorem Zpb.grow {bx : Nat} {c : Array Value} {dn : Nat → Bool} {w'' : World} (h : Zpb w g bx c v ws us dn w') (hg : Zn w' w'') : Zpb w g bx c v ws us dn w'' :=
 ⟨h.1.trans hg, (hg.block _ (Za h.2.1)).trans h.2.1, fun h8 => Yb (h.2.2.1 h8) hg, fun i hi => (h.2.2.2 i hi).imp fun _ hu => ⟨hu.1, Yb hu.2 hg⟩⟩
def WrP (g : Nat) (x : Wr) (v : Value) (w : World) : Prop := ∃ u, v = .agg #[.int .i64 x.1, u] ∧ w.ownsRow (g + 1) 5 1 u x.2.length (x.2.map bv)
def Zrm (g : Nat) (x : Wr) (v : Value) (w : World) : Prop := ∃ b0 u, v = .slice (some ⟨b0, 0, none⟩) 1 1 ∧ g < b0 ∧ w.heap[b0]? = some (.cells #[.int .i64 x.1, u] 107 (0, 0)) ∧ w.ownsRow (g + 1) 5 1 u x.2.length (x.2.map bv)
def Zro (g cap : Nat) (ws : List Wr) (us : List Value) (x : Wr) (v : Value) (w : World) : Prop := v = .slice (some ⟨g, 0, none⟩) (ws.length + 1) cap ∧ ∃ u, w.ownsRow g 107 2 v (ws.length + 1) (Vn ws us ++ [.int .i64 x.1, u]) ∧ w.ownsRow (g + 1) 5 1 u x.2.length (x.2.map bv)
theorem Zw3 (g : Nat) (x : Wr) : Xv (WrP g x) := by
 rintro v w w' hg ⟨u, h1, h2⟩; exact ⟨u, h1, Yb h2 hg⟩
theorem Zw8 (hs : Zfa g w w') (h : WrP g x v w) : WrP g x v w' := by
 obtain ⟨u, h1, h2⟩ := h; exact ⟨u, h1, Zdf hs (by omega) h2⟩
theorem Zu3 (g : Nat) (x : Wr) : Xv (Zrm g x) := by
 rintro v w w' hg ⟨b0, u, h1, h2, h3, h4⟩; exact ⟨b0, u, h1, h2, (hg.block _ (Za h3)).trans h3, Yb h4 hg⟩
theorem Zu8 (hs : Zfa g w w') (h : Zrm g x v w) : Zrm g x v w' := by
 obtain ⟨b0, u, h1, h2, h3, h4⟩ := h;refine ⟨b0, u, h1, h2, ?_, Zdf hs (by omega) h4⟩;rcases hs with rfl | hs
 ·exact h3
 ·exact (hs.block _ (Za h3) (by intro e; cases e; omega)).trans h3
theorem Zok (g cap : Nat) (ws : List Wr) (us : List Value) (x : Wr) : Xv (Zro g cap ws us x) := by
 rintro v w w' hg ⟨h1, u, h2, h3⟩; exact ⟨h1, u, Yb h2 hg, Yb h3 hg⟩
theorem Zin (B : Nat) (l : List UInt8) : Xv (fun v w => w.ownsRow B 5 1 v l.length (l.map bv)) := fun _ _ _ hg h => Yb h hg
theorem Zrg (w : World) (g cap b0 : Nat) (ws : List Wr) (us : List Value) (x : Wr) (u : Value) (ty : TypeId) (hown : w.ownsRow g 107 2 (.slice (some ⟨g, 0, none⟩) ws.length cap) ws.length (Vn ws us)) (hx : w.heap[b0]? = some (.cells #[.int .i64 x.1, u] 107 (0, 0))) (hu : u.oneCell' = true) (hm : ws.length < cap) :
  ∃ w', (Builtin.append_ #[24, 24] ty #[.slice (some ⟨g, 0, none⟩) ws.length cap, .slice (some ⟨b0, 0, none⟩) 1 1]).run Tryz.prog w = .ok (.slice (some ⟨g, 0, none⟩) (ws.length + 1) cap) w' ∧ w'.ownsRow g 107 2 (.slice (some ⟨g, 0, none⟩) (ws.length + 1) cap) (ws.length + 1) (Vn ws us ++ [.int .i64 x.1, u]) ∧ w.grownBy w' (some g) := by
 obtain ⟨i0, hif, hz0, hz1, hz2⟩ := info_parts Za7;exact run_append_fits (P := Tryz.prog) w g 24 ty 107 i0 2 Tryz.underlying24 hif hz1 g ws.length cap (Vn ws us) hown ⟨b0, 0, none⟩ 1 1 [.int .i64 x.1, u] rfl
  (fun j z hj => by
   match j, hj with
   | 0, hj => simp at hj; subst hj; simp [Addr.add, World.cell?, hx]
   | 1, hj => simp at hj; subst hj; simp [Addr.add, World.cell?, hx]
   | j + 2, hj => simp at hj) (by intro z hz; simp at hz; rcases hz with rfl | rfl <;> first | rfl | exact hu) (by omega)
theorem Zcm (ws : List Wr) (m : Nat) (mi : Int) (hmi : mi = (m : Int)) (v : Value) (w : World) (hl : Vv w v ws) (hlen : ws.length ≤ 1000) (hm : m ≤ 10) (h16 : ∀ x ∈ ws, x.2.length ≤ 1000) :
  Calls Tryz.prog 103 #[v, .int .i64 mi] w fun e w' => ∃ v', e = .returned v' ∧ Q4 w.heap.size v' ws w' ∧ Zn w w' := by
 subst hmi;obtain ⟨al, cl, rfl⟩ := hl.form;obtain ⟨c0, hc0, mk0⟩ := Znf w (ws.length + m) (by omega);have mk : (Instr.makeSlice 24 (.int .i64 0) (.int .i64 ((ws.length : Int) + (m : Int)))).run Tryz.prog w = .ok (.slice (some ⟨w.heap.size, 0, none⟩) 0 (ws.length + m)) (w.alloc (.cells c0 107)) := mk0;have hstart : (w.alloc (.cells c0 107)).ownsRow w.heap.size 107 2 (.slice (some ⟨w.heap.size, 0, none⟩) 0 (ws.length + m)) 0 [] := World.ownsRow_made w c0 (ws.length + m) (Nat.le_refl _) (by unfold maxLen; omega) hc0;have hg0 := Zb w (.cells c0 107);clear mk0;go_enter Tryz.func103, Tryz.ntmps103;go_wp2_with fail;clear mk hc0;generalize World.alloc w _ = W at *;go_loopw [5, 15] (fun o i wr => ∃ k : Nat, k ≤ ws.length ∧ o = .slice (some ⟨w.heap.size, 0, none⟩) k (ws.length + m) ∧ i = .int .i64 k ∧ Zn w wr ∧ ∃ us, Zbk w.heap.size (.slice (some ⟨w.heap.size, 0, none⟩) k (ws.length + m)) (ws.take k) us wr) (fun _ i _ => ws.length - (intOf i).toNat)
 case atStart => exact ⟨0, Nat.zero_le _, rfl, rfl, hg0, [], ⟨rfl, by simpa [Vn] using hstart, fun i hi => by simp at hi⟩⟩
 case round =>
  clear hstart hg0;obtain ⟨k, hk, rfl, rfl, hg, us, hL⟩ := hrel;by_cases hlt : k < ws.length
  ·obtain ⟨b, off, hvl, hq0, u, hq1, hu⟩ := (hl.grow hg).at k hlt;cases hvl;have hx16 := h16 ws[k] (List.getElem_mem _);have HT : Hid (ws.take (k + 1) = ws.take k ++ [ws[k]]) := List.take_succ_eq_append_getElem hlt;have hpl : (ws.take k).length = k := by simp; omega
   generalize ws.take k = pre at *;generalize ws[k] = x at *;subst hpl;obtain ⟨au, cu, rfl, -, -⟩ := Yn hu;have g1 := Zb wr (.cells #[.int .i64 x.1, .slice au x.2.length cu] 107);have hz := Zg wr #[.int .i64 x.1, .slice au x.2.length cu] 107;have hL1 := hL.grow g1;have hlt0 := (hL.row.lt _ rfl).2;have hu1 : ∀ w', Zn wr w' → Bytes w' (.slice au x.2.length cu) x.2 := fun w' h => Z1 hu h
   have hgs := hg.trans g1;clear hL hu;go_wp2_with fail;refine Yx [px (.slice (some ⟨w.heap.size, 0, none⟩) pre.length (ws.length + m)), px (.pointer (some ⟨wr.heap.size, 0, none⟩)), px (.int .i64 x.1), px (.pointer (some ⟨wr.heap.size, 1, none⟩)), px (.slice au x.2.length cu), pl ((fun v w' => w'.ownsRow (w.heap.size + 1) 5 1 v x.2.length (x.2.map bv))), pl (WrP w.heap.size x), pl (Zrm w.heap.size x), pl (Zro w.heap.size (ws.length + m) pre us x), pl (Zro w.heap.size (ws.length + m) pre us x)] [none, none, none, none, none, none, none, none, some ((Zfa w.heap.size))] (fun dn w' => (dn 8 = false → Zn wr w') ∧ Zpb w w.heap.size wr.heap.size #[.int .i64 x.1, .slice au x.2.length cu] (.slice (some ⟨w.heap.size, 0, none⟩) pre.length (ws.length + m)) pre us dn w') (by kernel_rfl) (by kernel_rfl) ⟨se, se, se, se, se, Yj (Zin _ _), Yj (Zw3 _ _), Yj (Zu3 _ _), Yj (Zok _ _ _ _ _), Yj (Zok _ _ _ _ _), trivial⟩ ⟨⟨(fun w => .inl rfl), ⟨x5, x5, x5, x5, x5, .inr ((fun v _ w1 w' hs hq => Zdf hs (by omega) hq)), .inr ((fun v _ w1 w' hs hq => Zw8 hs hq)), .inr ((fun v _ w1 w' hs hq => Zu8 hs hq)), .inl (by kernel_rfl), .inl (by kernel_rfl), trivial⟩⟩, trivial⟩ ⟨n5, n5, n5, n5, n5, n5, n5, n5, n5, n5, trivial⟩ ⟨fun _ => g1.drew, hgs.drew, hz, fun _ => hL1.row, hL1.each⟩ ?_ ?_
   ·refine ⟨?_, ?_, ?_, ?_, ?_, ?_, ?_, ?_, ?_, ?_, trivial⟩
    ·exact Zd rfl fun a _ _ _ _ _ B A => Z6 rfl B (Zl A 5 rfl)
    ·refine Zd rfl fun a _ _ _ _ _ B A => ?_;have e7 : a (.tmp 7) = .pointer (some ⟨wr.heap.size, 0, none⟩) := Zl A 7 rfl;refine Zh ?_ B rfl;clear A B;go_simp;all_goals go_arith
    ·refine Zd rfl fun a _ _ _ _ C B A => ?_;have e20 : a (.tmp 20) = _ := Ze A 1 rfl;have z0 := Zc B.2.2.1 0 _ rfl;refine Zh ?_ B rfl;clear A B C;go_simp;all_goals go_arith
    ·refine Zd rfl fun a _ _ _ _ _ B A => ?_;have e7 : a (.tmp 7) = .pointer (some ⟨wr.heap.size, 0, none⟩) := Zl A 7 rfl;refine Zh ?_ B rfl;clear A B;go_simp;all_goals go_arith
    ·refine Zd rfl fun a _ _ _ _ C B A => ?_;have e22 : a (.tmp 22) = _ := Ze A 3 rfl;have z1 := Zc B.2.2.1 1 _ rfl;refine Zh ?_ B rfl;clear A B C;go_simp;all_goals go_arith
    ·refine Zd rfl fun a B _ _ _ D C A => ?_;have e23 : a (.tmp 23) = _ := Ze A 4 rfl;have n8 := D.not1 8 (by kernel_rfl);refine Yf (f := 108) (args := #[.slice au x.2.length cu]) ?_ ((V9 x.2 _ B (by omega) (hu1 B (C.1 n8))).mono ?_)
     ·clear A C D;go_simp;all_goals go_arith
     ·rintro e w2 ⟨v', rfl, ho, g2⟩;exact ⟨_, rfl, g2, ⟨fun h => (C.1 n8).trans g2, C.2.grow g2⟩, Yk ho (by have := Za C.2.2.1; omega)⟩
    ·refine Zd rfl fun a B _ _ _ D C A => ?_;have e21 : a (.tmp 21) = _ := Ze A 2 rfl;have e24 : ((fun v B => B.ownsRow (w.heap.size + 1) 5 1 v x.2.length (x.2.map bv))) (a (.tmp 24)) B := Ze A 5 rfl;obtain ⟨a4, c4, h24⟩ := Yc e24;refine Zh (v := .agg #[.int .i64 x.1, .slice a4 x.2.length c4]) ?_ C ⟨_, rfl, by rw [← h24]; exact e24⟩;clear A C D e24;go_simp;all_goals go_arith
    ·refine Zd rfl fun a w' _ _ _ C B A => ?_;have e25 : (WrP w.heap.size x) (a (.tmp 25)) w' := Ze A 6 rfl;obtain ⟨u4, h25, ho4⟩ := e25;obtain ⟨a4, c4, rfl⟩ := Yc ho4;refine Ql (v := .slice (some ⟨w'.heap.size, 0, none⟩) 1 1) (w' := w'.alloc (.cells #[.int .i64 x.1, .slice a4 x.2.length c4] 107)) ?_ (Zb _ _) ⟨fun h => (B.1 (C.not1 8 (by kernel_rfl))).trans (Zb _ _), B.2.grow (Zb _ _)⟩ ⟨_, _, rfl, by have := Za B.2.2.1; omega, Zg _ _ _, Yb ho4 (Zb _ _)⟩;clear A B C ho4;go_simp;all_goals go_arith
    ·refine Zd rfl fun a w' _ _ _ C B A => ?_;have e19 : a (.tmp 19) = _ := Ze A 0 rfl;have e26 : (Zrm w.heap.size x) (a (.tmp 26)) w' := Ze A 7 rfl;obtain ⟨b0, u4, h26, hb0, hh0, ho4⟩ := e26;have hrow := B.2.2.2.1 C.un;obtain ⟨cur, hcur⟩ := V4 hrow;obtain ⟨w2, hrun, ho2, hg2⟩ := Zrg w' w.heap.size (ws.length + m) b0 pre us x u4 24 hrow hh0 (by obtain ⟨a4, c4, rfl⟩ := Yc ho4; rfl) (by omega);refine Ql (v := _) (w' := w2) ?_ (.inr hg2) ⟨fun h => by simp [upd] at h, Ya B.2.1 hg2 (fun k hk => by cases hk; omega), ?_, fun h => by simp [upd] at h, fun i hi => (B.2.2.2.2 i hi).imp fun _ hu => ⟨hu.1, Zp8 hg2 hcur (by decide) hu.2⟩⟩ ⟨rfl, u4, ho2, Zdf (.inr hg2) (by omega) ho4⟩
     ·exact Q1 (.tmp 19) (.tmp 26) 24 rfl _ _ e19 h26 hrun
     ·exact (hg2.block _ (Za B.2.2.1) (by intro e; simp only [Option.some.injEq] at e; omega)).trans B.2.2.1
    ·refine Zd rfl fun a B _ _ _ _ C A => ?_;have e : (Zro w.heap.size (ws.length + m) pre us x) (a (.tmp 27)) B := Ze A 8 rfl;exact Xc rfl C e
   ·intro vs w' dn hdn hg ht;obtain ⟨(r19 : vs 0 = _), (r20 : vs 1 = _), (r21 : vs 2 = _), (r22 : vs 3 = _), (r23 : vs 4 = _), q24, q25, q26, q27, q5, -⟩ := ht;replace q24 : ((fun v w' => w'.ownsRow (w.heap.size + 1) 5 1 v x.2.length (x.2.map bv))) (vs 5) w' := q24;replace q25 : (WrP w.heap.size x) (vs 6) w' := q25;replace q26 : (Zrm w.heap.size x) (vs 7) w' := q26;replace q27 : (Zro w.heap.size (ws.length + m) pre us x) (vs 8) w' := q27;replace q5 : (Zro w.heap.size (ws.length + m) pre us x) (vs 9) w' := q5;simp only [Yi, Act.put, List.setIfInBounds_toArray, List.set_cons_zero, List.set_cons_succ, Nat.reduceAdd, r19, r20, r21, r22, r23];clear r19 r20 r21 r22 r23;obtain ⟨h5, u5, ho5, hu5⟩ := q5;have hL2 := Zbk.snoc hL1.len ho5 hg.2.2.2.2 (Yk hu5 (by omega));rw [h5] at hL2 ⊢;rw [← HT.out] at hL2;have gw2 := hg.2.1;clear q24 q25 q26 q27 h5 ho5 hu5 hg hdn hL1;generalize vs 5 = u5;generalize vs 6 = u6;generalize vs 7 = u7;generalize vs 8 = u8;go_wp2;go_roundw
    case rel => exact ⟨pre.length + 1, by omega, rfl, by go_num, gw2, _, hL2⟩
    case measure => simp [intOf]; omega
  ·have hk' : k = ws.length := by omega
   subst hk';rw [List.take_length] at hL;go_wp2_with fail;go_ret;exact ⟨_, rfl, ⟨us, hL⟩, hg⟩
end Go.Proofs.YtpdnapbchcdhlacGreat
namespace Go.Proofs.YtpdnapbchcdhlacGreat
set_option maxRecDepth 100000
open Go.RowKit
open Plain Reg
variable {B B' : Nat} {bs : List (List UInt8)} {d : Dk} {v : Value} {w w' : World}
def Va (B : Nat) (d : Dk) (v : Value) (w : World) : Prop := ∃ vb vl, v = .agg #[vb, vl] ∧ Jn B vb d.blocks w ∧ Q4 B vl d.late w
theorem Va.grow (h : Va B d v w) (hg : Zn w w') : Va B d v w' := by
 obtain ⟨vb, vl, h1, h2, h3⟩ := h; exact ⟨vb, vl, h1, h2.grow hg, h3.grow hg⟩
theorem Va.mono (h : Va B d v w) (hb : B' ≤ B) : Va B' d v w := by
 obtain ⟨vb, vl, h1, h2, h3⟩ := h; exact ⟨vb, vl, h1, h2.mono hb, h3.mono hb⟩
theorem Va.box (h : Va B d v w) (hs : Yw 26 w w') : Va B d v w' := by
 obtain ⟨vb, vl, h1, h2, h3⟩ := h; exact ⟨vb, vl, h1, h2.box hs, h3.box hs⟩
theorem Zr1 (B : Nat) (d : Dk) : Xv (Va B d) := fun _ _ _ hg h => h.grow hg
def Zuv (us : List Value) (C : Nat) : Prop := ∀ (i : Nat) (u : Value) (p : Nat), us[i]? = some u → u.ownBlock = some p → p < C
def Kf (B : Nat) (d : Dk) (v : Value) (w : World) : Prop := ∃ vb vl us C, v = .agg #[vb, vl] ∧ Vl B vb d.blocks us w ∧ Zij us ∧ Zuv us C ∧ B ≤ C ∧ Q4 C vl d.late w
theorem Kf.grow (h : Kf B d v w) (hg : Zn w w') : Kf B d v w' := by
 obtain ⟨vb, vl, us, C, h1, h2, h3, h4, h5, h6⟩ := h; exact ⟨vb, vl, us, C, h1, h2.grow hg, h3, h4, h5, h6.grow hg⟩
theorem Kf.mono (h : Kf B d v w) (hb : B' ≤ B) : Kf B' d v w := by
 obtain ⟨vb, vl, us, C, h1, h2, h3, h4, h5, h6⟩ := h; exact ⟨vb, vl, us, C, h1, h2.mono hb, h3, h4, by omega, h6⟩
theorem Kf.q (h : Kf B d v w) : Va B d v w := by
 obtain ⟨vb, vl, us, C, h1, h2, h3, h4, h5, h6⟩ := h; exact ⟨vb, vl, h1, ⟨us, h2⟩, h6.mono h5⟩
theorem Kf.box (h : Kf B d v w) (hs : Yw 26 w w') : Kf B d v w' := by
 obtain ⟨vb, vl, us, C, h1, h2, h3, h4, h5, h6⟩ := h; exact ⟨vb, vl, us, C, h1, h2.box hs, h3, h4, h5, h6.box hs⟩
theorem Zr2 (B : Nat) (d : Dk) : Xv (Kf B d) := fun _ _ _ hg h => h.grow hg
def LtQ (B : Nat) (d : Dk) (v v5 : Value) (w : World) : Prop := ∃ us C, Vl B v5 d.blocks us w ∧ Zij us ∧ Zuv us C ∧ B ≤ C ∧ Q4 C v d.late w
theorem Zw7 (B : Nat) (d : Dk) (i : Nat) : V1 (pl1 i (LtQ B d)) := by
 rintro v ds w w' hg ⟨us, C, h2, h3, h4, h5, h6⟩;exact ⟨us, C, h2.grow hg, h3, h4, h5, h6.grow hg⟩
theorem Zxa {v5 : Value} (hs : Yw 26 w w') (h : LtQ B d v v5 w) : LtQ B d v v5 w' := by
 obtain ⟨us, C, h2, h3, h4, h5, h6⟩ := h; exact ⟨us, C, h2.box hs, h3, h4, h5, h6.box hs⟩
theorem Zrj {us : List Value} (h : Vl B v bs us w) : Zuv us w.heap.size := by
 intro i u p h1 h2;have hi : i < bs.length := by
  rcases Nat.lt_or_ge i us.length with h' | h'
  ·rw [← h.len]; exact h'
  ·rw [List.getElem?_eq_none h'] at h1; cases h1
 obtain ⟨x, h3, h4⟩ := h.each i hi;rw [h1] at h3; cases h3;exact (h4.lt p h2).2
def Zoc (B : Nat) (bs : List (List UInt8)) (v : Value) (w : World) : Prop := ∃ us, Vl B v bs us w ∧ Zij us
theorem Zu5 (B : Nat) (bs : List (List UInt8)) : Xv (Zoc B bs) := fun _ _ _ hg h => h.imp fun _ x => ⟨x.1.grow hg, x.2⟩
theorem Zva (hs : Yw 26 w w') (h : Zoc B bs v w) : Zoc B bs v w' := h.imp fun _ x => ⟨x.1.box hs, x.2⟩
def Zur (B g : Nat) (d : Dk) (v : Value) (w : World) : Prop := ∃ vb vl, w.heap[g]? = some (.cells #[vb, vl] 26 (0, 0)) ∧ v = .agg #[vb, vl] ∧ Kf B d v w
theorem Zr0 (B g : Nat) (d : Dk) (i : Nat) : V1 (pl1 i (fun _ v w => Zur B g d v w)) := by
 rintro v ds w w' hg ⟨vb, vl, h2, h1, h3⟩;exact ⟨vb, vl, (hg.block _ (Za h2)).trans h2, h1, h3.grow hg⟩
def Zrl (w : World) (c : Array Value) (dn : Nat → Bool) (w' : World) : Prop :=
 Zn w w' ∧ w'.heap[w.heap.size]? = some (.cells c 26 (0, 0)) ∧ w.heap.size + 1 < w'.heap.size ∧ (dn 7 = false → w'.heap[w.heap.size + 1]? = some (.cells #[.slice none 0 0, .slice none 0 0] 26 (0, 0)))
theorem Zrl.grow {c : Array Value} {dn : Nat → Bool} {w'' : World} (h : Zrl w c dn w') (hg : Zn w' w'') : Zrl w c dn w'' :=
 ⟨h.1.trans hg, (hg.block _ (Za h.2.1)).trans h.2.1, Nat.lt_of_lt_of_le h.2.2.1 hg.size, fun hd => (hg.block _ (Za (h.2.2.2 hd))).trans (h.2.2.2 hd)⟩
theorem Ku (d : Dk) (vb vl : Value) (w : World) (hb : X1 w vb d.blocks) (hl : Vv w vl d.late) (hlen : d.blocks.length ≤ 256) (hm : d.late.length ≤ 1000) (hb16 : ∀ x ∈ d.blocks, x.length ≤ 1000) (hl16 : ∀ x ∈ d.late, x.2.length ≤ 1000) :
  Calls Tryz.prog 69 #[.agg #[vb, vl]] w fun e w' => ∃ v, e = .returned v ∧ Kf w.heap.size d v w' ∧ Zn w w' := by
 obtain ⟨ab, cb, rfl⟩ := hb.form;obtain ⟨al, cl, rfl⟩ := hl.form;have gW := Zp w (.cells #[.slice ab d.blocks.length cb, .slice al d.late.length cl] 26) (.cells #[.slice none 0 0, .slice none 0 0] 26);have hx := hx1 w #[.slice ab d.blocks.length cb, .slice al d.late.length cl] #[.slice none 0 0, .slice none 0 0];have hy := hy1 w #[.slice ab d.blocks.length cb, .slice al d.late.length cl] #[.slice none 0 0, .slice none 0 0];go_enter Tryz.func69, Tryz.ntmps69;go_wp2_with fail;refine Yx [px (.pointer (some ⟨w.heap.size, 0, none⟩)), px (.slice ab d.blocks.length cb), pl (Zoc (w.heap.size + 1 + 1) d.blocks), px (.pointer (some ⟨w.heap.size, 1, none⟩)), px (.slice al d.late.length cl), pl1 2 (LtQ (w.heap.size + 1 + 1) d), pl (Kf (w.heap.size + 1 + 1) d), pl1 6 ((fun _ v w' => Zur (w.heap.size + 1 + 1) (w.heap.size + 1) d v w'))] [none, none, none, none, none, none, none, some ((Yw 26))] (Zrl w #[.slice ab d.blocks.length cb, .slice al d.late.length cl]) (by kernel_rfl) (by kernel_rfl) ⟨se, se, Yj (Zu5 _ _), se, se, Zw7 _ _ _, Yj (Zr2 _ _), Zr0 _ _ _ _, trivial⟩ ⟨⟨(fun w => .inl rfl), ⟨x5, x5, .inr ((fun v _ w w' hs hq => Zva hs hq)), x5, x5, .inr ((fun v _ w w' hs hq => Zxa hs hq)), .inr ((fun v _ w w' hs hq => Kf.box hq hs)), .inl (by kernel_rfl), trivial⟩⟩, trivial⟩ ⟨n5, n5, n5, n5, n5, n5, n5, fun _ _ _ _ h => h, trivial⟩ ⟨gW.drew, hx, Za hy, fun _ => hy⟩ ?_ ?_
 ·refine ⟨?_, ?_, ?_, ?_, ?_, ?_, ?_, ?_, trivial⟩
  ·refine Zd rfl fun a _ _ _ _ _ B A => ?_;have e1 : a (.tmp 1) = .pointer (some ⟨w.heap.size, 0, none⟩) := Zl A 1 rfl;refine Zh ?_ B rfl;clear A B;go_simp;all_goals go_arith
  ·refine Zd rfl fun a _ _ _ _ C B A => ?_;have e3 : a (.tmp 3) = _ := Ze A 0 rfl;have z0 := Zc B.2.1 0 _ rfl;refine Zh ?_ B rfl;clear A B C;go_simp;all_goals go_arith
  ·refine Zd rfl fun a B _ _ _ D C A => ?_;have e4 : a (.tmp 4) = _ := Ze A 1 rfl;refine Yf (f := 71) (args := #[.slice ab d.blocks.length cb]) ?_ ((Km d.blocks _ B (hb.grow C.1) hlen hb16).mono ?_)
   ·clear A C D;go_simp;all_goals go_arith
   ·rintro e w2 ⟨v', us, rfl, ho, ha, g2⟩;exact ⟨_, rfl, g2, Zrl.grow C g2, us, ho.mono (by have := C.2.2.1; omega), ha⟩
  ·refine Zd rfl fun a _ _ _ _ _ B A => ?_;have e1 : a (.tmp 1) = .pointer (some ⟨w.heap.size, 0, none⟩) := Zl A 1 rfl;refine Zh ?_ B rfl;clear A B;go_simp;all_goals go_arith
  ·refine Zd rfl fun a _ _ _ _ C B A => ?_;have e6 : a (.tmp 6) = _ := Ze A 3 rfl;have z1 := Zc B.2.1 1 _ rfl;refine Zh ?_ B rfl;clear A B C;go_simp;all_goals go_arith
  ·refine Zd rfl fun a B _ _ _ D C A => ?_;have e7 : a (.tmp 7) = _ := Ze A 4 rfl;have e5 : (Zoc (w.heap.size + 1 + 1) d.blocks) (a (.tmp 5)) B := Ze A 2 rfl;refine Yf (f := 103) (args := #[.slice al d.late.length cl, .int .i64 0]) ?_ ((Zcm d.late 0 0 rfl _ B (hl.grow C.1) hm (by omega) hl16).mono ?_)
   ·clear A C D;go_simp;all_goals go_arith
   ·rintro e w2 ⟨v', rfl, ho, g2⟩;obtain ⟨us, hu, ha⟩ := e5;exact ⟨_, rfl, g2, Zrl.grow C g2, us, B.heap.size, hu.grow g2, ha, Zrj hu, by have := C.2.2.1; omega, ho⟩
  ·refine Zd rfl fun a B _ _ _ E D A => ?_;have e5 : (Zoc (w.heap.size + 1 + 1) d.blocks) (a (.tmp 5)) B := Ze A 2 rfl;have e8 : (LtQ (w.heap.size + 1 + 1) d) (a (.tmp 8)) (a (.tmp 5)) B := Ze A 5 rfl;obtain ⟨us, C, ho, ha, hh, hC, hlt⟩ := e8;obtain ⟨a5, c5, h5⟩ := ho.p.form;obtain ⟨a8, c8, h8⟩ := hlt.form;refine Zh (v := .agg #[.slice a5 d.blocks.length c5, .slice a8 d.late.length c8]) ?_ D ⟨_, _, us, C, rfl, by rw [← h5]; exact ho, ha, hh, hC, by rw [← h8]; exact hlt⟩;clear A D E ho hlt e5;go_simp;all_goals go_arith
  ·refine Zd rfl fun a w' _ _ _ C B A => ?_;have e2 : a (.tmp 2) = .pointer (some ⟨w.heap.size + 1, 0, none⟩) := Zl A 2 rfl;have e9 : (Kf (w.heap.size + 1 + 1) d) (a (.tmp 9)) w' := Ze A 6 rfl;have hA9 := e9;obtain ⟨vb9, vl9, h9, ho, hlt⟩ := e9.q;obtain ⟨a5, c5, rfl⟩ := ho.form;obtain ⟨a8, c8, rfl⟩ := hlt.form;have hh := B.2.2.2 C.un;obtain ⟨hp1, hp2⟩ := Xs hh (.slice a5 d.blocks.length c5) (.slice a8 d.late.length c8);have hstep : Yw 26 w' _ := .inr ⟨_, _, _, hp2, hh, hp1, rfl⟩;obtain ⟨y0, y1⟩ := Y9 hh rfl rfl;have f0 := Zi hh 0;have f1 := Zi hh 1;have cs := Zr;refine Yg (w' := _) ?_ hstep ⟨hp2.grow B.1 (by omega), (hp2.block _ (Za B.2.1) (by omega)).trans B.2.1, Nat.lt_of_lt_of_le B.2.2.1 hp2.size, fun h => by simp [upd] at h⟩ ⟨_, _, hp1, h9, hA9.box hstep⟩;clear A B C hp1 hp2 hlt hh ho hstep hA9 e9;go_simp;all_goals go_arith
 ·intro vs w' dn hdn hg ht;obtain ⟨q3, q4, q5, q6, q7, q8, q9, qo7, -⟩ := ht;have r3 : vs 0 = _ := q3;have r4 : vs 1 = _ := q4;replace q5 : (Zoc (w.heap.size + 1 + 1) d.blocks) (vs 2) w' := q5;have r6 : vs 3 = _ := q6;have r7 : vs 4 = _ := q7;replace q8 : (LtQ (w.heap.size + 1 + 1) d) (vs 5) (vs 2) w' := q8;replace q9 : (Kf (w.heap.size + 1 + 1) d) (vs 6) w' := q9;replace qo7 : ((fun _ v w' => Zur (w.heap.size + 1 + 1) (w.heap.size + 1) d v w')) (vs 7) (vs 6) w' := qo7;clear q3 q4 q6 q7;simp only [Yi, Act.put, List.setIfInBounds_toArray, List.set_cons_zero, List.set_cons_succ, Nat.reduceAdd, r3, r4, r6, r7];clear r3 r4 r6 r7;obtain ⟨vb9, vl9, hh, h9, hA⟩ := qo7;rw [h9] at hA;obtain ⟨a5, c5, rfl⟩ : ∃ a c, vb9 = .slice a d.blocks.length c := by
   obtain ⟨x, y, e, h1, _⟩ := hA.q; cases e; exact h1.form
  obtain ⟨a8, c8, rfl⟩ : ∃ a c, vl9 = .slice a d.late.length c := by
   obtain ⟨x, y, e, _, h1⟩ := hA.q; cases e; exact h1.form
  obtain ⟨y0, y1⟩ := Y9 hh rfl rfl;have gE := hg.1;clear q5 q8 q9 hdn hg hh hx hy gW;go_wp2_with fail;exact bodyPost_ret (v := .agg #[.slice a5 d.blocks.length c5, .slice a8 d.late.length c8]) (by simp [results, Tryz.results69, go_sem, y0, y1]) rfl ⟨_, rfl, hA.mono (by omega), gE⟩
end Go.Proofs.YtpdnapbchcdhlacGreat
namespace Go.Proofs.YtpdnapbchcdhlacGreat
set_option maxRecDepth 100000
open Go.RowKit
open Plain Reg
def Kx (n : Nat) (a : Int) : Bool := decide (0 ≤ a ∧ a < (n : Int))
theorem Zdj (n : Nat) (a : Int) (ab al : Option Addr) (cb nl cl : Nat) (w : World) :
  Calls Tryz.prog 109 #[.agg #[.slice ab n cb, .slice al nl cl], .int .i64 a] w fun e w' => e = .returned (.bool (Kx n a)) ∧ Zn w w' := by
 by_cases h0 : 0 ≤ a
 ·by_cases h1 : a < (n : Int)
  ·have HB : Hid (Kx n a = true) := by show Kx n a = true; unfold Kx; simp [h0, h1]
   rw [HB.out];go_enter Tryz.func109, Tryz.ntmps109;go_wp2_with fail;go_ret;exact ⟨rfl, Zb _ _⟩
  ·have HB : Hid (Kx n a = false) := by show Kx n a = false; unfold Kx; simp; omega
   rw [HB.out];go_enter Tryz.func109, Tryz.ntmps109;go_wp2_with fail;go_ret;exact ⟨rfl, Zb _ _⟩
 ·have HB : Hid (Kx n a = false) := by show Kx n a = false; unfold Kx; simp; omega
  rw [HB.out];have h2 : a < 0 := by omega
  clear h0;go_enter Tryz.func109, Tryz.ntmps109;go_wp2_with fail;go_ret;exact ⟨rfl, Zb _ _⟩
theorem Zwa (d : Dk) (a : Int) (vb vl : Value) (w : World) (hb : X1 w vb d.blocks) (hl : Vv w vl d.late) (hm2 : d.late.length ≤ 999990) (hb16 : ∀ x ∈ d.blocks, x.length ≤ 1000) (hl16 : ∀ x ∈ d.late, x.2.length ≤ 1000) :
  Calls Tryz.prog 115 #[.agg #[vb, vl], .int .i64 a] w fun e w' => ∃ v, e = .returned (.tuple #[v, .int .i64 (d.getE a)]) ∧ w'.ownsRow w.heap.size 5 1 v ((d.get a).getD []).length (((d.get a).getD []).map bv) ∧ Zn w w' := by
 obtain ⟨ab, cb, rfl⟩ := hb.form;obtain ⟨al, cl, rfl⟩ := hl.form;have gW := Zb w (.cells #[.slice ab d.blocks.length cb, .slice al d.late.length cl] 26);have hx := Zg w #[.slice ab d.blocks.length cb, .slice al d.late.length cl] 26;by_cases hout : a < 0 ∨ (d.blocks.length : Int) ≤ a
 ·have HE : Hid (d.getE a = 3) := by show d.getE a = 3; unfold Dk.getE; rw [if_pos hout]
  have HG : Hid (d.get a = none) := by show d.get a = none; unfold Dk.get; rw [if_pos hout]
  have HH : Hid (Kx d.blocks.length a = false) := by show Kx _ a = false; unfold Kx; simp; omega
  rw [HE.out, HG.out];clear hout;go_enter Tryz.func115, Tryz.ntmps115;go_wp2_with fail;refine (Zdj d.blocks.length a _ _ _ _ _ _).mono ?_;rw [HH.out];rintro e w1 ⟨rfl, g1⟩;go_wp2_with fail
  go_ret2
  exact ⟨_, rfl, World.ownsRow_nil _ _ _ _, gW.trans g1⟩
 ·have HE : Hid (d.getE a = 0) := by show d.getE a = 0; unfold Dk.getE; rw [if_neg hout]
  have HG : Hid (d.get a = some ((Qw d.late a).getD (d.blocks.getD a.toNat []))) := by show d.get a = _; unfold Dk.get; rw [if_neg hout]
  have HH : Hid (Kx d.blocks.length a = true) := by show Kx _ a = true; unfold Kx; simp; omega
  rw [HE.out, HG.out, Option.getD_some];obtain ⟨p, rfl⟩ := Int.eq_ofNat_of_zero_le (by omega : 0 ≤ a);have hp : p < d.blocks.length := by omega
  clear hout;rw [Int.toNat_natCast];obtain ⟨R, hR⟩ : ∃ R, R = (Qw d.late (p : Int)).getD (d.blocks.getD p []) := ⟨_, rfl⟩;rw [← hR];have HR : Hid _ := hR;clear hR;have hsz := World.size_alloc w (.cells #[.slice ab d.blocks.length cb, .slice al d.late.length cl] 26);go_enter Tryz.func115, Tryz.ntmps115;go_wp2_with fail;refine (Zdj d.blocks.length (p : Int) _ _ _ _ _ _).mono ?_;rw [HH.out];rintro e W ⟨rfl, g1⟩;have gW1 := gW.trans g1;have hx1 := (g1.block _ (Za hx)).trans hx;have hbW := hb.grow gW1;have hlW := hl.grow gW1;clear hb hl hx gW g1 hsz;obtain ⟨x0, x1⟩ := Y9 hx1 rfl rfl;go_wp2_with fail
  go_loop [6] (fun i => ∃ k : Nat, k ≤ d.late.length ∧ i = .int .i64 ((k : Int) - 1) ∧ Qw d.late p = Qw (d.late.take k) p) (fun i => (intOf i + 1).toNat)
  case atStart => exact ⟨d.late.length, Nat.le_refl _, rfl, by rw [List.take_length]⟩
  case round =>
   obtain ⟨k, hk, rfl, hla⟩ := hrel;have HLA : Hid (Qw d.late p = Qw (d.late.take k) p) := hla;clear hla
   match k, hk, HLA with
   | 0, hk, HLA =>
    have HB : Hid (Qw d.late p = none) := HLA;obtain ⟨b, off, rfl, u, hu, hub⟩ := hbW.at p hp;have hle := hb16 _ (List.getElem_mem hp);have hRe : R = d.blocks[p] := by rw [HR.out, HB.out, Option.getD_none]; exact Qp _ _ _ hp
    rw [← hRe] at hub hle;obtain ⟨au, cu, rfl, -, -⟩ := Yn hub;clear HLA hRe;go_wp2_with fail;refine (V9 R _ _ (by omega) hub).mono ?_;rintro e w2 ⟨v2, rfl, ho, g2⟩;obtain ⟨a2, c2, rfl⟩ := Yc ho;go_wp2_with fail
    go_ret2
    exact ⟨_, rfl, Yk ho gW1.size, gW1.trans g2⟩
   | k + 1, hk, HLA =>
    have hkl : k < d.late.length := by omega
    obtain ⟨b, off, rfl, hc0, u, hu, hub⟩ := hlW.at k hkl;have hle := hl16 _ (List.getElem_mem hkl);have hst := Zcz d.late p k hkl;by_cases he : d.late[k].1 = (p : Int)
    ·rw [he] at hc0;rw [if_pos he] at hst;have hRe : R = d.late[k].2 := by rw [HR.out, HLA.out.trans hst, Option.getD_some]
     rw [← hRe] at hub hle;clear HLA hst he hRe;obtain ⟨au, cu, rfl, -, -⟩ := Yn hub;have e1 : ((k + 1 : Nat) : Int) - 1 = (k : Int) := by omega
     rw [e1];clear e1;go_wp2_with fail;refine (V9 R _ _ (by omega) hub).mono ?_;rintro e w2 ⟨v2, rfl, ho, g2⟩;obtain ⟨a2, c2, rfl⟩ := Yc ho;go_wp2_with fail
     go_ret2
     exact ⟨_, rfl, Yk ho gW1.size, gW1.trans g2⟩
    ·rw [if_neg he] at hst;have HV : Hid (Qw d.late p = Qw (d.late.take k) p) := HLA.out.trans hst;have d2 : (d.late[k].1 == (p : Int)) = false := Vg he;clear HLA hst he hub hle;generalize d.late[k].1 = q at *;have e1 : ((k + 1 : Nat) : Int) - 1 = (k : Int) := by omega
     rw [e1];clear e1;go_wp2_with fail
     go_round
     case rel => exact ⟨k, by omega, by go_num, HV.out⟩
     case measure => simp [intOf]
end Go.Proofs.YtpdnapbchcdhlacGreat
namespace Go.Proofs.YtpdnapbchcdhlacGreat
set_option maxRecDepth 100000
open Go.RowKit
open Plain Reg
variable {B n : Nat} {e : TypeId} {o : Obj} {us : List Value} {v : Value} {w w3 : World}
theorem Zb9 {base m size sz : Nat} {T : TypeId} {u : Value} {xs ys : List Value} (hrow : w.ownsRow B T size v n xs) (hg : (w.alloc o).grownBy w3 v.ownBlock) (hT : e ≠ T) (h : w.ownsRow base e sz u m ys) : w3.ownsRow base e sz u m ys := by
 refine ⟨h.1, Xq h.2 (fun x => x) fun ⟨q, cap, cur, h1, h2, h3, r⟩ => ⟨q, cap, cur, h1, h2, ?_, r⟩⟩;have hq := Za h3;rw [hg.block q (by simp; omega) ?_, (Zb w o).block q hq]
 ·exact h3
 ·rcases hrow.2 with ⟨rfl, _⟩ | ⟨g, cap', cur', rfl, _, hh, _⟩
  ·simp [Value.ownBlock]
  ·intro e1;simp [Value.ownBlock] at e1;subst e1;rw [h3] at hh; cases hh; exact hT rfl
theorem J1 {size : Nat} (hle : B ≤ w.heap.size) (hown : w.ownsRow B e size v n us) (hg : (w.alloc o).grownBy w3 v.ownBlock) : Below B w w3 :=
 Below.grown (Below.alloc (Below.refl _ _) hle o) hg (by simp; omega) (fun k hk => (hown.lt k hk).1)
theorem Znt {ws : List Wr} (h : Zbk B v ws us w) (hg : (w.alloc o).grownBy w3 v.ownBlock) : ∀ i (hi : i < ws.length), ∃ u, us[i]? = some u ∧ w3.ownsRow B 5 1 u ws[i].2.length (ws[i].2.map bv) :=
 fun i hi => (h.each i hi).imp fun _ hu => ⟨hu.1, Zb9 h.row hg (by decide) hu.2⟩
theorem Zvq (d : Dk) (a : Int) (l : List UInt8) (vb vl v : Value) (w : World) (hb : X1 w vb d.blocks) (hl : Vv w vl d.late) (hv : Bytes w v l) (hlen : d.blocks.length ≤ 256) (hm : d.late.length ≤ 1000) (hb16 : ∀ x ∈ d.blocks, x.length ≤ 1000) (hl16 : ∀ x ∈ d.late, x.2.length ≤ 1000) (h0 : 0 ≤ a) (h1 : a < (d.blocks.length : Int)) (h16 : l.length = 16) :
  Calls Tryz.prog 106 #[.agg #[vb, vl], .int .i64 a, v] w fun e w' => ∃ v', e = .returned (.tuple #[v', .int .i64 0]) ∧ Va w.heap.size (d.put a l) v' w' ∧ Zn w w' := by
 obtain ⟨ab, cb, rfl⟩ := hb.form;obtain ⟨al, cl, rfl⟩ := hl.form;obtain ⟨av, cv, rfl, -, -⟩ := Yn hv;have gW := Zp w (.cells #[.slice ab d.blocks.length cb, .slice al d.late.length cl] 26) (.cells #[.slice none 0 0, .slice none 0 0] 26);have hx := hx1 w #[.slice ab d.blocks.length cb, .slice al d.late.length cl] #[.slice none 0 0, .slice none 0 0];have hy := hy1 w #[.slice ab d.blocks.length cb, .slice al d.late.length cl] #[.slice none 0 0, .slice none 0 0];obtain ⟨i0, hif, hz0, hz1, hz2⟩ := info_parts Za7;have HH : Hid (Kx d.blocks.length a = true) := by show Kx _ a = true; unfold Kx; simp; omega
 have d0 : ((l.length : Int) != 16) = false := by simp [h16]
 have hl9 : l.length ≤ 140737488355328 := by omega
 clear h16 h0 h1;go_enter Tryz.func106, Tryz.ntmps106;go_wp2_with fail;refine (Zdj d.blocks.length a _ _ _ _ _ _).mono ?_;rw [HH.out];rintro e w1 ⟨rfl, g1⟩;have gW1 := gW.trans g1;have hxw1 := (g1.block _ (Za hx)).trans hx;have hyw1 := (g1.block _ (Za hy)).trans hy;obtain ⟨x0, x1⟩ := Y9 hxw1 rfl rfl;have hzs := Za hyw1;clear hx hy g1 gW;go_wp2_with fail;clear x0 x1;refine (Zcm d.late 1 1 rfl _ _ (hl.grow gW1) hm (by omega) hl16).mono ?_;rintro e w2 ⟨v2, rfl, ⟨us, hL⟩, g2⟩;obtain ⟨a8, c8, rfl⟩ := hL.p.form;go_wp2_with fail;refine (V9 l _ _ hl9 (Z1 hv (gW1.trans g2))).mono ?_;rintro e w3 ⟨v3, rfl, ho3, g3⟩;obtain ⟨a3, c3, rfl⟩ := Yc ho3;have hL3 := (hL.grow g3).mono (B' := w.heap.size + 1 + 1) (by omega);have ho3' := Yk ho3 (base' := w.heap.size + 1 + 1) (by have := g2.size; omega);have gw3 := gW1.trans (g2.trans g3);have hxw3 := ((g2.trans g3).block _ (Za hxw1)).trans hxw1;have hyw3 := ((g2.trans g3).block _ (Za hyw1)).trans hyw1;have hz3 : w.heap.size + 1 < w3.heap.size := Za hyw3;clear hL ho3 g2 g3 hxw1 hyw1 gW1;go_wp2_with (first
  | (at_builtin; refine wpList_append_own _ rfl (.tmp 24) (.tmp 29) 24 rfl (w.heap.size + 1 + 1) 107 i0 (.agg #[.int .i64 0, .slice none 0 0]) 2 32 Tryz.underlying24 hif hz0 hz1 hz2 rfl (by decide) (.slice a8 d.late.length c8) d.late.length (Vn d.late us) rfl (hL3.row.alloc _) ⟨w3.heap.size, 0, none⟩ 1 1 [.int .i64 a, .slice a3 l.length c3] rfl rfl (fun j u hj => Zaj w3 _ _ _ j u hj) (by intro u hu; simp at hu; rcases hu with rfl | rfl <;> rfl) (by unfold maxLen; omega) (by omega) (by simp; omega) ?_; intro v4 w4 hown4 hgrow4 _; have hsl := Y4 hown4; obtain ⟨a4, c4, hv4⟩ := hsl; subst hv4; have g34 : Zn w w4 := Ya (gw3.trans (Zb _ _)) hgrow4 (fun k hk => by have := (hL3.row.lt k hk).1; omega); have hB4 := J1 (by omega) hL3.row hgrow4; have hxw4 := (hB4.block _ (by omega)).trans hxw3; have hyw4 := (hB4.block _ (by omega)).trans hyw3; have x0 := Zc hxw4 0 _ rfl; have hO4 := Zb9 hL3.row hgrow4 (e := 5) (by decide) ho3'; have hE4 := Znt hL3 hgrow4))
 have hS := Zbk.snoc (x := (a, l)) hL3.len hown4 hE4 hO4;clear hL3 hown4 hE4 hO4 ho3' hB4 hgrow4 hxw3 hyw3 x0;refine (Km d.blocks _ _ (hb.grow g34) hlen hb16).mono ?_;rintro e w5 ⟨v5, us5, rfl, ho5, -, g5⟩;obtain ⟨a5, c5, rfl⟩ := ho5.p.form;have hyw5 := (g5.block _ (Za hyw4)).trans hyw4;have gw5 := g34.trans g5;obtain ⟨hp1, hp2⟩ := Xs hyw5 (.slice a5 d.blocks.length c5) (.slice a4 (d.late.length + 1) c4);have hstep : Yw 26 w5 _ := .inr ⟨_, _, _, hp2, hyw5, hp1, rfl⟩;have gE := hp2.grow gw5 (by omega);obtain ⟨y0, y1⟩ := Y9 hyw5 rfl rfl;have f0 := Zi hyw5 0;have f1 := Zi hyw5 1;have cs := Zr;have hE : Jn w.heap.size (.slice a5 d.blocks.length c5) d.blocks _ := ⟨us5, (ho5.box hstep).mono g34.size⟩;have hF : Q4 w.heap.size (.slice a4 (d.late.length + 1) c4) (d.late ++ [(a, l)]) _ := ⟨_, ((hS.grow g5).box hstep).mono (by omega)⟩;clear hp1 hp2 hstep ho5 hS gw5 g5 g34 hyw5 hyw4 hxw4 hb hl hv;go_wp2_with fail;exact bodyPost_ret (v := .tuple #[.agg #[.slice a5 d.blocks.length c5, .slice a4 (d.late.length + 1) c4], .int .i64 0]) (by simp [results, Tryz.results106, go_sem, y0, y1, cs]) rfl ⟨_, rfl, ⟨_, _, rfl, hE, hF⟩, gE⟩
end Go.Proofs.YtpdnapbchcdhlacGreat
namespace Go.Proofs.YtpdnapbchcdhlacGreat
set_option maxRecDepth 100000
open Go.RowKit
open Plain Reg
variable {d : Dk} {v : Value} {w : World}
def Vb (d : Dk) (v : Value) (w : World) : Prop := ∃ vb vl, v = .agg #[vb, vl] ∧ X1 w vb d.blocks ∧ Vv w vl d.late
theorem Zfk (d : Dk) : Xv (Vb d) := by
 rintro v w w' hg ⟨vb, vl, h1, h2, h3⟩; exact ⟨vb, vl, h1, h2.grow hg, h3.grow hg⟩
theorem Va.p {B : Nat} (h : Va B d v w) : Vb d v w := by
 obtain ⟨vb, vl, h1, h2, h3⟩ := h; exact ⟨vb, vl, h1, h2.p, h3.p⟩
theorem Vb.form (h : Vb d v w) : ∃ ab cb al cl, v = .agg #[.slice ab d.blocks.length cb, .slice al d.late.length cl] ∧ X1 w (.slice ab d.blocks.length cb) d.blocks ∧ Vv w (.slice al d.late.length cl) d.late := by
 obtain ⟨vb, vl, h1, h2, h3⟩ := h;obtain ⟨ab, cb, rfl⟩ := h2.form;obtain ⟨al, cl, rfl⟩ := h3.form;exact ⟨ab, cb, al, cl, h1, h2, h3⟩
theorem Dk.spoil_len (d : Dk) (a n y : Int) : (d.spoil a n y).blocks.length = d.blocks.length ∧ (d.spoil a n y).late = d.late := by
 unfold Dk.spoil;split
 ·exact ⟨by simp, rfl⟩
 ·exact ⟨rfl, rfl⟩
end Go.Proofs.YtpdnapbchcdhlacGreat
namespace Go.Proofs.YtpdnapbchcdhlacGreat
set_option maxRecDepth 100000
open Go.RowKit
open Plain Reg
variable {B base cap g k m n : Nat} {bs : List (List UInt8)} {c : Array Value} {d : Dk} {e : TypeId} {l : List UInt8} {us xs : List Value} {v v' : Value} {w w' wr : World}
def Zlu (w : World) (q B n cap : Nat) (us : List Value) (c1 c2 : Array Value) (dn : Nat → Bool) (w' : World) : Prop :=
 Zo q w w' ∧ w'.heap[w.heap.size]? = some (.cells c1 26 (0, 0)) ∧ w'.heap[w.heap.size + 1]? = some (.cells c2 107 (0, 0)) ∧ (dn 8 = false → Zn w w' ∧ w'.ownsRow B 45 1 (.slice (some ⟨q, 0, none⟩) n cap) n us)
theorem Zlu.grow {q : Nat} {c1 c2 : Array Value} {dn : Nat → Bool} {w'' : World} (h : Zlu w q B n cap us c1 c2 dn w') (hg : Zn w' w'') : Zlu w q B n cap us c1 c2 dn w'' :=
 ⟨h.1.trans (Zo.of hg), (hg.block _ (Za h.2.1)).trans h.2.1, (hg.block _ (Za h.2.2.1)).trans h.2.2.1, fun hd => ⟨(h.2.2.2 hd).1.trans hg, Yb (h.2.2.2 hd).2 hg⟩⟩
def Zds (q B n cap m base : Nat) (us : List Value) (l : List UInt8) (v : Value) (w : World) : Prop :=
 w.ownsRow B 45 1 (.slice (some ⟨q, 0, none⟩) n cap) n (us.set m v) ∧ w.ownsRow base 5 1 v l.length (l.map bv)
theorem Zjt (q B n cap m base : Nat) (us : List Value) (l : List UInt8) (i : Nat) : V1 (pl1 i (fun _ v w => Zds q B n cap m base us l v w)) := by
 rintro v ds w w' hg ⟨h1, h2⟩; exact ⟨Yb h1 hg, Yb h2 hg⟩
theorem Kj {q : Nat} {size : Nat} (hg : Zo q w w') (hq : q < base) (h : w.ownsRow base e size v n xs) : w'.ownsRow base e size v n xs := by
 refine ⟨h.1, Xq h.2 (fun x => x) fun ⟨g, cap, cur, h1, h2, h3, r⟩ => ⟨g, cap, cur, h1, h2, ?_, r⟩⟩;rw [hg.block _ (Za h3) (by omega)]; exact h3
theorem Zf2 {q : Nat} {T : TypeId} {c f} {size : Nat} (hg : Zo q w w') (hq : w.heap[q]? = some (.cells c T f)) (hT : e ≠ T) (h : w.ownsRow base e size v n xs) : w'.ownsRow base e size v n xs := by
 refine ⟨h.1, Xq h.2 (fun x => x) fun ⟨g, cap, cur, h1, h2, h3, r⟩ => ⟨g, cap, cur, h1, h2, ?_, r⟩⟩;rw [hg.block _ (Za h3) (by rintro rfl; rw [hq] at h3; cases h3; exact hT rfl)]; exact h3
theorem Zx1 (w : World) (c e : Array Value) : ((w.alloc (.cells c 26)).alloc (.cells e 107)).heap[w.heap.size]? = some (.cells c 26 (0, 0)) :=
 ((Zb (w.alloc (.cells c 26)) _).block _ (by simp)).trans (Zg _ _ _)
theorem Zx0 (w : World) (c e : Array Value) : ((w.alloc (.cells c 26)).alloc (.cells e 107)).heap[w.heap.size + 1]? = some (.cells e 107 (0, 0)) := by
 have h := Zg (w.alloc (.cells c 26)) e 107;rw [World.size_alloc] at h;exact h
theorem Zkz (q B n cap m : Nat) (us : List Value) (al : Option Addr) (nl cl : Nat) (a : Int) (l : List UInt8) (u : Value) (w : World) (ha : a = (m : Int)) (hmn : m < n) (hrow : w.ownsRow B 45 1 (.slice (some ⟨q, 0, none⟩) n cap) n us) (hu : Bytes w u l) (hl : l.length ≤ 1000) :
  Calls Tryz.prog 72 #[.agg #[.slice (some ⟨q, 0, none⟩) n cap, .slice al nl cl], .agg #[.int .i64 a, u]] w fun e w' => e = .returned (.tuple #[]) ∧ ∃ v', Zo q w w' ∧ Zds q B n cap m w.heap.size us l v' w' := by
 subst ha;obtain ⟨au, cu, rfl, -, -⟩ := Yn hu;have HH : Hid (Kx n (m : Int) = true) := by show Kx _ _ = true; unfold Kx; simp; omega
 have hql := (hrow.lt q rfl).2;have gW := Zp w (.cells #[.slice (some ⟨q, 0, none⟩) n cap, .slice al nl cl] 26) (.cells #[.int .i64 (m : Int), .slice au l.length cu] 107);have hx := Zx1 w #[.slice (some ⟨q, 0, none⟩) n cap, .slice al nl cl] #[.int .i64 (m : Int), .slice au l.length cu];have hy := Zx0 w #[.slice (some ⟨q, 0, none⟩) n cap, .slice al nl cl] #[.int .i64 (m : Int), .slice au l.length cu];go_enter Tryz.func72, Tryz.ntmps72;go_wp2_with fail;refine (Zdj n (m : Int) _ _ _ _ _ _).mono ?_;rw [HH.out];rintro e w1 ⟨rfl, g1⟩;have gW1 := gW.trans g1;have hxw := (g1.block _ (Za hx)).trans hx;have hyw := (g1.block _ (Za hy)).trans hy;have hrw := Yb hrow gW1;clear hx hy gW g1;go_wp2_with fail
 refine Yx [px (.pointer (some ⟨w.heap.size, 0, none⟩)), px (.slice (some ⟨q, 0, none⟩) n cap), px (.pointer (some ⟨w.heap.size + 1, 0, none⟩)), px (.int .i64 (m : Int)), px (.pointer (some ⟨w.heap.size + 1, 1, none⟩)), px (.slice au l.length cu), pl ((fun v w' => w'.ownsRow w.heap.size 5 1 v l.length (l.map bv))), px (.pointer (some ⟨q, m, none⟩)), pl1 6 ((fun _ v w' => Zds q B n cap m w.heap.size us l v w'))] [none, none, none, none, none, none, none, none, some ((fun w1 w2 => Zo q w1 w2))] (Zlu w q B n cap us #[.slice (some ⟨q, 0, none⟩) n cap, .slice al nl cl] #[.int .i64 (m : Int), .slice au l.length cu]) (by kernel_rfl) (by kernel_rfl) ⟨se, se, se, se, se, se, Yj (Zin _ _), se, Zjt _ _ _ _ _ _ _ _ _, trivial⟩ ⟨⟨(fun w1 => Zo.refl _ w1), ⟨x5, x5, x5, x5, x5, x5, .inr ((fun v _ w1 w' hs hq => Kj hs hql hq)), x5, .inl (by kernel_rfl), trivial⟩⟩, trivial⟩ ⟨n5, n5, n5, n5, n5, n5, n5, n5, fun _ _ _ _ h => h, trivial⟩ ⟨Zo.of gW1.drew, hxw, hyw, fun _ => ⟨gW1.drew, hrw⟩⟩ ?_ ?_
 ·refine ⟨?_, ?_, ?_, ?_, ?_, ?_, ?_, ?_, ?_, trivial⟩
  ·refine Zd rfl fun a _ _ _ _ _ B A => ?_;have e2 : a (.tmp 2) = .pointer (some ⟨w.heap.size, 0, none⟩) := Zl A 2 rfl;refine Zh ?_ B rfl;clear A B;go_simp;all_goals go_arith
  ·refine Zd rfl fun a _ _ _ _ C B A => ?_;have e8 : a (.tmp 8) = _ := Ze A 0 rfl;have z0 := Zc B.2.1 0 _ rfl;refine Zh ?_ B rfl;clear A B C;go_simp;all_goals go_arith
  ·refine Zd rfl fun a _ _ _ _ _ B A => ?_;have e3 : a (.tmp 3) = .pointer (some ⟨w.heap.size + 1, 0, none⟩) := Zl A 3 rfl;refine Zh ?_ B rfl;clear A B;go_simp;all_goals go_arith
  ·refine Zd rfl fun a _ _ _ _ C B A => ?_;have e10 : a (.tmp 10) = _ := Ze A 2 rfl;have z0 := Zc B.2.2.1 0 _ rfl;refine Zh ?_ B rfl;clear A B C;go_simp;all_goals go_arith
  ·refine Zd rfl fun a _ _ _ _ _ B A => ?_;have e3 : a (.tmp 3) = .pointer (some ⟨w.heap.size + 1, 0, none⟩) := Zl A 3 rfl;refine Zh ?_ B rfl;clear A B;go_simp;all_goals go_arith
  ·refine Zd rfl fun a _ _ _ _ C B A => ?_;have e12 : a (.tmp 12) = _ := Ze A 4 rfl;have z1 := Zc B.2.2.1 1 _ rfl;refine Zh ?_ B rfl;clear A B C;go_simp;all_goals go_arith
  ·refine Zd rfl fun a B _ _ _ D C A => ?_;have e13 : a (.tmp 13) = _ := Ze A 5 rfl;have n8 := D.not1 8 (by kernel_rfl);refine Yf (f := 108) (args := #[.slice au l.length cu]) ?_ ((V9 l _ B (by omega) (Z1 hu (C.2.2.2 n8).1)).mono ?_)
   ·clear A C D;go_simp;all_goals go_arith
   ·rintro e w2 ⟨v', rfl, ho, g2⟩;exact ⟨_, rfl, g2, Zlu.grow C g2, Yk ho (C.2.2.2 n8).1.size⟩
  ·refine Zd rfl fun a _ _ _ _ _ B A => ?_;have e9 : a (.tmp 9) = _ := Ze A 1 rfl;have e11 : a (.tmp 11) = _ := Ze A 3 rfl;refine Zh ?_ B rfl;clear A B;go_simp;all_goals go_arith
  ·refine Zd rfl fun a w' _ _ _ C B A => ?_;have e15 : a (.tmp 15) = _ := Ze A 7 rfl;have e14 : ((fun v w' => w'.ownsRow w.heap.size 5 1 v l.length (l.map bv))) (a (.tmp 14)) w' := Ze A 6 rfl;have hro := (B.2.2.2 C.un).2;have hgr := (B.2.2.2 C.un).1;obtain ⟨a4, c4, h14⟩ := Yc e14;obtain ⟨cur, hcur⟩ := V4 hro;have fq := hro.frozenAt m;have cq := hro.cellAt m (by omega);have hul : m < us.length := by have := hro.1; omega
   rw [List.getElem?_eq_getElem hul] at cq;generalize us[m]'hul = xm at cq;have hst := (hro.stored m (a (.tmp 14))).1;have hbut : Zo q w' (w'.setCell ⟨q, m, none⟩ (a (.tmp 14))) := (Zo.refl _ _).set _ _ _;refine Yg (w' := w'.setCell ⟨q, m, none⟩ (a (.tmp 14))) ?_ hbut ⟨B.1.trans hbut, (hbut.block _ (Za B.2.1) (by omega)).trans B.2.1, (hbut.block _ (Za B.2.2.1) (by omega)).trans B.2.2.1, fun h => by simp [upd] at h⟩ ⟨hst, Kj hbut hql e14⟩;clear A B C hst hbut hro hcur e14 hgr;go_simp;all_goals go_arith
 ·intro vs w' dn hdn hg ht;obtain ⟨q8, q9, q10, q11, q12, q13, q14, q15, qo8, -⟩ := ht;have r8 : vs 0 = _ := q8;have r9 : vs 1 = _ := q9;have r10 : vs 2 = _ := q10;have r11 : vs 3 = _ := q11;have r12 : vs 4 = _ := q12;have r13 : vs 5 = _ := q13;replace q14 : ((fun v w' => w'.ownsRow w.heap.size 5 1 v l.length (l.map bv))) (vs 6) w' := q14;have r15 : vs 7 = _ := q15;replace qo8 : ((fun _ v w' => Zds q B n cap m w.heap.size us l v w')) (vs 8) (vs 6) w' := qo8;clear q8 q9 q10 q11 q12 q13 q15;simp only [Yi, Act.put, List.setIfInBounds_toArray, List.set_cons_zero, List.set_cons_succ, Nat.reduceAdd, r8, r9, r10, r11, r12, r13, r15];clear r8 r9 r10 r11 r12 r13 r15;have hb1 := hg.1;clear hg hdn q14 hxw hyw gW1;go_wp2_with fail;go_end0;exact ⟨rfl, hb1, _, qo8⟩
theorem Vl.put {q : Nat} (h : Vl B (.slice (some ⟨q, 0, none⟩) bs.length cap) bs us w) (hB : B ≤ base) (hg : Zo q w w') (hQ : Zds q B bs.length cap m base us l v' w') : Vl B (.slice (some ⟨q, 0, none⟩) bs.length cap) (bs.set m l) (us.set m v') w' := by
 obtain ⟨cur, hcur⟩ := V4 h.row;refine ⟨by simp [h.len], by rw [List.length_set]; exact hQ.1, fun i hi => ?_⟩;rw [List.length_set] at hi;by_cases e : m = i
 ·subst e;refine ⟨v', by rw [List.getElem?_set]; simp [h.len, hi], ?_⟩;simp only [List.getElem_set_self];exact Yk hQ.2 hB
 ·obtain ⟨x, h1, h2⟩ := h.each i hi;refine ⟨x, by rw [List.getElem?_set]; simp [e, h1], ?_⟩;rw [List.getElem_set_ne e];exact Zf2 hg hcur (by decide) h2
def Jq (d : Dk) (w : World) (c : Array Value) (v : Value) (g : Nat) (on : Nat → Bool) (k : Nat) (wr : World) : Prop :=
 Zn w wr ∧ wr.heap[w.heap.size]? = some (.cells c 26 (0, 0)) ∧ wr.heap[w.heap.size + 1]? = some (.cells #[.slice none 0 0, .slice none 0 0] 26 (0, 0)) ∧
  wr.heap[g]? = some (.cells #[v, .slice none 0 0] 26 (0, 0)) ∧ ∃ us, Vl (w.heap.size + 1 + 1) v (d.keepTo on k) us wr
theorem Jq.grow {on : Nat → Bool} (h : Jq d w c v g on k wr) (hg : Zn wr w') : Jq d w c v g on k w' :=
 ⟨h.1.trans hg, (hg.block _ (Za h.2.1)).trans h.2.1, (hg.block _ (Za h.2.2.1)).trans h.2.2.1, (hg.block _ (Za h.2.2.2.1)).trans h.2.2.2.1, h.2.2.2.2.imp fun _ x => x.grow hg⟩
theorem Jq.skip {on : Nat → Bool} (h : Jq d w c v g on k wr) (ho : on k = false) : Jq d w c v g on (k + 1) wr :=
 ⟨h.1, h.2.1, h.2.2.1, h.2.2.2.1, by show ∃ us, Vl _ v (if on k = true then _ else _) us wr; rw [ho, if_neg (by decide)]; exact h.2.2.2.2⟩
theorem Jq.land {q : Nat} {on : Nat → Bool} {w' : World} {us : List Value} {v' : Value} (h : Jq d w c (.slice (some ⟨q, 0, none⟩) d.blocks.length cap) g on k wr) (ho : on k = true) (hk : k < d.late.length) (hm : d.late[k].1 = (m : Int)) (hl : d.late[k].2 = l)
  (hU : Vl (w.heap.size + 1 + 1) (.slice (some ⟨q, 0, none⟩) d.blocks.length cap) (d.keepTo on k) us wr) (hg : Zo q wr w') (hQ : Zds q (w.heap.size + 1 + 1) d.blocks.length cap m wr.heap.size us l v' w') : Jq d w c (.slice (some ⟨q, 0, none⟩) d.blocks.length cap) g on (k + 1) w' := by
 have hlen : (d.keepTo on k).length = d.blocks.length := d.keepTo_length _ _;have hrow := hU.row;rw [hlen] at hrow;obtain ⟨cur, hcur⟩ := V4 hrow;have hq := (hrow.lt q rfl).1;have hgq : g ≠ q := by rintro rfl; rw [h.2.2.2.1] at hcur; cases hcur
 have hsz := Za h.2.2.1;refine ⟨hg.grow h.1 (by omega), (hg.block _ (Za h.2.1) (by omega)).trans h.2.1, (hg.block _ (Za h.2.2.1) (by omega)).trans h.2.2.1, (hg.block _ (Za h.2.2.2.1) hgq).trans h.2.2.2.1, us.set m v', ?_⟩;rw [← hlen] at hU hQ;have := Vl.put hU (by omega) hg hQ;rw [hlen] at this;show Vl _ _ (if on k = true then _ else _) _ _;rw [ho, if_pos rfl, Qp _ _ _ hk, hm, hl, Int.toNat_natCast];exact this
theorem Zd0 (h : Vl B v bs us w) (h0 : 0 < bs.length) : ∃ q cap, v = .slice (some ⟨q, 0, none⟩) bs.length cap := by
 rcases h.row.2 with ⟨_, e⟩ | ⟨q, cap, cur, e, _⟩
 ·omega
 ·exact ⟨q, cap, e⟩
theorem Zc1 (d : Dk) (vb vl : Value) (w : World) (hb : X1 w vb d.blocks) (hl : Vv w vl d.late) (h0 : 0 < d.blocks.length) (hlen : d.blocks.length ≤ 256) (hm : d.late.length ≤ 1000) (hb16 : ∀ x ∈ d.blocks, x.length ≤ 1000) (hl16 : ∀ x ∈ d.late, x.2.length ≤ 1000) (hp : ∀ x ∈ d.late, 0 ≤ x.1 ∧ x.1 < (d.blocks.length : Int)) :
  Calls Tryz.prog 38 #[.agg #[vb, vl]] w fun e w' => ∃ v, e = .returned v ∧ Va w.heap.size d.flush v w' ∧ Zn w w' := by
 obtain ⟨ab, cb, rfl⟩ := hb.form;obtain ⟨al, cl, rfl⟩ := hl.form;have gW := Zp w (.cells #[.slice ab d.blocks.length cb, .slice al d.late.length cl] 26) (.cells #[.slice none 0 0, .slice none 0 0] 26);have hx := hx1 w #[.slice ab d.blocks.length cb, .slice al d.late.length cl] #[.slice none 0 0, .slice none 0 0];have hy := hy1 w #[.slice ab d.blocks.length cb, .slice al d.late.length cl] #[.slice none 0 0, .slice none 0 0];go_enter Tryz.func38, Tryz.ntmps38;go_wp2_with fail;refine (Km d.blocks _ _ (hb.grow gW) hlen hb16).mono ?_;rintro e w1 ⟨v1, us, rfl, hU, -, g1⟩;obtain ⟨q, cap, rfl⟩ := Zd0 hU h0;have g2 := Zb w1 (.cells #[.slice (some ⟨q, 0, none⟩) d.blocks.length cap, .slice none 0 0] 26);have hxw := ((g1.trans g2).block _ (Za hx)).trans hx;have hyw := ((g1.trans g2).block _ (Za hy)).trans hy;have hstart : Jq d w #[.slice ab d.blocks.length cb, .slice al d.late.length cl] (.slice (some ⟨q, 0, none⟩) d.blocks.length cap) w1.heap.size (fun _ => true) 0 (w1.alloc (.cells #[.slice (some ⟨q, 0, none⟩) d.blocks.length cap, .slice none 0 0] 26)) :=
  ⟨gW.trans (g1.trans g2), hxw, hyw, Zg _ _ _, us, (hU.grow g2).mono (by simp)⟩
 have x1 := Zc hxw 1 _ rfl;clear hU hxw hyw hx hy gW g1 g2 hb;go_wp2_with fail;clear x1;generalize w1.heap.size = g at *;generalize World.alloc w1 _ = W at *;go_loopw [13] (fun i wr => ∃ k : Nat, k ≤ d.late.length ∧ i = .int .i64 k ∧ Jq d w #[.slice ab d.blocks.length cb, .slice al d.late.length cl] (.slice (some ⟨q, 0, none⟩) d.blocks.length cap) g (fun _ => true) k wr) (fun i _ => d.late.length - (intOf i).toNat)
 case atStart => exact ⟨0, Nat.zero_le _, rfl, hstart⟩
 case round =>
  clear hstart;obtain ⟨k, hk, rfl, hL⟩ := hrel;by_cases hlt : k < d.late.length
  ·obtain ⟨b, off, hvl, hc0, u, hc1, hu⟩ := (hl.grow hL.1).at k hlt;cases hvl;have hpk := hp d.late[k] (List.getElem_mem _);have hx16 := hl16 d.late[k] (List.getElem_mem _);obtain ⟨m, hm0⟩ := Int.eq_ofNat_of_zero_le hpk.1;have hmn : m < d.blocks.length := by have := hpk.2; omega
   rw [hm0] at hc0;obtain ⟨au, cu, rfl, -, -⟩ := Yn hu;have hll := hL.grow (Zb wr (.cells #[.int .i64 (m : Int), .slice au (d.late[k].2).length cu] 107));obtain ⟨us1, hU1⟩ := hll.2.2.2.2;have hkl : (d.keepTo (fun _ => true) k).length = d.blocks.length := d.keepTo_length _ _;have hrow1 := hU1.row;rw [hkl] at hrow1;have hu1 := Z1 hu (Zb wr (.cells #[.int .i64 (m : Int), .slice au (d.late[k].2).length cu] 107));have HM : Hid _ := hm0;have hfin := fun (l : List UInt8) (e : d.late[k].2 = l) v' w' => Jq.land (v' := v') (w' := w') hll rfl hlt hm0 e hU1
   have y0 := Zc hll.2.2.2.1 0 _ rfl;have y1 := Zc hll.2.2.2.1 1 _ rfl;replace hfin := hfin _ rfl;clear hm0 hU1 hL hu hkl hpk hll;generalize d.late[k].2 = data at *;go_wp2_with fail;refine (Zkz q (w.heap.size + 1 + 1) d.blocks.length cap m us1 _ _ _ _ data _ _ rfl hmn hrow1 hu1 hx16).mono ?_;rintro e w2 ⟨rfl, v', hbut, hQ⟩;have hend := hfin v' w2 hbut hQ;clear hfin hbut hQ hrow1 hu1 y0 y1;go_wp2_with fail;go_roundw
   case rel => exact ⟨k + 1, by omega, by simp, hend⟩
   case measure => simp [intOf]; omega
  ·have hk' : k = d.late.length := by omega
   subst hk';obtain ⟨gL, -, hLr, hLg, us1, hU1⟩ := hL;obtain ⟨y0, y1⟩ := Y9 hLg rfl rfl;obtain ⟨z0, z1⟩ := Y9 hLr rfl rfl;have f0 := Zi hLr 0;have f1 := Zi hLr 1;have cs := Zr;obtain ⟨hp1, hp2⟩ := Xs hLr (.slice (some ⟨q, 0, none⟩) d.blocks.length cap) (.slice none 0 0);have hstep : Yw 26 wr _ := .inr ⟨_, _, _, hp2, hLr, hp1, rfl⟩;have gE := hp2.grow gL (by omega);have hE := (hU1.box hstep).mono (B' := w.heap.size) (by omega);clear hp1 hp2 hstep hU1 hLg hLr gL hl;go_wp2_with fail;exact bodyPost_ret (v := .agg #[.slice (some ⟨q, 0, none⟩) d.blocks.length cap, .slice none 0 0]) (by simp [results, Tryz.results38, go_sem, z0, z1, cs]) rfl ⟨_, rfl, ⟨_, _, rfl, ⟨us1, hE⟩, Q4.nil _ _⟩, gE⟩
end Go.Proofs.YtpdnapbchcdhlacGreat
namespace Go.Proofs.YtpdnapbchcdhlacGreat
set_option maxRecDepth 100000
open Go.RowKit
open Plain Reg
variable {us : List Value} {w w' : World}
theorem Zdg : Dk.new.blocks.length = 12 := rfl
theorem Zm8 (k : Nat) (h : k < Dk.new.blocks.length) : Dk.new.blocks[k] = blk ⟨1, 0, 0, []⟩ (k : Int) := by
 simp [Dk.new]
theorem Zgr : Z9 ⟨1, 0, 0, []⟩ = 0 := by decide
theorem Zid (w : World) : Bytes w (.slice none 0 0) [] := .inl ⟨none, 0, rfl, rfl, fun _ => rfl⟩
theorem Zcr.land {B k : Nat} {bs : List (List UInt8)} {u : Value} (h : Zcr B bs k us w) (hk : k < bs.length) (hB : B ≤ w.heap.size) (hg : Zo B w w') (hQ : Zds B B bs.length bs.length k w.heap.size us bs[k] u w') : Zcr B bs (k + 1) (us.set k u) w' := by
 obtain ⟨cur, hcur⟩ := V4 h.row;refine ⟨by rw [List.length_set]; exact h.len, hQ.1, fun i hi hik => ?_, fun i j x x' p hij hjk hx hx' hp => ?_⟩
 ·by_cases e : k = i
  ·subst e;exact ⟨u, by rw [List.getElem?_set]; simp [h.len, hi], Yk hQ.2 hB⟩
  ·obtain ⟨x, h1, h2⟩ := h.each i hi (by omega);exact ⟨x, by rw [List.getElem?_set]; simp [e, h1], Zf2 hg hcur (by decide) h2⟩
 ·have hi : i < bs.length := by omega
  rw [List.getElem?_set, if_neg (by omega)] at hx;by_cases e : k = j
  ·subst e;rw [List.getElem?_set, if_pos rfl, if_pos (by rw [h.len]; exact hk)] at hx';cases hx';obtain ⟨y, h1, h2⟩ := h.each i hi (by omega);rw [hx] at h1; cases h1;intro hq;have a1 := (h2.lt p hp).2;have a2 := (hQ.2.lt p hq).1;omega
  ·rw [List.getElem?_set, if_neg e] at hx';exact h.apart i j x x' p hij (by omega) hx hx' hp
def Zuj (w wr : World) (us : List Value) (dn : Nat → Bool) (w' : World) : Prop :=
 Zo (w.heap.size + 1) wr w' ∧ w'.heap[w.heap.size]? = some (.cells #[.slice none 0 0, .slice none 0 0] 26 (0, 0)) ∧ w'.heap[w.heap.size + 1 + 1]? = some (.cells #[.slice (some ⟨w.heap.size + 1, 0, none⟩) 12 12, .slice none 0 0] 26 (0, 0)) ∧
  (dn 7 = false → Zn wr w' ∧ w'.ownsRow (w.heap.size + 1) 45 1 (.slice (some ⟨w.heap.size + 1, 0, none⟩) 12 12) 12 us)
theorem Zuj.grow {wr : World} {dn : Nat → Bool} {w'' : World} (h : Zuj w wr us dn w') (hg : Zn w' w'') : Zuj w wr us dn w'' :=
 ⟨h.1.trans (Zo.of hg), (hg.block _ (Za h.2.1)).trans h.2.1, (hg.block _ (Za h.2.2.1)).trans h.2.2.1, fun hd => ⟨(h.2.2.2 hd).1.trans hg, Yb (h.2.2.2 hd).2 hg⟩⟩
def Zx4 (w : World) (k : Nat) (wr : World) : Prop :=
 Zn w wr ∧ wr.heap[w.heap.size]? = some (.cells #[.slice none 0 0, .slice none 0 0] 26 (0, 0)) ∧ wr.heap[w.heap.size + 1 + 1]? = some (.cells #[.slice (some ⟨w.heap.size + 1, 0, none⟩) 12 12, .slice none 0 0] 26 (0, 0)) ∧ ∃ us, Zcr (w.heap.size + 1) Dk.new.blocks k us wr
theorem Zv0 (w : World) : Calls Tryz.prog 85 #[] w fun e w' => ∃ v, e = .returned v ∧ Va w.heap.size Dk.new v w' ∧ Zn w w' := by
 have mk := fun w => Zgd w 12 (by omega)
 have mk2 : ∀ w, (Instr.makeSlice 23 (.int .i64 12) (.int .i64 12)).run Tryz.prog w = .ok (.slice (some ⟨w.heap.size, 0, none⟩) 12 12) (w.alloc (.cells (Array.replicate 12 (.slice none 0 0)) 45)) := mk;clear mk;have hstart : Zx4 w 0 (((w.alloc (.cells #[.slice none 0 0, .slice none 0 0] 26)).alloc (.cells (Array.replicate 12 (.slice none 0 0)) 45)).alloc (.cells #[.slice (some ⟨w.heap.size + 1, 0, none⟩) 12 12, .slice none 0 0] 26)) := by
  have h2 := Zg ((w.alloc (.cells #[.slice none 0 0, .slice none 0 0] 26)).alloc (.cells (Array.replicate 12 (.slice none 0 0)) 45)) #[.slice (some ⟨w.heap.size + 1, 0, none⟩) 12 12, .slice none 0 0] 26;rw [World.size_alloc, World.size_alloc] at h2;refine ⟨(Zp _ _ _).trans (Zb _ _), ((Zp _ _ _).block _ (by simp)).trans (Zg _ _ _), h2, List.replicate 12 (.slice none 0 0), by simp [Zdg], ?_, fun i _ h => by omega, fun i j _ _ _ _ h => by omega⟩;have h3 := World.ownsRow_lit (e := 45) (base := w.heap.size + 1) (size := 1) (w.alloc (.cells #[.slice none 0 0, .slice none 0 0] 26)) (Array.replicate 12 (.slice none 0 0)) 12 (by simp) (by unfold maxLen; omega) (by simp);rw [World.size_alloc] at h3;have h4 := Yb h3 (Zb _ (.cells #[.slice (some ⟨w.heap.size + 1, 0, none⟩) 12 12, .slice none 0 0] 26));simpa [Zdg] using h4
 go_enter Tryz.func85, Tryz.ntmps85;go_wp2_with fail;clear mk2;generalize World.alloc (World.alloc (World.alloc w _) _) _ = W at *;go_loopw [8] (fun i wr => ∃ k : Nat, k ≤ 12 ∧ i = .int .i64 k ∧ Zx4 w k wr) (fun i _ => 12 - (intOf i).toNat)
 case atStart => exact ⟨0, Nat.zero_le _, rfl, hstart⟩
 case round =>
  clear hstart;obtain ⟨k, hk, rfl, gL, hLr, hLg, us, hL⟩ := hrel;by_cases hlt : k < 12
  ·have hkb : k < Dk.new.blocks.length := hlt;have hrow := hL.row;rw [Zdg] at hrow;have hz := Za hLg;have hul : us.length = 12 := hL.len;have HN : Hid (Dk.new.blocks[k] = blk ⟨1, 0, 0, []⟩ (k : Int)) := Zm8 k hkb;have HL16 : Hid ((blk ⟨1, 0, 0, []⟩ (k : Int)).length = 16) := Qm _ _ (by simp);generalize hbe : blk ⟨1, 0, 0, []⟩ (k : Int) = bl at *;have HBE : Hid _ := hbe;clear hbe;go_wp2_with fail;refine Yx [px (.pointer (some ⟨w.heap.size + 1 + 1, 0, none⟩)), px (.slice (some ⟨w.heap.size + 1, 0, none⟩) 12 12), px (.int .i64 (k : Int)), px (.agg #[.int .i64 1, .int .i64 0, .int .i64 0, .slice none 0 0]), px (.int .i64 (k : Int)), pl ((fun v w' => w'.ownsRow wr.heap.size 5 1 v bl.length (bl.map bv))), px (.pointer (some ⟨w.heap.size + 1, k, none⟩)), pl1 5 ((fun _ v w' => Zds (w.heap.size + 1) (w.heap.size + 1) 12 12 k wr.heap.size us bl v w'))] [none, none, none, none, none, none, none, some ((fun w1 w2 => Zo (w.heap.size + 1) w1 w2))] (Zuj w wr us) (by kernel_rfl) (by kernel_rfl) ⟨se, se, se, se, se, Yj (Zin _ _), se, Zjt _ _ _ _ _ _ _ _ _, trivial⟩ ⟨⟨(fun w1 => Zo.refl _ w1), ⟨x5, x5, x5, x5, x5, .inr ((fun v _ w1 w' hs hq => Kj hs (by omega) hq)), x5, .inl (by kernel_rfl), trivial⟩⟩, trivial⟩ ⟨n5, n5, n5, n5, n5, n5, n5, fun _ _ _ _ h => h, trivial⟩ ⟨Zo.of (Zn.refl _).drew, hLr, hLg, fun _ => ⟨(Zn.refl _).drew, hrow⟩⟩ ?_ ?_
   ·refine ⟨?_, ?_, ?_, ?_, ?_, ?_, ?_, ?_, trivial⟩
    ·refine Zd rfl fun a _ _ _ _ _ B A => ?_;have e1 : a (.tmp 1) = .pointer (some ⟨w.heap.size + 1 + 1, 0, none⟩) := Zl A 1 rfl;refine Zh ?_ B rfl;clear A B;go_simp;all_goals go_arith
    ·refine Zd rfl fun a _ _ _ _ C B A => ?_;have e11 : a (.tmp 11) = _ := Ze A 0 rfl;have z0 := Zc B.2.2.1 0 _ rfl;refine Zh ?_ B rfl;clear A B C;go_simp;all_goals go_arith
    ·exact Zd rfl fun a _ _ _ _ _ B A => Z6 rfl B (Zl A 2 rfl)
    ·refine Zd rfl fun a _ _ _ _ _ B A => ?_;refine Zh ?_ B rfl;clear A B;go_simp;all_goals go_arith
    ·exact Zd rfl fun a _ _ _ _ _ B A => Z6 rfl B (Zl A 2 rfl)
    ·refine Zd rfl fun a B _ _ _ D C A => ?_;have e14 : a (.tmp 14) = _ := Ze A 3 rfl;have e15 : a (.tmp 15) = _ := Ze A 4 rfl;have n7 := D.not1 7 (by kernel_rfl);refine Yf (f := 107) (args := #[.agg #[.int .i64 1, .int .i64 0, .int .i64 0, .slice none 0 0], .int .i64 (k : Int)]) ?_ ((Zie 1 0 0 (k : Int) [] _ B (Zid _) Zgr (by omega) (by omega)).mono ?_)
     ·clear A C D;go_simp;all_goals go_arith
     ·rintro e w2 ⟨v', rfl, ho, g2⟩;rw [HBE.out] at ho;exact ⟨_, rfl, g2, Zuj.grow C g2, by rw [HL16.out]; exact Yk ho (C.2.2.2 n7).1.size⟩
    ·refine Zd rfl fun a _ _ _ _ _ B A => ?_;have e12 : a (.tmp 12) = _ := Ze A 1 rfl;have e13 : a (.tmp 13) = _ := Ze A 2 rfl;refine Zh ?_ B rfl;clear A B;go_simp;all_goals go_arith
    ·refine Zd rfl fun a w' _ _ _ C B A => ?_;have e17 : a (.tmp 17) = _ := Ze A 6 rfl;have e16 : ((fun v w' => w'.ownsRow wr.heap.size 5 1 v bl.length (bl.map bv))) (a (.tmp 16)) w' := Ze A 5 rfl;have hro := (B.2.2.2 C.un).2;obtain ⟨a4, c4, h16⟩ := Yc e16;have fq := hro.frozenAt k;have cq := hro.cellAt k (by omega);rw [List.getElem?_eq_getElem (by omega)] at cq;generalize us[k]'(by omega) = xm at cq;have hst := (hro.stored k (a (.tmp 16))).1;have hbut : Zo (w.heap.size + 1) w' (w'.setCell ⟨w.heap.size + 1, k, none⟩ (a (.tmp 16))) := (Zo.refl _ _).set _ _ _;refine Yg (w' := w'.setCell ⟨w.heap.size + 1, k, none⟩ (a (.tmp 16))) ?_ hbut ⟨B.1.trans hbut, (hbut.block _ (Za B.2.1) (by omega)).trans B.2.1, (hbut.block _ (Za B.2.2.1) (by omega)).trans B.2.2.1, fun h => by simp [upd] at h⟩ ⟨hst, Kj hbut (by omega) e16⟩;clear A B C hst hbut hro e16;go_simp;all_goals go_arith
   ·intro vs w' dn hdn hg ht;obtain ⟨q11, q12, q13, q14, q15, q16, q17, qo7, -⟩ := ht;have r11 : vs 0 = _ := q11;have r12 : vs 1 = _ := q12;have r13 : vs 2 = _ := q13;have r14 : vs 3 = _ := q14;have r15 : vs 4 = _ := q15;replace q16 : ((fun v w' => w'.ownsRow wr.heap.size 5 1 v bl.length (bl.map bv))) (vs 5) w' := q16;have r17 : vs 6 = _ := q17;replace qo7 : ((fun _ v w' => Zds (w.heap.size + 1) (w.heap.size + 1) 12 12 k wr.heap.size us bl v w')) (vs 7) (vs 5) w' := qo7;clear q11 q12 q13 q14 q15 q17;simp only [Yi, Act.put, List.setIfInBounds_toArray, List.set_cons_zero, List.set_cons_succ, Nat.reduceAdd, r11, r12, r13, r14, r15, r17];clear r11 r12 r13 r14 r15 r17;have hb1 := hg.1;rw [← HN.out] at qo7;have hL2 := hL.land hkb (by omega) hb1 qo7;have hend : Zx4 w (k + 1) w' := ⟨hb1.grow gL (by omega), hg.2.1, hg.2.2.1, _, hL2⟩;clear hg hdn q16 hL hL2 hb1 qo7 hrow hLr hLg gL;generalize vs 5 = u5;go_wp2_with fail;go_roundw
    case rel => exact ⟨k + 1, by omega, by simp, hend⟩
    case measure => simp [intOf]; omega
  ·have hk' : k = 12 := by omega
   subst hk';have hU : Vl (w.heap.size + 1) (.slice (some ⟨w.heap.size + 1, 0, none⟩) 12 12) Dk.new.blocks us wr := ⟨hL.len, hL.row, fun i hi => hL.each i hi hi⟩;obtain ⟨y0, y1⟩ := Y9 hLg rfl rfl;obtain ⟨z0, z1⟩ := Y9 hLr rfl rfl;have f0 := Zi hLr 0;have f1 := Zi hLr 1;have cs := Zr;obtain ⟨hp1, hp2⟩ := Xs hLr (.slice (some ⟨w.heap.size + 1, 0, none⟩) 12 12) (.slice none 0 0);have hstep : Yw 26 wr _ := .inr ⟨_, _, _, hp2, hLr, hp1, rfl⟩;have gE := hp2.grow gL (by omega);have hE := (hU.box hstep).mono (B' := w.heap.size) (by omega);clear hp1 hp2 hstep hU hL hLg hLr gL;go_wp2_with fail;exact bodyPost_ret (v := .agg #[.slice (some ⟨w.heap.size + 1, 0, none⟩) 12 12, .slice none 0 0]) (by simp [results, Tryz.results85, go_sem, z0, z1, cs]) rfl ⟨_, rfl, ⟨_, _, rfl, ⟨us, hE⟩, Q4.nil _ _⟩, gE⟩
end Go.Proofs.YtpdnapbchcdhlacGreat
