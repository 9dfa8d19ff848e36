import Derived.Test.YtpdnapbchcdhlaaBRead
set_option maxHeartbeats 8000000
namespace Go.Proofs.Ytpdnapbchcdhlaa
set_option maxRecDepth 100000
open Go.RowKit
open Plain Reg
variable {at_ : Int} {base g n : Nat} {d v : Value} {l : List UInt8} {w w' : World} {x : UInt8}
theorem Jo (e : Int) (w : World) :
  Calls Try.prog 75 #[.int .i64 e] w fun x w' => x = .returned (.tuple #[.agg #[.int .i64 0, .int .i64 0, .int .i64 0, .slice none 0 0], .int .i64 e]) ∧ Zm w w' := by
 go_enter Try.func75, Try.ntmps75;go_wp2;exact bodyPost_ret (v := .tuple #[.agg #[.int .i64 0, .int .i64 0, .int .i64 0, .slice none 0 0], .int .i64 e]) (by simp [results, Try.results75, go_sem]) rfl ⟨rfl, Zh _ _⟩
def J2 (w : World) (l : List UInt8) (at_ : Int) (e : Ending) (w' : World) : Prop :=
 ∃ d, e = .returned (.tuple #[.agg #[.int .i64 (Ye l at_).kind, .int .i64 (Ye l at_).key, .int .i64 (Ye l at_).ver, d], .int .i64 (Y0 l at_)]) ∧ w'.ownsRow w.heap.size 5 1 d (Ye l at_).data.length ((Ye l at_).data.map bv) ∧ Zm w w'
theorem Vg {e : Int} (h : Y0 l at_ = e) (h0 : e ≠ 0) (hg : Zm w w') : J2 w l at_ (.returned (.tuple #[.agg #[.int .i64 0, .int .i64 0, .int .i64 0, .slice none 0 0], .int .i64 e])) w' := by
 have hr : Ye l at_ = Rec.none := by unfold Ye; rw [h, if_neg h0]
 unfold J2;rw [hr, h];exact ⟨_, rfl, World.ownsRow_nil _ _ _ _, hg⟩
theorem Zd6 (l : List UInt8) (at_ : Int) (ao : Option Addr) (cap : Nat) (w : World) (hl : l.length ≠ 16) :
  Calls Try.prog 32 #[.slice ao l.length cap, .int .i64 at_] w (J2 w l at_) := by
 have HE : Hid (Y0 l at_ = 2) := by
  have : Yd l at_ = 2 := by unfold Yd; rw [if_pos hl]
  show Y0 _ _ = 2; unfold Y0; rw [this]; rfl
 have d : ((l.length : Int) != 16) = true := by simp; omega
 have hbx := Zu w #[.int .i64 0, .int .i64 0, .int .i64 0, .slice none 0 0] 32;have gx := Zh w (.cells #[.int .i64 0, .int .i64 0, .int .i64 0, .slice none 0 0] 32);go_enter Try.func32, Try.ntmps32;go_wp2_with fail;refine (Jo _ _).mono ?_;rintro e w9 ⟨rfl, g9⟩;have hb9 := (g9.block _ (Zg hbx)).trans hbx;have gz := gx.trans g9;obtain ⟨z0, z1, z2, z3⟩ := Xm hb9 rfl rfl rfl rfl;obtain ⟨f0, f1, f2, f3⟩ := Xc hb9;have cs := Z6;clear g9 hb9 hbx gx;go_wp2_with fail;refine bodyPost_ret (v := .tuple #[.agg #[.int .i64 0, .int .i64 0, .int .i64 0, .slice none 0 0], .int .i64 _]) (by simp [results, Try.results32, go_sem, z0, z1, z2, z3, cs]) rfl (Vg HE.out (by omega) ?_);exact Zt (Zt (Zt (Zt gz (by simp) _) (by simp) _) (by simp) _) (by simp) _
theorem Qw {e : Int} (h : Yd l at_ = e) (h0 : e ≠ 0) : Y0 l at_ = e := by unfold Y0; rw [h, if_neg h0]
theorem Zfy (l : List UInt8) (at_ : Int) (b off cap : Nat) (w : World) (hl : l.length = 16) (hcap : 16 ≤ cap) (hc : Q5 w b off l) (hs : Yp l = false) :
  Calls Try.prog 32 #[.slice (some ⟨b, off, none⟩) 16 cap, .int .i64 at_] w (J2 w l at_) := by
 have HE : Hid (Y0 l at_ = 7) := Qw (by unfold Yd; rw [if_neg (by omega), if_pos hs]) (by omega);have HS : Hid (Yp l = false) := hs;clear hs;have hB : Bytes w (.slice (some ⟨b, off, none⟩) 16 cap) l := .inr ⟨b, off, cap, by rw [hl], by omega, hc⟩;have HL : Hid (l.length = 16) := hl;clear hl;go_enter Try.func32, Try.ntmps32;go_wp2_with fail;refine (Q8 l _ _ (by rw [HL.out]; omega) (by exact Zw hB (Zh _ _))).mono ?_;rw [HS.out];rintro e w1 ⟨rfl, g1⟩;have gx : Zm w w1 := (Zh _ _).trans g1;have hbx : w1.heap[w.heap.size]? = some (.cells #[.int .i64 0, .int .i64 0, .int .i64 0, .slice none 0 0] 32 (0, 0)) := (g1.block _ (by simp)).trans (Zu _ _ _);have hc1 := hc.grow gx;clear g1 hc1 hc hB;go_wp2_with fail;refine (Jo _ _).mono ?_;rintro e w9 ⟨rfl, g9⟩;have hb9 := (g9.block _ (Zg hbx)).trans hbx;have gz := gx.trans g9;obtain ⟨z0, z1, z2, z3⟩ := Xm hb9 rfl rfl rfl rfl;obtain ⟨f0, f1, f2, f3⟩ := Xc hb9;have cs := Z6;clear g9 hb9 hbx gx;go_wp2_with fail;refine bodyPost_ret (v := .tuple #[.agg #[.int .i64 0, .int .i64 0, .int .i64 0, .slice none 0 0], .int .i64 _]) (by simp [results, Try.results32, go_sem, z0, z1, z2, z3, cs]) rfl (Vg HE.out (by omega) ?_);exact Zt (Zt (Zt (Zt gz (by simp) _) (by simp) _) (by simp) _) (by simp) _
theorem Zcs (l : List UInt8) (at_ : Int) (b off cap : Nat) (w : World) (hl : l.length = 16) (hcap : 16 ≤ cap) (hc : Q5 w b off l) (hs : Yp l = true) (hp : ((at' l 1).toNat : Int) ≠ at_) :
  Calls Try.prog 32 #[.slice (some ⟨b, off, none⟩) 16 cap, .int .i64 at_] w (J2 w l at_) := by
 have HE : Hid (Y0 l at_ = 8) := Qw (by unfold Yd; rw [if_neg (by omega), if_neg (by rw [hs]; simp), if_pos hp]) (by omega);have HS : Hid (Yp l = true) := hs;have d1 : (((at' l 1).toNat : Int) != at_) = true := by simp [hp]
 clear hs hp;have hB : Bytes w (.slice (some ⟨b, off, none⟩) 16 cap) l := .inr ⟨b, off, cap, by rw [hl], by omega, hc⟩;have HL : Hid (l.length = 16) := hl;clear hl;go_enter Try.func32, Try.ntmps32;go_wp2_with fail;refine (Q8 l _ _ (by rw [HL.out]; omega) (by exact Zw hB (Zh _ _))).mono ?_;rw [HS.out];rintro e w1 ⟨rfl, g1⟩;have gx : Zm w w1 := (Zh _ _).trans g1;have hbx : w1.heap[w.heap.size]? = some (.cells #[.int .i64 0, .int .i64 0, .int .i64 0, .slice none 0 0] 32 (0, 0)) := (g1.block _ (by simp)).trans (Zu _ _ _);have hc1 := hc.grow gx;have h1 := hc1.at' 1 (by rw [HL.out]; omega);have b1 : (at' l 1).toNat < 256 := UInt8.toNat_lt _;clear g1 hc1 hc hB;generalize (at' l 1).toNat = x1 at *;go_wp2_with fail;refine (Jo _ _).mono ?_;rintro e w9 ⟨rfl, g9⟩;have hb9 := (g9.block _ (Zg hbx)).trans hbx;have gz := gx.trans g9;obtain ⟨z0, z1, z2, z3⟩ := Xm hb9 rfl rfl rfl rfl;obtain ⟨f0, f1, f2, f3⟩ := Xc hb9;have cs := Z6;clear g9 hb9 hbx gx;go_wp2_with fail;refine bodyPost_ret (v := .tuple #[.agg #[.int .i64 0, .int .i64 0, .int .i64 0, .slice none 0 0], .int .i64 _]) (by simp [results, Try.results32, go_sem, z0, z1, z2, z3, cs]) rfl (Vg HE.out (by omega) ?_);exact Zt (Zt (Zt (Zt gz (by simp) _) (by simp) _) (by simp) _) (by simp) _
theorem Zd7 (l : List UInt8) (at_ : Int) (b off cap : Nat) (w : World) (hl : l.length = 16) (hcap : 16 ≤ cap) (hc : Q5 w b off l) (hs : Yp l = true) (hp : ((at' l 1).toNat : Int) = at_) (h8 : 8 < (at' l 5).toNat) :
  Calls Try.prog 32 #[.slice (some ⟨b, off, none⟩) 16 cap, .int .i64 at_] w (J2 w l at_) := by
 have HE : Hid (Y0 l at_ = 4) := Qw (by unfold Yd; rw [if_neg (by omega), if_neg (by rw [hs]; simp), if_neg (by simpa using hp), if_pos h8]) (by omega);have HS : Hid (Yp l = true) := hs;have d1 : (((at' l 1).toNat : Int) != at_) = false := by simp [hp]
 clear hs hp;have hB : Bytes w (.slice (some ⟨b, off, none⟩) 16 cap) l := .inr ⟨b, off, cap, by rw [hl], by omega, hc⟩;have HL : Hid (l.length = 16) := hl;clear hl;go_enter Try.func32, Try.ntmps32;go_wp2_with fail;refine (Q8 l _ _ (by rw [HL.out]; omega) (by exact Zw hB (Zh _ _))).mono ?_;rw [HS.out];rintro e w1 ⟨rfl, g1⟩;have gx : Zm w w1 := (Zh _ _).trans g1;have hbx : w1.heap[w.heap.size]? = some (.cells #[.int .i64 0, .int .i64 0, .int .i64 0, .slice none 0 0] 32 (0, 0)) := (g1.block _ (by simp)).trans (Zu _ _ _);have hc1 := hc.grow gx;have h1 := hc1.at' 1 (by rw [HL.out]; omega);have h5 := hc1.at' 5 (by rw [HL.out]; omega);have b1 : (at' l 1).toNat < 256 := UInt8.toNat_lt _;have b5 : (at' l 5).toNat < 256 := UInt8.toNat_lt _;clear g1 hc1 hc hB;generalize (at' l 1).toNat = x1 at *;generalize (at' l 5).toNat = x5 at *;go_wp2_with fail;refine (Jo _ _).mono ?_;rintro e w9 ⟨rfl, g9⟩;have hb9 := (g9.block _ (Zg hbx)).trans hbx;have gz := gx.trans g9;obtain ⟨z0, z1, z2, z3⟩ := Xm hb9 rfl rfl rfl rfl;obtain ⟨f0, f1, f2, f3⟩ := Xc hb9;have cs := Z6;clear g9 hb9 hbx gx;go_wp2_with fail;refine bodyPost_ret (v := .tuple #[.agg #[.int .i64 0, .int .i64 0, .int .i64 0, .slice none 0 0], .int .i64 _]) (by simp [results, Try.results32, go_sem, z0, z1, z2, z3, cs]) rfl (Vg HE.out (by omega) ?_);exact Zt (Zt (Zt (Zt gz (by simp) _) (by simp) _) (by simp) _) (by simp) _
def Yz (l : List UInt8) (j : Nat) : List UInt8 := (l.drop 6).take (min (j - 6) (at' l 5).toNat)
def Zfh (l : List UInt8) (j : Nat) : Prop := ∀ i, 6 + (at' l 5).toNat ≤ i → i < j → at' l i = 0
theorem Zir (l : List UInt8) (i : Nat) (h : i < l.length) : at' l i = l[i] := by unfold at'; rw [List.getD_eq_getElem?_getD, List.getElem?_eq_getElem h]; rfl
theorem Zdi (l : List UInt8) (j : Nat) (hl : l.length = 16) (h6 : 6 ≤ j) (hj : j < 6 + (at' l 5).toNat) (h8 : (at' l 5).toNat ≤ 8) : Yz l (j + 1) = Yz l j ++ [at' l j] := by
 unfold Yz;rw [show min (j + 1 - 6) (at' l 5).toNat = (j - 6) + 1 from by omega, show min (j - 6) (at' l 5).toNat = j - 6 from by omega, List.take_succ_eq_append_getElem (by simp; omega)]
 congr 2
 rw [Zir l j (by omega), List.getElem_drop]
 congr 1
 omega
theorem Zdj (l : List UInt8) (j : Nat) (hj : 6 + (at' l 5).toNat ≤ j) : Yz l (j + 1) = Yz l j := by
 unfold Yz;rw [show min (j + 1 - 6) (at' l 5).toNat = (at' l 5).toNat from by omega, show min (j - 6) (at' l 5).toNat = (at' l 5).toNat from by omega]
theorem Zeq (l : List UInt8) (j : Nat) (hl : l.length = 16) (h8 : (at' l 5).toNat ≤ 8) : (Yz l j).length = min (j - 6) (at' l 5).toNat := by
 unfold Yz; simp; omega
theorem Zdk (l : List UInt8) (h8 : (at' l 5).toNat ≤ 8) : Yz l 14 = (Z7 l).data := by
 unfold Yz Z7;rw [show min (14 - 6) (at' l 5).toNat = (at' l 5).toNat from by omega]
theorem Zct (l : List UInt8) (hl : l.length = 16) (h8 : (at' l 5).toNat ≤ 8) (c : UInt8) : c ∈ Xz l ↔ ∃ i, 6 + (at' l 5).toNat ≤ i ∧ i < 14 ∧ at' l i = c := by
 unfold Xz;rw [List.mem_iff_getElem];constructor
 ·rintro ⟨i, hi, rfl⟩;simp only [List.length_take, List.length_drop] at hi;refine ⟨6 + (at' l 5).toNat + i, by omega, by omega, ?_⟩;rw [Zir l _ (by omega)];simp
 ·rintro ⟨i, h1, h2, rfl⟩;refine ⟨i - (6 + (at' l 5).toNat), by simp; omega, ?_⟩;rw [Zir l i (by omega), List.getElem_take, List.getElem_drop]
  congr 1
  omega
theorem Zet (l : List UInt8) (hl : l.length = 16) (h8 : (at' l 5).toNat ≤ 8) (h : Zfh l 14) : Yi (Xz l) = true := by
 unfold Yi;rw [List.all_eq_true];intro c hc;obtain ⟨i, h1, h2, rfl⟩ := (Zct l hl h8 c).1 hc;simp [h i h1 h2]
theorem Zg0 (l : List UInt8) (j : Nat) (hl : l.length = 16) (h8 : (at' l 5).toNat ≤ 8) (h1 : 6 + (at' l 5).toNat ≤ j) (h2 : j < 14) (h : at' l j ≠ 0) : Yi (Xz l) = false := by
 unfold Yi;rw [List.all_eq_false];exact ⟨at' l j, (Zct l hl h8 _).2 ⟨j, h1, h2, rfl⟩, by simpa using h⟩
def Zaw (r : Rec) (d : Value) : Obj := .cells #[.int .i64 r.kind, .int .i64 r.key, .int .i64 r.ver, d] 32 (0, 0)
def Zje (w : World) (g : Nat) (r : Rec) (d : Value) (xs : List UInt8) (dn : Nat → Bool) (w' : World) : Prop :=
 Zm w w' ∧ w'.heap[w.heap.size]? = some (Zaw Rec.none (.slice none 0 0)) ∧ (dn 9 = false → w'.heap[g]? = some (Zaw r d)) ∧ (dn 7 = false → w'.ownsRow (w.heap.size + 1) 5 1 d xs.length (xs.map bv))
theorem Zje.grow {r : Rec} {xs : List UInt8} {dn : Nat → Bool} {w'' : World} (h : Zje w g r d xs dn w') (hg : Zm w' w'') : Zje w g r d xs dn w'' :=
 ⟨h.1.trans hg, (hg.block _ (Zg h.2.1)).trans h.2.1, fun h9 => (hg.block _ (Zg (h.2.2.1 h9))).trans (h.2.2.1 h9), fun h7 => Z9 (h.2.2.2 h7) hg⟩
def Zdn (d : Value) (x : UInt8) (v : Value) (w : World) : Prop := ∃ b0, v = .slice (some ⟨b0, 0, none⟩) 1 1 ∧ w.heap[b0]? = some (.cells #[bv x] 5 (0, 0)) ∧ ∀ q, d.ownBlock = some q → b0 ≠ q
theorem Zkh (d : Value) (x : UInt8) : X2 (Zdn d x) := by
 rintro v w w' hg ⟨b0, h1, h2, h3⟩;exact ⟨b0, h1, (hg.block _ (Zg h2)).trans h2, h3⟩
theorem Zd0 (hs : Xs 32 w w') (h : Zdn d x v w) : Zdn d x v w' := by
 rcases hs with rfl | ⟨g', c1, c2, hb, h5, h6, h7⟩
 ·exact h
 ·obtain ⟨b0, h1, h2, h3⟩ := h;refine ⟨b0, h1, (hb.block _ (Zg h2) ?_).trans h2, h3⟩;rintro rfl;rw [h5] at h2; cases h2
def Zfk (d : Value) (w w' : World) : Prop := w' = w ∨ w.grownBy w' d.ownBlock
theorem Zd1 (hs : Zfk d w w') (h : Zdn d x v w) : Zdn d x v w' := by
 rcases hs with rfl | hs
 ·exact h
 ·obtain ⟨b0, h1, h2, h3⟩ := h;exact ⟨b0, h1, (hs.block _ (Zg h2) (fun e => h3 b0 e.symm rfl)).trans h2, h3⟩
theorem Zh2 {e T : TypeId} {xs c f} (h : w.ownsRow base e 1 d n xs) (hne : e ≠ T) (hg : w.heap[g]? = some (.cells c T f)) : some g ≠ d.ownBlock := by
 rcases h.2 with ⟨rfl, _⟩ | ⟨q, cap, cur, rfl, _, hq, _⟩
 ·simp [Value.ownBlock]
 ·intro e1;simp [Value.ownBlock] at e1;subst e1;rw [hg] at hq; cases hq; exact hne rfl
theorem Zkj {e : TypeId} {xs} (h : w.ownsRow base e 1 d n xs) (k : Nat) (hk : d.ownBlock = some k) : base ≤ k := (h.lt k hk).1
theorem Zg2 (w : World) (B : Nat) (d : Value) (xs : List UInt8) (b0 : Nat) (x : UInt8) (ty : TypeId) (hown : w.ownsRow B 5 1 d xs.length (xs.map bv)) (hx : w.heap[b0]? = some (.cells #[bv x] 5 (0, 0))) (hm : xs.length < 140737488355328) (hB : B ≤ w.heap.size) :
  ∃ v' w', (Builtin.append_ #[22, 22] ty #[d, .slice (some ⟨b0, 0, none⟩) 1 1]).run Try.prog w = .ok v' w' ∧ w'.ownsRow B 5 1 v' (xs ++ [x]).length ((xs ++ [x]).map bv) ∧ w.grownBy w' d.ownBlock := by
 obtain ⟨i0, hif, hz0, hz1, hz2⟩ := info_parts Vi;obtain ⟨v', w', h1, h2, h3, _⟩ := run_append_own (P := Try.prog) w B 22 ty 5 i0 (.int .u8 0) 1 1 Try.underlying22 hif hz0 hz1 hz2 rfl (by decide) d xs.length (xs.map bv) hown ⟨b0, 0, none⟩ 1 1 [bv x] rfl
  (fun j u hj => by
   match j, hj with
   | 0, hj => simp at hj; subst hj; simp [Addr.add, World.cell?, hx]
   | j + 1, hj => simp at hj) (by intro u hu; simp at hu; subst hu; rfl) (by unfold maxLen; omega) (by omega) hB
 exact ⟨v', w', h1, by simpa using h2, h3⟩
theorem Zdc {P : Program} {w w2 : World} {o : Oper} {ev : Operand → Value} {v' : Value} (s x : Operand) (t : TypeId) (ho : o.op = .call { callee := .builtin .append, args := #[s, x], argTypes := #[t, t] }) (v u : Value) (hs : ev s = v) (hx : ev x = u)
  (hr : (Builtin.append_ #[t, t] o.type #[v, u]).run P w = .ok v' w2) : (execOp ev o).run P w = .ok (.value v') w2 := by
 unfold execOp;simp only [ho, resolve, invoke, builtin, Sem.run_bind, Sem.run_pure, Result.andThen_ok, List.map_toArray, List.map_cons, List.map_nil, hs, hx, hr]
def Zkx (B g : Nat) (r : Rec) (xs : List UInt8) (v : Value) (w : World) : Prop := w.heap[g]? = some (Zaw r v) ∧ w.ownsRow B 5 1 v xs.length (xs.map bv)
theorem Zkg (B g : Nat) (r : Rec) (xs : List UInt8) (i : Nat) : Kf (pl1 i (fun _ v w => Zkx B g r xs v w)) := by
 rintro v ds w w' hg ⟨h1, h2⟩;exact ⟨(hg.block _ (Zg h1)).trans h1, Z9 h2 hg⟩
def Zfj (w : World) (g : Nat) (l : List UInt8) (j : Nat) (wr : World) : Prop :=
 Zm w wr ∧ wr.heap[w.heap.size]? = some (Zaw Rec.none (.slice none 0 0)) ∧ Zfh l j ∧ ∃ d, wr.heap[g]? = some (Zaw (Z7 l) d) ∧ wr.ownsRow (w.heap.size + 1) 5 1 d (Yz l j).length ((Yz l j).map bv)
theorem Zd8 (l : List UInt8) (at_ : Int) (b off cap : Nat) (w : World) (hl : l.length = 16) (hcap : 16 ≤ cap) (hc : Q5 w b off l) (hs : Yp l = true) (hp : ((at' l 1).toNat : Int) = at_) (h8 : (at' l 5).toNat ≤ 8) :
  Calls Try.prog 32 #[.slice (some ⟨b, off, none⟩) 16 cap, .int .i64 at_] w (J2 w l at_) := by
 have HW : Hid (Yd l at_ = if Yi (Xz l) = false then 2 else 0) := by show Yd _ _ = _; unfold Yd; rw [if_neg (by omega), if_neg (by rw [hs]; simp), if_neg (by simpa using hp), if_neg (by omega)]
 have HS : Hid (Yp l = true) := hs;have d1 : (((at' l 1).toNat : Int) != at_) = false := by simp [hp]
 clear hs hp;have hB : Bytes w (.slice (some ⟨b, off, none⟩) 16 cap) l := .inr ⟨b, off, cap, by rw [hl], by omega, hc⟩;have HL : Hid (l.length = 16) := hl;clear hl;go_enter Try.func32, Try.ntmps32;go_wp2_with fail;refine (Q8 l _ _ (by rw [HL.out]; omega) (by exact Zw hB (Zh _ _))).mono ?_;rw [HS.out];rintro e w1 ⟨rfl, g1⟩;have gx : Zm w w1 := (Zh _ _).trans g1;have hbx : w1.heap[w.heap.size]? = some (.cells #[.int .i64 0, .int .i64 0, .int .i64 0, .slice none 0 0] 32 (0, 0)) := (g1.block _ (by simp)).trans (Zu _ _ _);have hc1 := hc.grow gx;have k1 := hc1.at' 1 (by rw [HL.out]; omega);have k5 := hc1.at' 5 (by rw [HL.out]; omega);have k0 := hc1.at' 0 (by rw [HL.out]; omega);rw [Nat.add_zero] at k0;have k2 := hc1.at' 2 (by rw [HL.out]; omega);have k3 := hc1.at' 3 (by rw [HL.out]; omega);have k4 := hc1.at' 4 (by rw [HL.out]; omega);have b0 : (at' l 0).toNat < 256 := UInt8.toNat_lt _;have b1 : (at' l 1).toNat < 256 := UInt8.toNat_lt _;have b2 : (at' l 2).toNat < 256 := UInt8.toNat_lt _;have b3 : (at' l 3).toNat < 256 := UInt8.toNat_lt _;have b4 : (at' l 4).toNat < 256 := UInt8.toNat_lt _;have hbs : w.heap.size < w1.heap.size := by have := g1.size; simp at this; omega
 have h8i : ((at' l 5).toNat : Int) ≤ 8 := by omega
 have hlt8 : ¬ (8 : Int) < ((at' l 5).toNat : Int) := by omega
 clear g1 hB;go_wp2_with fail;clear hlt8 k1
 refine Xn [px (.slice (some ⟨b, off, none⟩) 16 cap), px (.pointer (some ⟨b, off, none⟩)), px (.int .u8 ((at' l 0).toNat : Int)), px (.int .i64 ((at' l 0).toNat : Int)), px (.slice (some ⟨b, off, none⟩) 16 cap), px (.pointer (some ⟨b, off + 2, none⟩)), px (.int .u8 ((at' l 2).toNat : Int)), px (.int .i64 ((at' l 2).toNat : Int)), px (.slice (some ⟨b, off, none⟩) 16 cap), px (.pointer (some ⟨b, off + 3, none⟩)), px (.int .u8 ((at' l 3).toNat : Int)), px (.int .i64 ((at' l 3).toNat : Int)), px (.int .i64 (256 * ((at' l 3).toNat : Int))), px (.slice (some ⟨b, off, none⟩) 16 cap), px (.pointer (some ⟨b, off + 4, none⟩)), px (.int .u8 ((at' l 4).toNat : Int)), px (.int .i64 ((at' l 4).toNat : Int)), px (.int .i64 (((at' l 3).toNat : Int) * 256 + ((at' l 4).toNat : Int))), px (.agg #[.int .i64 (Z7 l).kind, .int .i64 (Z7 l).key, .int .i64 (Z7 l).ver, .slice none 0 0]), pl (Zcb 32 4 w1.heap.size), pl1 19 ((fun _ p w => Zdp w1.heap.size ⟨(Z7 l).kind, (Z7 l).key, (Z7 l).ver, []⟩ p w))] [none, none, none, none, none, none, none, none, none, none, none, none, none, none, none, none, none, none, none, none, some ((Xs 32))] (fun w' => Zm w1 w') (by kernel_rfl) (by kernel_rfl) ⟨se, se, se, se, se, se, se, se, se, se, se, se, se, se, se, se, se, se, se, X6 (Zhe _ _ _), Ze5 _ _ _, trivial⟩ ⟨⟨(fun w => .inl rfl), ⟨x5, x5, x5, x5, x5, x5, x5, x5, x5, x5, x5, x5, x5, x5, x5, x5, x5, x5, x5, .inr ((fun v _ w w' hs hq => Zhk _ _ _ v w w' hs hq)), .inl (by kernel_rfl), trivial⟩⟩, trivial⟩ ⟨n5, n5, n5, n5, n5, n5, n5, n5, n5, n5, n5, n5, n5, n5, n5, n5, n5, n5, n5, n5, fun _ _ _ _ h => h, trivial⟩ ?_ ?_ ?_
 ·exact (Zm.refl _).drew
 ·refine ⟨?_, ?_, ?_, ?_, ?_, ?_, ?_, ?_, ?_, ?_, ?_, ?_, ?_, ?_, ?_, ?_, ?_, ?_, ?_, ?_, ?_, trivial⟩
  ·exact Zl rfl fun a _ _ _ B A => Yf rfl B (Zz A 0 rfl)
  ·refine Zl rfl fun a _ _ _ B A => ?_;have e42 : a (.tmp 42) = _ := Zo A 0 rfl;refine Zv ?_ B rfl;clear A B;go_simp;all_goals go_arith
  ·refine Zl rfl fun a _ _ _ B A => ?_;have e43 : a (.tmp 43) = _ := Zo A 1 rfl;have h1 := (Below.cell B (Zn k0)).trans k0;refine Zv ?_ B rfl;clear A B;go_simp;all_goals go_arith
  ·refine Zl rfl fun a _ _ _ B A => ?_;have e44 : a (.tmp 44) = _ := Zo A 2 rfl;refine Zv ?_ B rfl;clear A B;go_simp;all_goals go_arith
  ·exact Zl rfl fun a _ _ _ B A => Yf rfl B (Zz A 0 rfl)
  ·refine Zl rfl fun a _ _ _ B A => ?_;have e46 : a (.tmp 46) = _ := Zo A 4 rfl;refine Zv ?_ B rfl;clear A B;go_simp;all_goals go_arith
  ·refine Zl rfl fun a _ _ _ B A => ?_;have e47 : a (.tmp 47) = _ := Zo A 5 rfl;have h1 := (Below.cell B (Zn k2)).trans k2;refine Zv ?_ B rfl;clear A B;go_simp;all_goals go_arith
  ·refine Zl rfl fun a _ _ _ B A => ?_;have e48 : a (.tmp 48) = _ := Zo A 6 rfl;refine Zv ?_ B rfl;clear A B;go_simp;all_goals go_arith
  ·exact Zl rfl fun a _ _ _ B A => Yf rfl B (Zz A 0 rfl)
  ·refine Zl rfl fun a _ _ _ B A => ?_;have e50 : a (.tmp 50) = _ := Zo A 8 rfl;refine Zv ?_ B rfl;clear A B;go_simp;all_goals go_arith
  ·refine Zl rfl fun a _ _ _ B A => ?_;have e51 : a (.tmp 51) = _ := Zo A 9 rfl;have h1 := (Below.cell B (Zn k3)).trans k3;refine Zv ?_ B rfl;clear A B;go_simp;all_goals go_arith
  ·refine Zl rfl fun a _ _ _ B A => ?_;have e52 : a (.tmp 52) = _ := Zo A 10 rfl;refine Zv ?_ B rfl;clear A B;go_simp;all_goals go_arith
  ·refine Zl rfl fun a _ _ _ B A => ?_;have e53 : a (.tmp 53) = _ := Zo A 11 rfl;refine Zv ?_ B rfl;clear A B;go_simp;all_goals go_arith
  ·exact Zl rfl fun a _ _ _ B A => Yf rfl B (Zz A 0 rfl)
  ·refine Zl rfl fun a _ _ _ B A => ?_;have e55 : a (.tmp 55) = _ := Zo A 13 rfl;refine Zv ?_ B rfl;clear A B;go_simp;all_goals go_arith
  ·refine Zl rfl fun a _ _ _ B A => ?_;have e56 : a (.tmp 56) = _ := Zo A 14 rfl;have h1 := (Below.cell B (Zn k4)).trans k4;refine Zv ?_ B rfl;clear A B;go_simp;all_goals go_arith
  ·refine Zl rfl fun a _ _ _ B A => ?_;have e57 : a (.tmp 57) = _ := Zo A 15 rfl;refine Zv ?_ B rfl;clear A B;go_simp;all_goals go_arith
  ·refine Zl rfl fun a _ _ _ B A => ?_;have e54 : a (.tmp 54) = _ := Zo A 12 rfl;have e58 : a (.tmp 58) = _ := Zo A 16 rfl;rw [Int.mul_comm] at e54;refine Zv ?_ B rfl;clear A B;go_simp;all_goals go_arith
  ·refine Zl rfl fun a _ _ _ B A => ?_;have e45 : a (.tmp 45) = _ := Zo A 3 rfl;have e49 : a (.tmp 49) = _ := Zo A 7 rfl;have e59 : a (.tmp 59) = _ := Zo A 17 rfl;refine Zv (v := .agg #[.int .i64 ((at' l 0).toNat : Int), .int .i64 ((at' l 2).toNat : Int), .int .i64 (((at' l 3).toNat : Int) * 256 + ((at' l 4).toNat : Int)), .slice none 0 0]) ?_ B rfl;clear A B;go_simp;all_goals go_arith
  ·refine Zl rfl fun a w' _ _ B A => ?_;refine Qz (v := .pointer (some ⟨w'.heap.size, 0, none⟩)) (w' := w'.alloc (.cells #[.int .i64 0, .int .i64 0, .int .i64 0, .slice none 0 0] 32)) ?_ (Zh _ _) (B.trans (Zh _ _)) ⟨_, _, rfl, B.size, Zu _ _ _, rfl⟩;clear A B;go_simp;all_goals go_arith
  ·refine Zl rfl fun a w' _ _ B A => ?_;have e7 : (Zcb 32 4 w1.heap.size) (a (.tmp 7)) w' := Zo A 19 rfl;have e60 : a (.tmp 60) = _ := Zo A 18 rfl;obtain ⟨g, c, h7, hgB, hh, hsz⟩ := e7;obtain ⟨x0, x1, x2, x3, rfl⟩ := Zld hsz;obtain ⟨hp1, hp2⟩ := Xi hh (.int .i64 (Z7 l).kind) (.int .i64 (Z7 l).key) (.int .i64 (Z7 l).ver) (.slice none 0 0);have hstep : Xs 32 w' _ := .inr ⟨g, _, _, hp2, hh, hp1, rfl⟩;refine Y6 (w' := _) ?_ hstep (Zt (Zt (Zt (Zt B (by exact hgB) _) (by exact hgB) _) (by exact hgB) _) (by exact hgB) _) ⟨g, _, h7, hgB, hp1, World.ownsRow_nil _ _ _ _⟩;have y0 := Zk hh 0 x0 rfl;have y1 := Zk hh 1 x1 rfl;have y2 := Zk hh 2 x2 rfl;have y3 := Zk hh 3 x3 rfl;obtain ⟨f0, f1, f2, f3⟩ := Xc hh;have cs := Z6;clear A B hp1 hp2 hstep hh;generalize Z7 l = rr at *;go_simp;all_goals go_arith
 ·intro vs w' hg ht;obtain ⟨q42, q43, q44, q45, q46, q47, q48, q49, q50, q51, q52, q53, q54, q55, q56, q57, q58, q59, q60, q7, qo20, -⟩ := ht;have r42 : vs 0 = _ := q42;have r43 : vs 1 = _ := q43;have r44 : vs 2 = _ := q44;have r45 : vs 3 = _ := q45;have r46 : vs 4 = _ := q46;have r47 : vs 5 = _ := q47;have r48 : vs 6 = _ := q48;have r49 : vs 7 = _ := q49;have r50 : vs 8 = _ := q50;have r51 : vs 9 = _ := q51;have r52 : vs 10 = _ := q52;have r53 : vs 11 = _ := q53;have r54 : vs 12 = _ := q54;have r55 : vs 13 = _ := q55;have r56 : vs 14 = _ := q56;have r57 : vs 15 = _ := q57;have r58 : vs 16 = _ := q58;have r59 : vs 17 = _ := q59;have r60 : vs 18 = _ := q60;replace q7 : (Zcb 32 4 w1.heap.size) (vs 19) w' := q7;replace qo20 : ((fun _ p w => Zdp w1.heap.size ⟨(Z7 l).kind, (Z7 l).key, (Z7 l).ver, []⟩ p w)) (vs 20) (vs 19) w' := qo20;clear q42 q43 q44 q45 q46 q47 q48 q49 q50 q51 q52 q53 q54 q55 q56 q57 q58 q59 q60;simp only [Z3, Act.put, List.setIfInBounds_toArray, List.set_cons_zero, List.set_cons_succ, Nat.reduceAdd, r42, r43, r44, r45, r46, r47, r48, r49, r50, r51, r52, r53, r54, r55, r56, r57, r58, r59, r60];clear r42 r43 r44 r45 r46 r47 r48 r49 r50 r51 r52 r53 r54 r55 r56 r57 r58 r59 r60;obtain ⟨g, d, h7, hgB, hh, hown⟩ := qo20;rw [h7];have hz : w.heap.size < g := by omega
  have gw' := gx.trans hg;have hbx' : w'.heap[w.heap.size]? = some (Zaw Rec.none (.slice none 0 0)) := (hg.block _ (Zg hbx)).trans hbx;have hstart : Zfj w g l 6 w' := ⟨gw', hbx', fun i h1 h2 => by omega, d, hh, Z8 (by simpa [Yz] using hown) (by omega)⟩;clear q7 hg hbx gx k0 k2 k3 k4 k5 hc1 h7 b0 b1 b2 b3 b4 hbx' gw' hh hown;clear hgB;go_wp2_with fail;go_loopw [8] (fun i wr => ∃ j : Nat, 6 ≤ j ∧ j ≤ 14 ∧ i = .int .i64 j ∧ Zfj w g l j wr) (fun i _ => 14 - (intOf i).toNat)
  case atStart => exact ⟨6, by omega, by omega, rfl, hstart⟩
  case round =>
   obtain ⟨j, hj6, hj14, rfl, hgr, hbr, hcl, d, hh, hown⟩ := hrel;by_cases hlt : j < 14
   ·have hcr := hc.grow hgr;have k5 := hcr.at' 5 (by rw [HL.out]; omega);have kj := hcr.at' j (by rw [HL.out]; omega);have bj : (at' l j).toNat < 256 := UInt8.toNat_lt _;by_cases hin : j < 6 + (at' l 5).toNat
    ·obtain ⟨ao', cp', rfl⟩ := Yg hown;have hdl : (Yz l j).length ≤ 8 := by rw [Zeq l j HL.out h8]; omega
     go_wp2_with fail;refine Ql [px (.pointer (some ⟨g, 3, none⟩)), px (.slice ao' (Yz l j).length cp'), px (.slice (some ⟨b, off, none⟩) 16 cap), px (.int .i64 j), px (.pointer (some ⟨b, off + j, none⟩)), px (.int .u8 ((at' l j).toNat : Int)), pl (Zdn (.slice ao' (Yz l j).length cp') (at' l j)), pl (Zb8 (w.heap.size + 1) (Yz l j ++ [at' l j])), px (.pointer (some ⟨g, 3, none⟩)), pl1 7 ((fun _ v w' => Zkx (w.heap.size + 1) g (Z7 l) (Yz l j ++ [at' l j]) v w'))] [none, none, none, none, none, none, none, some ((Zfk (.slice ao' (Yz l j).length cp'))), none, some ((Xs 32))] (Zje w g (Z7 l) (.slice ao' (Yz l j).length cp') (Yz l j)) (by kernel_rfl) (by kernel_rfl) ⟨se, se, se, se, se, se, X6 (Zkh _ _), X6 (Zha _ _), se, Zkg _ _ _ _ _, trivial⟩ ⟨⟨(fun w => .inl rfl), ⟨x5, x5, x5, x5, x5, x5, .inr ((fun v _ w w' hs hq => Zd1 hs hq)), .inl (by kernel_rfl), .inl (by kernel_rfl), .inl (by kernel_rfl), trivial⟩⟩, ⟨(fun w => .inl rfl), ⟨x5, x5, x5, x5, x5, x5, .inr ((fun v _ w w' hs hq => Zd0 hs hq)), .inr ((fun v _ w w' hs hq => Zhi _ _ v w w' hs hq)), x5, .inl (by kernel_rfl), trivial⟩⟩, trivial⟩ ⟨n5, n5, n5, n5, n5, n5, n5, n5, n5, fun _ _ _ _ h => h, trivial⟩ ⟨hgr.drew, hbr, fun _ => hh, fun _ => hown⟩ ?_ ?_
     ·refine ⟨?_, ?_, ?_, ?_, ?_, ?_, ?_, ?_, ?_, ?_, trivial⟩
      ·refine Zq rfl fun a _ _ _ _ _ B A => ?_;have e7 : a (.tmp 7) = .pointer (some ⟨g, 0, none⟩) := Zz A 7 rfl;refine Zv ?_ B rfl;clear A B;go_simp;all_goals go_arith
      ·refine Zq rfl fun a _ _ _ _ C B A => ?_;have e72 : a (.tmp 72) = _ := Zo A 0 rfl;have n7 := C.not1 7 (by kernel_rfl);have n9 := C.notBy 9 7 n7 (by kernel_rfl);have y3 := Zk (B.2.2.1 n9) 3 _ rfl;refine Zv ?_ B rfl;clear A B C;go_simp;all_goals go_arith
      ·exact Zq rfl fun a _ _ _ _ _ B A => Yf rfl B (Zz A 0 rfl)
      ·exact Zq rfl fun a _ _ _ _ _ B A => Yf rfl B (Zz A 8 rfl)
      ·refine Zq rfl fun a _ _ _ _ _ B A => ?_;have e74 : a (.tmp 74) = _ := Zo A 2 rfl;have e75 : a (.tmp 75) = _ := Zo A 3 rfl;refine Zv ?_ B rfl;clear A B;go_simp;all_goals go_arith
      ·refine Zq rfl fun a _ _ _ _ C B A => ?_;have e76 : a (.tmp 76) = _ := Zo A 4 rfl;have h1 := (hc.grow B.1).at' j (by rw [HL.out]; omega);refine Zv ?_ B rfl;clear A B C;go_simp;all_goals go_arith
      ·refine Zq rfl fun a w' _ _ _ C B A => ?_;have e77 : a (.tmp 77) = _ := Zo A 5 rfl;have n7 := C.not1 7 (by kernel_rfl);refine Qz (v := .slice (some ⟨w'.heap.size, 0, none⟩) 1 1) (w' := w'.alloc (.cells #[.int .u8 ((at' l j).toNat : Int)] 5)) ?_ (Zh _ _) (Zje.grow B (Zh _ _)) ⟨_, rfl, Zu _ _ _, fun q hq => by have := ((B.2.2.2 n7).lt q hq).2; omega⟩;clear A B C;go_simp;all_goals go_arith
      ·refine Zq rfl fun a w' _ _ _ C B A => ?_;have e73 : a (.tmp 73) = _ := Zo A 1 rfl;have e78 : (Zdn (.slice ao' (Yz l j).length cp') (at' l j)) (a (.tmp 78)) w' := Zo A 6 rfl;obtain ⟨b0, hb1, hb2, hb3⟩ := e78;have ho7 := B.2.2.2 C.un;obtain ⟨v', w2, hrun, ho2, hg2⟩ := Zg2 w' (w.heap.size + 1) _ (Yz l j) b0 (at' l j) 22 ho7 hb2 (by omega) (by have := Zg B.2.1; omega);have hgrow : Zm w w2 := Z1 B.1 hg2 (fun k hk => by have := Zkj ho7 k hk; omega);have hbx2 : w2.heap[w.heap.size]? = some (Zaw Rec.none (.slice none 0 0)) := (hg2.block _ (Zg B.2.1) (Zh2 ho7 (by decide) B.2.1)).trans B.2.1;refine Qz (v := v') (w' := w2) ?_ (.inr hg2) ⟨hgrow, hbx2, fun h9 => ?_, fun h => by simp [upd] at h⟩ ho2
       ·exact Zdc (.tmp 73) (.tmp 78) 22 rfl _ _ e73 hb1 hrun
       ·have h9' := B.2.2.1 h9;exact (hg2.block _ (Zg h9') (Zh2 ho7 (by decide) h9')).trans h9'
      ·refine Zq rfl fun a _ _ _ _ _ B A => ?_;have e7 : a (.tmp 7) = .pointer (some ⟨g, 0, none⟩) := Zz A 7 rfl;refine Zv ?_ B rfl;clear A B;go_simp;all_goals go_arith
      ·refine Zq rfl fun a w' _ _ D C B A => ?_;have e80 : a (.tmp 80) = _ := Zo A 8 rfl;have e79 : (Zb8 (w.heap.size + 1) (Yz l j ++ [at' l j])) (a (.tmp 79)) w' := Zo A 7 rfl;obtain ⟨ao2, cp2, h79⟩ := Yg e79;have hh9 := B.2.2.1 C.un;have y3 := Zk hh9 3 _ rfl;have f3 := Z0 hh9 3;have hp1 := Yj hh9 3 (a (.tmp 79));have hstep : Xs 32 w' (w'.setCell ⟨g, 3, none⟩ (a (.tmp 79))) := .inr ⟨g, _, _, (Zs.refl _ _).set _ _ _, hh9, hp1, by simp⟩;refine Y6 (w' := w'.setCell ⟨g, 3, none⟩ (a (.tmp 79))) ?_ hstep ⟨Zt B.1 (by show w.heap.size ≤ g; omega) _, ?_, fun h => by simp [upd] at h, fun h => ?_⟩ ⟨hp1, Vo (by decide) hstep e79⟩
       ·clear A B hh9 hp1 hstep e79 C;go_simp;all_goals go_arith
       ·rw [Below.heap_setCell _ _ _ _ (by show w.heap.size ≠ g; omega)]; exact B.2.1
       ·have := C.rd 7 (by kernel_rfl);have h' : D 7 = false := h;rw [this] at h'; cases h'
     ·intro vs w' dn hdn hg ht;obtain ⟨q72, q73, q74, q75, q76, q77, q78, q79, q80, qo9, -⟩ := ht;have r72 : vs 0 = _ := q72;have r73 : vs 1 = _ := q73;have r74 : vs 2 = _ := q74;have r75 : vs 3 = _ := q75;have r76 : vs 4 = _ := q76;have r77 : vs 5 = _ := q77;replace q78 : (Zdn (.slice ao' (Yz l j).length cp') (at' l j)) (vs 6) w' := q78;replace q79 : (Zb8 (w.heap.size + 1) (Yz l j ++ [at' l j])) (vs 7) w' := q79;have r80 : vs 8 = _ := q80;replace qo9 : ((fun _ v w' => Zkx (w.heap.size + 1) g (Z7 l) (Yz l j ++ [at' l j]) v w')) (vs 9) (vs 7) w' := qo9;clear q72 q73 q74 q75 q76 q77 q80;simp only [Z3, Act.put, List.setIfInBounds_toArray, List.set_cons_zero, List.set_cons_succ, Nat.reduceAdd, r72, r73, r74, r75, r76, r77, r80];clear r72 r73 r74 r75 r76 r77 r80;obtain ⟨hp1, hp2⟩ := qo9;rw [← Zdi l j HL.out hj6 hin h8] at hp2;have hL : Zfj w g l (j + 1) w' := ⟨hg.1, hg.2.1, fun i h1 h2 => by omega, _, hp1, hp2⟩;clear hp1 hp2 hg q78 q79 hdn;generalize vs 6 = u6;generalize vs 7 = u7;go_wp2;go_roundw
      case rel => exact ⟨j + 1, by omega, by omega, by go_num, hL⟩
      case measure => simp [intOf]; omega
    ·have HK : Hid (6 + (at' l 5).toNat ≤ j) := by show _ ≤ _; omega
     by_cases h0 : at' l j = 0
     ·have d0 : (((at' l j).toNat : Int) != 0) = false := by simp [h0]
      have hL : Zfj w g l (j + 1) wr := ⟨hgr, hbr, fun i h1 h2 => by
       by_cases e : i = j
       ·subst e; exact h0
       ·exact hcl i h1 (by omega), d, hh, by rw [Zdj l j HK.out]; exact hown⟩
      clear h0;go_wp2;go_roundw
      case rel => exact ⟨j + 1, by omega, by omega, by go_num, hL⟩
      case measure => simp [intOf]; omega
     ·have hne : (at' l j).toNat ≠ 0 := fun e => h0 (UInt8.toNat_inj.1 e)
      have d0 : (((at' l j).toNat : Int) != 0) = true := by simp [hne]
      have HE : Hid (Y0 l at_ = 2) := Qw (by rw [HW.out, if_pos (Zg0 l j HL.out h8 HK.out hlt h0)]) (by omega);have hbx := hbr;have gx := hgr;clear h0 hne hcl hown hh hgr hbr;go_wp2_with fail;refine (Jo _ _).mono ?_;rintro e w9 ⟨rfl, g9⟩;have hb9 := (g9.block _ (Zg hbx)).trans hbx;have gz := gx.trans g9;obtain ⟨z0, z1, z2, z3⟩ := Xm hb9 rfl rfl rfl rfl;obtain ⟨f0, f1, f2, f3⟩ := Xc hb9;have cs := Z6;clear g9 hb9 hbx gx;go_wp2_with fail;refine bodyPost_ret (v := .tuple #[.agg #[.int .i64 0, .int .i64 0, .int .i64 0, .slice none 0 0], .int .i64 _]) (by simp [results, Try.results32, go_sem, z0, z1, z2, z3, cs]) rfl (Vg HE.out (by omega) ?_);exact Zt (Zt (Zt (Zt gz (by simp) _) (by simp) _) (by simp) _) (by simp) _
   ·have ej : j = 14 := by omega
    subst ej;have HE0 : Hid (Yd l at_ = 0) := by show Yd _ _ = 0; rw [HW.out, if_neg (by rw [Zet l HL.out h8 hcl]; simp)]
    have HE1 : Hid (Y0 l at_ = Z2 (Z7 l)) := by show Y0 _ _ = _; unfold Y0; rw [if_pos HE0.out]
    rw [Zdk l h8] at hown;obtain ⟨ao', cp', rfl⟩ := Yg hown;obtain ⟨y0, y1, y2, y3⟩ := Xm hh rfl rfl rfl rfl;clear hcl hc;go_wp2_with fail;refine (Xo _ _ _ (Z7 l).data _ _ (X9 hown)).mono ?_;rintro e w2 ⟨rfl, g2⟩;have hh2 := (g2.block _ (Zg hh)).trans hh;have hbx := (g2.block _ (Zg hbr)).trans hbr;have hown2 := Z9 hown g2;have gx := hgr.trans g2;clear y0 y1 y2 y3 hown hgr hbr hh g2;by_cases hw0 : Z2 (Z7 l) = 0
    ·have HQ : Hid (Ye l at_ = Z7 l) := by show Ye _ _ = _; unfold Ye; rw [HE1.out, if_pos hw0]
     have HW0 : Hid (Z2 (Z7 l) = 0) := hw0;have d0 : (Z2 (Z7 l) != 0) = false := by rw [hw0]; rfl
     clear hw0;obtain ⟨y0, y1, y2, y3⟩ := Xm hh2 rfl rfl rfl rfl;obtain ⟨z0, z1, z2, z3⟩ := Xm hbx rfl rfl rfl rfl;obtain ⟨f0, f1, f2, f3⟩ := Xc hbx;have cs := Z6;clear hbx hh2;go_wp2_with fail;refine bodyPost_ret (v := .tuple #[.agg #[.int .i64 (Z7 l).kind, .int .i64 (Z7 l).key, .int .i64 (Z7 l).ver, .slice ao' (Z7 l).data.length cp'], .int .i64 0]) (by simp [results, Try.results32, go_sem, z0, z1, z2, z3, cs]) rfl ⟨.slice ao' (Z7 l).data.length cp', ?_, ?_, ?_⟩
     ·rw [HQ.out, HE1.out, HW0.out]
     ·rw [HQ.out];exact Z8 (Xa (Xa (Xa (Xa hown2 (by simp) _) (by simp) _) (by simp) _) (by simp) _) (by omega)
     ·exact Zt (Zt (Zt (Zt gx (by simp) _) (by simp) _) (by simp) _) (by simp) _
    ·have d0 : (Z2 (Z7 l) != 0) = true := by simpa using hw0
     have HE : Hid (Y0 l at_ = Z2 (Z7 l)) := HE1;have HN : Hid (Z2 (Z7 l) ≠ 0) := hw0;clear hh2 hown2 hw0;go_wp2_with fail;refine (Jo _ _).mono ?_;rintro e w9 ⟨rfl, g9⟩;have hb9 := (g9.block _ (Zg hbx)).trans hbx;have gz := gx.trans g9;obtain ⟨z0, z1, z2, z3⟩ := Xm hb9 rfl rfl rfl rfl;obtain ⟨f0, f1, f2, f3⟩ := Xc hb9;have cs := Z6;clear g9 hb9 hbx gx;go_wp2_with fail;refine bodyPost_ret (v := .tuple #[.agg #[.int .i64 0, .int .i64 0, .int .i64 0, .slice none 0 0], .int .i64 (Z2 (Z7 l))]) (by simp [results, Try.results32, go_sem, z0, z1, z2, z3, cs]) rfl (Vg HE.out HN.out ?_);exact Zt (Zt (Zt (Zt gz (by simp) _) (by simp) _) (by simp) _) (by simp) _
theorem Za8 (l : List UInt8) (at_ : Int) (v : Value) (w : World) (h : Bytes w v l) : Calls Try.prog 32 #[v, .int .i64 at_] w (J2 w l at_) := by
 by_cases hl : l.length = 16
 ·rcases h with ⟨ao, cap, rfl, rfl, _⟩ | ⟨b, off, cap, rfl, h1, hc⟩
  ·simp at hl
  ·rw [show (Value.slice (some ⟨b, off, none⟩) l.length cap) = .slice (some ⟨b, off, none⟩) 16 cap from by rw [hl]];cases hs : Yp l with
   | false => exact Zfy l at_ b off cap w hl (by omega) hc hs
   | true =>
    by_cases hp : ((at' l 1).toNat : Int) = at_
    ·by_cases h8 : 8 < (at' l 5).toNat
     ·exact Zd7 l at_ b off cap w hl (by omega) hc hs hp h8
     ·exact Zd8 l at_ b off cap w hl (by omega) hc hs hp (by omega)
    ·exact Zcs l at_ b off cap w hl (by omega) hc hs hp
 ·obtain ⟨ao, cap, rfl, -, -⟩ := Yn h;exact Zd6 l at_ ao cap w hl
end Go.Proofs.Ytpdnapbchcdhlaa
