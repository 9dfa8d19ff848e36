import Derived.Test.YtpdnapbchcdhlacGreatBRead
set_option maxHeartbeats 8000000
namespace Go.Proofs.YtpdnapbchcdhlacGreat
set_option maxRecDepth 100000
open Go.RowKit
open Plain Reg
variable {at_ : Int} {base g n : Nat} {d v : Value} {l : List UInt8} {w w' : World} {x : UInt8}
theorem Zd9 (e : Int) (w : World) :
  Calls Tryz.prog 118 #[.int .i64 e] w fun x w' => x = .returned (.tuple #[.agg #[.int .i64 0, .int .i64 0, .int .i64 0, .slice none 0 0], .int .i64 e]) ∧ Zn w w' := by
 go_enter Tryz.func118, Tryz.ntmps118;go_wp2;exact bodyPost_ret (v := .tuple #[.agg #[.int .i64 0, .int .i64 0, .int .i64 0, .slice none 0 0], .int .i64 e]) (by simp [results, Tryz.results118, go_sem]) rfl ⟨rfl, Zb _ _⟩
def Ze0 (w : World) (l : List UInt8) (at_ : Int) (e : Ending) (w' : World) : Prop :=
 ∃ d, e = .returned (.tuple #[.agg #[.int .i64 (Y3 l at_).kind, .int .i64 (Y3 l at_).key, .int .i64 (Y3 l at_).ver, d], .int .i64 (X3 l at_)]) ∧ w'.ownsRow w.heap.size 5 1 d (Y3 l at_).data.length ((Y3 l at_).data.map bv) ∧ Zn w w'
theorem Zah {e : Int} (h : X3 l at_ = e) (h0 : e ≠ 0) (hg : Zn w w') : Ze0 w l at_ (.returned (.tuple #[.agg #[.int .i64 0, .int .i64 0, .int .i64 0, .slice none 0 0], .int .i64 e])) w' := by
 have hr : Y3 l at_ = Rec.none := by unfold Y3; rw [h, if_neg h0]
 unfold Ze0;rw [hr, h];exact ⟨_, rfl, World.ownsRow_nil _ _ _ _, hg⟩
theorem Zmn (l : List UInt8) (at_ : Int) (ao : Option Addr) (cap : Nat) (w : World) (hl : l.length ≠ 16) :
  Calls Tryz.prog 84 #[.slice ao l.length cap, .int .i64 at_] w (Ze0 w l at_) := by
 have HE : Hid (X3 l at_ = 2) := by
  have : spoilt l at_ = 2 := by unfold spoilt; rw [if_pos hl]
  show X3 _ _ = 2; unfold X3; rw [this]; rfl
 have d : ((l.length : Int) != 16) = true := by simp; omega
 have hbx := Zg w #[.int .i64 0, .int .i64 0, .int .i64 0, .slice none 0 0] 61;have gx := Zb w (.cells #[.int .i64 0, .int .i64 0, .int .i64 0, .slice none 0 0] 61);go_enter Tryz.func84, Tryz.ntmps84;go_wp2_with fail;refine (Zd9 _ _).mono ?_;rintro e w9 ⟨rfl, g9⟩;have hb9 := (g9.block _ (Za hbx)).trans hbx;have gz := gx.trans g9;obtain ⟨z0, z1, z2, z3⟩ := Z4 hb9 rfl rfl rfl rfl;obtain ⟨f0, f1, f2, f3⟩ := Yr hb9;have cs := Zr;clear g9 hb9 hbx gx;go_wp2_with fail;refine bodyPost_ret (v := .tuple #[.agg #[.int .i64 0, .int .i64 0, .int .i64 0, .slice none 0 0], .int .i64 _]) (by simp [results, Tryz.results84, go_sem, z0, z1, z2, z3, cs]) rfl (Zah HE.out (by omega) ?_);exact Zx (Zx (Zx (Zx gz (by simp) _) (by simp) _) (by simp) _) (by simp) _
theorem K7 {e : Int} (h : spoilt l at_ = e) (h0 : e ≠ 0) : X3 l at_ = e := by unfold X3; rw [h, if_neg h0]
theorem Zps (l : List UInt8) (at_ : Int) (b off cap : Nat) (w : World) (hl : l.length = 16) (hcap : 16 ≤ cap) (hc : Jr w b off l) (hs : Xi l = false) :
  Calls Tryz.prog 84 #[.slice (some ⟨b, off, none⟩) 16 cap, .int .i64 at_] w (Ze0 w l at_) := by
 have HE : Hid (X3 l at_ = 7) := K7 (by unfold spoilt; rw [if_neg (by omega), if_pos hs]) (by omega);have HS : Hid (Xi l = false) := hs;clear hs;have hB : Bytes w (.slice (some ⟨b, off, none⟩) 16 cap) l := .inr ⟨b, off, cap, by rw [hl], by omega, hc⟩;have HL : Hid (l.length = 16) := hl;clear hl;go_enter Tryz.func84, Tryz.ntmps84;go_wp2_with fail;refine (Jw l _ _ (by rw [HL.out]; omega) (by exact Z1 hB (Zb _ _))).mono ?_;rw [HS.out];rintro e w1 ⟨rfl, g1⟩;have gx : Zn w w1 := (Zb _ _).trans g1;have hbx : w1.heap[w.heap.size]? = some (.cells #[.int .i64 0, .int .i64 0, .int .i64 0, .slice none 0 0] 61 (0, 0)) := (g1.block _ (by simp)).trans (Zg _ _ _);have hc1 := hc.grow gx;clear g1 hc1 hc hB;go_wp2_with fail;refine (Zd9 _ _).mono ?_;rintro e w9 ⟨rfl, g9⟩;have hb9 := (g9.block _ (Za hbx)).trans hbx;have gz := gx.trans g9;obtain ⟨z0, z1, z2, z3⟩ := Z4 hb9 rfl rfl rfl rfl;obtain ⟨f0, f1, f2, f3⟩ := Yr hb9;have cs := Zr;clear g9 hb9 hbx gx;go_wp2_with fail;refine bodyPost_ret (v := .tuple #[.agg #[.int .i64 0, .int .i64 0, .int .i64 0, .slice none 0 0], .int .i64 _]) (by simp [results, Tryz.results84, go_sem, z0, z1, z2, z3, cs]) rfl (Zah HE.out (by omega) ?_);exact Zx (Zx (Zx (Zx gz (by simp) _) (by simp) _) (by simp) _) (by simp) _
theorem Zj7 (l : List UInt8) (at_ : Int) (b off cap : Nat) (w : World) (hl : l.length = 16) (hcap : 16 ≤ cap) (hc : Jr w b off l) (hs : Xi l = true) (hp : ((at' l 1).toNat : Int) ≠ at_) :
  Calls Tryz.prog 84 #[.slice (some ⟨b, off, none⟩) 16 cap, .int .i64 at_] w (Ze0 w l at_) := by
 have HE : Hid (X3 l at_ = 8) := K7 (by unfold spoilt; rw [if_neg (by omega), if_neg (by rw [hs]; simp), if_pos hp]) (by omega);have HS : Hid (Xi l = true) := hs;have d1 : (((at' l 1).toNat : Int) != at_) = true := by simp [hp]
 clear hs hp;have hB : Bytes w (.slice (some ⟨b, off, none⟩) 16 cap) l := .inr ⟨b, off, cap, by rw [hl], by omega, hc⟩;have HL : Hid (l.length = 16) := hl;clear hl;go_enter Tryz.func84, Tryz.ntmps84;go_wp2_with fail;refine (Jw l _ _ (by rw [HL.out]; omega) (by exact Z1 hB (Zb _ _))).mono ?_;rw [HS.out];rintro e w1 ⟨rfl, g1⟩;have gx : Zn w w1 := (Zb _ _).trans g1;have hbx : w1.heap[w.heap.size]? = some (.cells #[.int .i64 0, .int .i64 0, .int .i64 0, .slice none 0 0] 61 (0, 0)) := (g1.block _ (by simp)).trans (Zg _ _ _);have hc1 := hc.grow gx;have h1 := hc1.at' 1 (by rw [HL.out]; omega);have b1 : (at' l 1).toNat < 256 := UInt8.toNat_lt _;clear g1 hc1 hc hB;generalize (at' l 1).toNat = x1 at *;go_wp2_with fail;refine (Zd9 _ _).mono ?_;rintro e w9 ⟨rfl, g9⟩;have hb9 := (g9.block _ (Za hbx)).trans hbx;have gz := gx.trans g9;obtain ⟨z0, z1, z2, z3⟩ := Z4 hb9 rfl rfl rfl rfl;obtain ⟨f0, f1, f2, f3⟩ := Yr hb9;have cs := Zr;clear g9 hb9 hbx gx;go_wp2_with fail;refine bodyPost_ret (v := .tuple #[.agg #[.int .i64 0, .int .i64 0, .int .i64 0, .slice none 0 0], .int .i64 _]) (by simp [results, Tryz.results84, go_sem, z0, z1, z2, z3, cs]) rfl (Zah HE.out (by omega) ?_);exact Zx (Zx (Zx (Zx gz (by simp) _) (by simp) _) (by simp) _) (by simp) _
theorem Zmo (l : List UInt8) (at_ : Int) (b off cap : Nat) (w : World) (hl : l.length = 16) (hcap : 16 ≤ cap) (hc : Jr w b off l) (hs : Xi l = true) (hp : ((at' l 1).toNat : Int) = at_) (h8 : 8 < (at' l 5).toNat) :
  Calls Tryz.prog 84 #[.slice (some ⟨b, off, none⟩) 16 cap, .int .i64 at_] w (Ze0 w l at_) := by
 have HE : Hid (X3 l at_ = 4) := K7 (by unfold spoilt; rw [if_neg (by omega), if_neg (by rw [hs]; simp), if_neg (by simpa using hp), if_pos h8]) (by omega);have HS : Hid (Xi l = true) := hs;have d1 : (((at' l 1).toNat : Int) != at_) = false := by simp [hp]
 clear hs hp;have hB : Bytes w (.slice (some ⟨b, off, none⟩) 16 cap) l := .inr ⟨b, off, cap, by rw [hl], by omega, hc⟩;have HL : Hid (l.length = 16) := hl;clear hl;go_enter Tryz.func84, Tryz.ntmps84;go_wp2_with fail;refine (Jw l _ _ (by rw [HL.out]; omega) (by exact Z1 hB (Zb _ _))).mono ?_;rw [HS.out];rintro e w1 ⟨rfl, g1⟩;have gx : Zn w w1 := (Zb _ _).trans g1;have hbx : w1.heap[w.heap.size]? = some (.cells #[.int .i64 0, .int .i64 0, .int .i64 0, .slice none 0 0] 61 (0, 0)) := (g1.block _ (by simp)).trans (Zg _ _ _);have hc1 := hc.grow gx;have h1 := hc1.at' 1 (by rw [HL.out]; omega);have h5 := hc1.at' 5 (by rw [HL.out]; omega);have b1 : (at' l 1).toNat < 256 := UInt8.toNat_lt _;have b5 : (at' l 5).toNat < 256 := UInt8.toNat_lt _;clear g1 hc1 hc hB;generalize (at' l 1).toNat = x1 at *;generalize (at' l 5).toNat = x5 at *;go_wp2_with fail;refine (Zd9 _ _).mono ?_;rintro e w9 ⟨rfl, g9⟩;have hb9 := (g9.block _ (Za hbx)).trans hbx;have gz := gx.trans g9;obtain ⟨z0, z1, z2, z3⟩ := Z4 hb9 rfl rfl rfl rfl;obtain ⟨f0, f1, f2, f3⟩ := Yr hb9;have cs := Zr;clear g9 hb9 hbx gx;go_wp2_with fail;refine bodyPost_ret (v := .tuple #[.agg #[.int .i64 0, .int .i64 0, .int .i64 0, .slice none 0 0], .int .i64 _]) (by simp [results, Tryz.results84, go_sem, z0, z1, z2, z3, cs]) rfl (Zah HE.out (by omega) ?_);exact Zx (Zx (Zx (Zx gz (by simp) _) (by simp) _) (by simp) _) (by simp) _
def Qf (l : List UInt8) (j : Nat) : List UInt8 := (l.drop 6).take (min (j - 6) (at' l 5).toNat)
def Zo7 (l : List UInt8) (j : Nat) : Prop := ∀ i, 6 + (at' l 5).toNat ≤ i → i < j → at' l i = 0
theorem Zt7 (l : List UInt8) (i : Nat) (h : i < l.length) : at' l i = l[i] := by unfold at'; rw [List.getD_eq_getElem?_getD, List.getElem?_eq_getElem h]; rfl
theorem Zlh (l : List UInt8) (j : Nat) (hl : l.length = 16) (h6 : 6 ≤ j) (hj : j < 6 + (at' l 5).toNat) (h8 : (at' l 5).toNat ≤ 8) : Qf l (j + 1) = Qf l j ++ [at' l j] := by
 unfold Qf;rw [show min (j + 1 - 6) (at' l 5).toNat = (j - 6) + 1 from by omega, show min (j - 6) (at' l 5).toNat = j - 6 from by omega, List.take_succ_eq_append_getElem (by simp; omega)]
 congr 2
 rw [Zt7 l j (by omega), List.getElem_drop]
 congr 1
 omega
theorem Zli (l : List UInt8) (j : Nat) (hj : 6 + (at' l 5).toNat ≤ j) : Qf l (j + 1) = Qf l j := by
 unfold Qf;rw [show min (j + 1 - 6) (at' l 5).toNat = (at' l 5).toNat from by omega, show min (j - 6) (at' l 5).toNat = (at' l 5).toNat from by omega]
theorem Znw (l : List UInt8) (j : Nat) (hl : l.length = 16) (h8 : (at' l 5).toNat ≤ 8) : (Qf l j).length = min (j - 6) (at' l 5).toNat := by
 unfold Qf; simp; omega
theorem Zlj (l : List UInt8) (h8 : (at' l 5).toNat ≤ 8) : Qf l 14 = (Yz l).data := by
 unfold Qf Yz;rw [show min (14 - 6) (at' l 5).toNat = (at' l 5).toNat from by omega]
theorem Zkb (l : List UInt8) (hl : l.length = 16) (h8 : (at' l 5).toNat ≤ 8) (c : UInt8) : c ∈ Ve l ↔ ∃ i, 6 + (at' l 5).toNat ≤ i ∧ i < 14 ∧ at' l i = c := by
 unfold Ve;rw [List.mem_iff_getElem];constructor
 ·rintro ⟨i, hi, rfl⟩;simp only [List.length_take, List.length_drop] at hi;refine ⟨6 + (at' l 5).toNat + i, by omega, by omega, ?_⟩;rw [Zt7 l _ (by omega)];simp
 ·rintro ⟨i, h1, h2, rfl⟩;refine ⟨i - (6 + (at' l 5).toNat), by simp; omega, ?_⟩;rw [Zt7 l i (by omega), List.getElem_take, List.getElem_drop]
  congr 1
  omega
theorem Zn1 (l : List UInt8) (hl : l.length = 16) (h8 : (at' l 5).toNat ≤ 8) (h : Zo7 l 14) : Y7 (Ve l) = true := by
 unfold Y7;rw [List.all_eq_true];intro c hc;obtain ⟨i, h1, h2, rfl⟩ := (Zkb l hl h8 c).1 hc;simp [h i h1 h2]
theorem Zq7 (l : List UInt8) (j : Nat) (hl : l.length = 16) (h8 : (at' l 5).toNat ≤ 8) (h1 : 6 + (at' l 5).toNat ≤ j) (h2 : j < 14) (h : at' l j ≠ 0) : Y7 (Ve l) = false := by
 unfold Y7;rw [List.all_eq_false];exact ⟨at' l j, (Zkb l hl h8 _).2 ⟨j, h1, h2, rfl⟩, by simpa using h⟩
def Zg1 (r : Rec) (d : Value) : Obj := .cells #[.int .i64 r.kind, .int .i64 r.key, .int .i64 r.ver, d] 61 (0, 0)
def Zuu (w : World) (g : Nat) (r : Rec) (d : Value) (xs : List UInt8) (dn : Nat → Bool) (w' : World) : Prop :=
 Zn w w' ∧ w'.heap[w.heap.size]? = some (Zg1 Rec.none (.slice none 0 0)) ∧ (dn 9 = false → w'.heap[g]? = some (Zg1 r d)) ∧ (dn 7 = false → w'.ownsRow (w.heap.size + 1) 5 1 d xs.length (xs.map bv))
theorem Zuu.grow {r : Rec} {xs : List UInt8} {dn : Nat → Bool} {w'' : World} (h : Zuu w g r d xs dn w') (hg : Zn w' w'') : Zuu w g r d xs dn w'' :=
 ⟨h.1.trans hg, (hg.block _ (Za h.2.1)).trans h.2.1, fun h9 => (hg.block _ (Za (h.2.2.1 h9))).trans (h.2.2.1 h9), fun h7 => Yb (h.2.2.2 h7) hg⟩
def Zlr (d : Value) (x : UInt8) (v : Value) (w : World) : Prop := ∃ b0, v = .slice (some ⟨b0, 0, none⟩) 1 1 ∧ w.heap[b0]? = some (.cells #[bv x] 5 (0, 0)) ∧ ∀ q, d.ownBlock = some q → b0 ≠ q
theorem Zw6 (d : Value) (x : UInt8) : Xv (Zlr d x) := by
 rintro v w w' hg ⟨b0, h1, h2, h3⟩;exact ⟨b0, h1, (hg.block _ (Za h2)).trans h2, h3⟩
theorem Zmc (hs : Yw 61 w w') (h : Zlr d x v w) : Zlr d x v w' := by
 rcases hs with rfl | ⟨g', c1, c2, hb, h5, h6, h7⟩
 ·exact h
 ·obtain ⟨b0, h1, h2, h3⟩ := h;refine ⟨b0, h1, (hb.block _ (Za h2) ?_).trans h2, h3⟩;rintro rfl;rw [h5] at h2; cases h2
def Zbg (d : Value) (w w' : World) : Prop := w' = w ∨ w.grownBy w' d.ownBlock
theorem Zmd (hs : Zbg d w w') (h : Zlr d x v w) : Zlr d x v w' := by
 rcases hs with rfl | hs
 ·exact h
 ·obtain ⟨b0, h1, h2, h3⟩ := h;exact ⟨b0, h1, (hs.block _ (Za h2) (fun e => h3 b0 e.symm rfl)).trans h2, h3⟩
theorem Zs5 {e T : TypeId} {xs c f} (h : w.ownsRow base e 1 d n xs) (hne : e ≠ T) (hg : w.heap[g]? = some (.cells c T f)) : some g ≠ d.ownBlock := by
 rcases h.2 with ⟨rfl, _⟩ | ⟨q, cap, cur, rfl, _, hq, _⟩
 ·simp [Value.ownBlock]
 ·intro e1;simp [Value.ownBlock] at e1;subst e1;rw [hg] at hq; cases hq; exact hne rfl
theorem Zxo {e : TypeId} {xs} (h : w.ownsRow base e 1 d n xs) (k : Nat) (hk : d.ownBlock = some k) : base ≤ k := (h.lt k hk).1
theorem Zrh (w : World) (B : Nat) (d : Value) (xs : List UInt8) (b0 : Nat) (x : UInt8) (ty : TypeId) (hown : w.ownsRow B 5 1 d xs.length (xs.map bv)) (hx : w.heap[b0]? = some (.cells #[bv x] 5 (0, 0))) (hm : xs.length < 140737488355328) (hB : B ≤ w.heap.size) :
  ∃ v' w', (Builtin.append_ #[45, 45] ty #[d, .slice (some ⟨b0, 0, none⟩) 1 1]).run Tryz.prog w = .ok v' w' ∧ w'.ownsRow B 5 1 v' (xs ++ [x]).length ((xs ++ [x]).map bv) ∧ w.grownBy w' d.ownBlock := by
 obtain ⟨i0, hif, hz0, hz1, hz2⟩ := info_parts V7;obtain ⟨v', w', h1, h2, h3, _⟩ := run_append_own (P := Tryz.prog) w B 45 ty 5 i0 (.int .u8 0) 1 1 Tryz.underlying45 hif hz0 hz1 hz2 rfl (by decide) d xs.length (xs.map bv) hown ⟨b0, 0, none⟩ 1 1 [bv x] rfl
  (fun j u hj => by
   match j, hj with
   | 0, hj => simp at hj; subst hj; simp [Addr.add, World.cell?, hx]
   | j + 1, hj => simp at hj) (by intro u hu; simp at hu; subst hu; rfl) (by unfold maxLen; omega) (by omega) hB
 exact ⟨v', w', h1, by simpa using h2, h3⟩
theorem Q1 {P : Program} {w w2 : World} {o : Oper} {ev : Operand → Value} {v' : Value} (s x : Operand) (t : TypeId) (ho : o.op = .call { callee := .builtin .append, args := #[s, x], argTypes := #[t, t] }) (v u : Value) (hs : ev s = v) (hx : ev x = u)
  (hr : (Builtin.append_ #[t, t] o.type #[v, u]).run P w = .ok v' w2) : (execOp ev o).run P w = .ok (.value v') w2 := by
 unfold execOp;simp only [ho, resolve, invoke, builtin, Sem.run_bind, Sem.run_pure, Result.andThen_ok, List.map_toArray, List.map_cons, List.map_nil, hs, hx, hr]
def Zx2 (B g : Nat) (r : Rec) (xs : List UInt8) (v : Value) (w : World) : Prop := w.heap[g]? = some (Zg1 r v) ∧ w.ownsRow B 5 1 v xs.length (xs.map bv)
theorem Zw5 (B g : Nat) (r : Rec) (xs : List UInt8) (i : Nat) : V1 (pl1 i (fun _ v w => Zx2 B g r xs v w)) := by
 rintro v ds w w' hg ⟨h1, h2⟩;exact ⟨(hg.block _ (Za h1)).trans h1, Yb h2 hg⟩
def Zpa (w : World) (g : Nat) (l : List UInt8) (j : Nat) (wr : World) : Prop :=
 Zn w wr ∧ wr.heap[w.heap.size]? = some (Zg1 Rec.none (.slice none 0 0)) ∧ Zo7 l j ∧ ∃ d, wr.heap[g]? = some (Zg1 (Yz l) d) ∧ wr.ownsRow (w.heap.size + 1) 5 1 d (Qf l j).length ((Qf l j).map bv)
theorem Zmp (l : List UInt8) (at_ : Int) (b off cap : Nat) (w : World) (hl : l.length = 16) (hcap : 16 ≤ cap) (hc : Jr w b off l) (hs : Xi l = true) (hp : ((at' l 1).toNat : Int) = at_) (h8 : (at' l 5).toNat ≤ 8) :
  Calls Tryz.prog 84 #[.slice (some ⟨b, off, none⟩) 16 cap, .int .i64 at_] w (Ze0 w l at_) := by
 have HW : Hid (spoilt l at_ = if Y7 (Ve l) = false then 2 else 0) := by show spoilt _ _ = _; unfold spoilt; rw [if_neg (by omega), if_neg (by rw [hs]; simp), if_neg (by simpa using hp), if_neg (by omega)]
 have HS : Hid (Xi l = true) := hs;have d1 : (((at' l 1).toNat : Int) != at_) = false := by simp [hp]
 clear hs hp;have hB : Bytes w (.slice (some ⟨b, off, none⟩) 16 cap) l := .inr ⟨b, off, cap, by rw [hl], by omega, hc⟩;have HL : Hid (l.length = 16) := hl;clear hl;go_enter Tryz.func84, Tryz.ntmps84;go_wp2_with fail;refine (Jw l _ _ (by rw [HL.out]; omega) (by exact Z1 hB (Zb _ _))).mono ?_;rw [HS.out];rintro e w1 ⟨rfl, g1⟩;have gx : Zn w w1 := (Zb _ _).trans g1;have hbx : w1.heap[w.heap.size]? = some (.cells #[.int .i64 0, .int .i64 0, .int .i64 0, .slice none 0 0] 61 (0, 0)) := (g1.block _ (by simp)).trans (Zg _ _ _);have hc1 := hc.grow gx;have k1 := hc1.at' 1 (by rw [HL.out]; omega);have k5 := hc1.at' 5 (by rw [HL.out]; omega);have k0 := hc1.at' 0 (by rw [HL.out]; omega);rw [Nat.add_zero] at k0;have k2 := hc1.at' 2 (by rw [HL.out]; omega);have k3 := hc1.at' 3 (by rw [HL.out]; omega);have k4 := hc1.at' 4 (by rw [HL.out]; omega);have b0 : (at' l 0).toNat < 256 := UInt8.toNat_lt _;have b1 : (at' l 1).toNat < 256 := UInt8.toNat_lt _;have b2 : (at' l 2).toNat < 256 := UInt8.toNat_lt _;have b3 : (at' l 3).toNat < 256 := UInt8.toNat_lt _;have b4 : (at' l 4).toNat < 256 := UInt8.toNat_lt _;have hbs : w.heap.size < w1.heap.size := by have := g1.size; simp at this; omega
 have h8i : ((at' l 5).toNat : Int) ≤ 8 := by omega
 have hlt8 : ¬ (8 : Int) < ((at' l 5).toNat : Int) := by omega
 clear g1 hB;go_wp2_with fail;clear hlt8 k1
 refine Qj [px (.slice (some ⟨b, off, none⟩) 16 cap), px (.pointer (some ⟨b, off, none⟩)), px (.int .u8 ((at' l 0).toNat : Int)), px (.int .i64 ((at' l 0).toNat : Int)), px (.slice (some ⟨b, off, none⟩) 16 cap), px (.pointer (some ⟨b, off + 2, none⟩)), px (.int .u8 ((at' l 2).toNat : Int)), px (.int .i64 ((at' l 2).toNat : Int)), px (.slice (some ⟨b, off, none⟩) 16 cap), px (.pointer (some ⟨b, off + 3, none⟩)), px (.int .u8 ((at' l 3).toNat : Int)), px (.int .i64 ((at' l 3).toNat : Int)), px (.int .i64 (256 * ((at' l 3).toNat : Int))), px (.slice (some ⟨b, off, none⟩) 16 cap), px (.pointer (some ⟨b, off + 4, none⟩)), px (.int .u8 ((at' l 4).toNat : Int)), px (.int .i64 ((at' l 4).toNat : Int)), px (.int .i64 (((at' l 3).toNat : Int) * 256 + ((at' l 4).toNat : Int))), px (.agg #[.int .i64 (Yz l).kind, .int .i64 (Yz l).key, .int .i64 (Yz l).ver, .slice none 0 0]), pl (Zjl 61 4 w1.heap.size), pl1 19 ((fun _ p w => Zlv w1.heap.size ⟨(Yz l).kind, (Yz l).key, (Yz l).ver, []⟩ p w))] [none, none, none, none, none, none, none, none, none, none, none, none, none, none, none, none, none, none, none, none, some ((Yw 61))] (fun w' => Zn w1 w') (by kernel_rfl) (by kernel_rfl) ⟨se, se, se, se, se, se, se, se, se, se, se, se, se, se, se, se, se, se, se, Yj (Zr5 _ _ _), Zoj _ _ _, trivial⟩ ⟨⟨(fun w => .inl rfl), ⟨x5, x5, x5, x5, x5, x5, x5, x5, x5, x5, x5, x5, x5, x5, x5, x5, x5, x5, x5, .inr ((fun v _ w w' hs hq => Zsb _ _ _ v w w' hs hq)), .inl (by kernel_rfl), trivial⟩⟩, trivial⟩ ⟨n5, n5, n5, n5, n5, n5, n5, n5, n5, n5, n5, n5, n5, n5, n5, n5, n5, n5, n5, n5, fun _ _ _ _ h => h, trivial⟩ ?_ ?_ ?_
 ·exact (Zn.refl _).drew
 ·refine ⟨?_, ?_, ?_, ?_, ?_, ?_, ?_, ?_, ?_, ?_, ?_, ?_, ?_, ?_, ?_, ?_, ?_, ?_, ?_, ?_, ?_, trivial⟩
  ·exact Zk rfl fun a _ _ _ B A => Z6 rfl B (Zl A 0 rfl)
  ·refine Zk rfl fun a _ _ _ B A => ?_;have e42 : a (.tmp 42) = _ := Ze A 0 rfl;refine Zh ?_ B rfl;clear A B;go_simp;all_goals go_arith
  ·refine Zk rfl fun a _ _ _ B A => ?_;have e43 : a (.tmp 43) = _ := Ze A 1 rfl;have h1 := (Below.cell B (Zv k0)).trans k0;refine Zh ?_ B rfl;clear A B;go_simp;all_goals go_arith
  ·refine Zk rfl fun a _ _ _ B A => ?_;have e44 : a (.tmp 44) = _ := Ze A 2 rfl;refine Zh ?_ B rfl;clear A B;go_simp;all_goals go_arith
  ·exact Zk rfl fun a _ _ _ B A => Z6 rfl B (Zl A 0 rfl)
  ·refine Zk rfl fun a _ _ _ B A => ?_;have e46 : a (.tmp 46) = _ := Ze A 4 rfl;refine Zh ?_ B rfl;clear A B;go_simp;all_goals go_arith
  ·refine Zk rfl fun a _ _ _ B A => ?_;have e47 : a (.tmp 47) = _ := Ze A 5 rfl;have h1 := (Below.cell B (Zv k2)).trans k2;refine Zh ?_ B rfl;clear A B;go_simp;all_goals go_arith
  ·refine Zk rfl fun a _ _ _ B A => ?_;have e48 : a (.tmp 48) = _ := Ze A 6 rfl;refine Zh ?_ B rfl;clear A B;go_simp;all_goals go_arith
  ·exact Zk rfl fun a _ _ _ B A => Z6 rfl B (Zl A 0 rfl)
  ·refine Zk rfl fun a _ _ _ B A => ?_;have e50 : a (.tmp 50) = _ := Ze A 8 rfl;refine Zh ?_ B rfl;clear A B;go_simp;all_goals go_arith
  ·refine Zk rfl fun a _ _ _ B A => ?_;have e51 : a (.tmp 51) = _ := Ze A 9 rfl;have h1 := (Below.cell B (Zv k3)).trans k3;refine Zh ?_ B rfl;clear A B;go_simp;all_goals go_arith
  ·refine Zk rfl fun a _ _ _ B A => ?_;have e52 : a (.tmp 52) = _ := Ze A 10 rfl;refine Zh ?_ B rfl;clear A B;go_simp;all_goals go_arith
  ·refine Zk rfl fun a _ _ _ B A => ?_;have e53 : a (.tmp 53) = _ := Ze A 11 rfl;refine Zh ?_ B rfl;clear A B;go_simp;all_goals go_arith
  ·exact Zk rfl fun a _ _ _ B A => Z6 rfl B (Zl A 0 rfl)
  ·refine Zk rfl fun a _ _ _ B A => ?_;have e55 : a (.tmp 55) = _ := Ze A 13 rfl;refine Zh ?_ B rfl;clear A B;go_simp;all_goals go_arith
  ·refine Zk rfl fun a _ _ _ B A => ?_;have e56 : a (.tmp 56) = _ := Ze A 14 rfl;have h1 := (Below.cell B (Zv k4)).trans k4;refine Zh ?_ B rfl;clear A B;go_simp;all_goals go_arith
  ·refine Zk rfl fun a _ _ _ B A => ?_;have e57 : a (.tmp 57) = _ := Ze A 15 rfl;refine Zh ?_ B rfl;clear A B;go_simp;all_goals go_arith
  ·refine Zk rfl fun a _ _ _ B A => ?_;have e54 : a (.tmp 54) = _ := Ze A 12 rfl;have e58 : a (.tmp 58) = _ := Ze A 16 rfl;rw [Int.mul_comm] at e54;refine Zh ?_ B rfl;clear A B;go_simp;all_goals go_arith
  ·refine Zk rfl fun a _ _ _ B A => ?_;have e45 : a (.tmp 45) = _ := Ze A 3 rfl;have e49 : a (.tmp 49) = _ := Ze A 7 rfl;have e59 : a (.tmp 59) = _ := Ze A 17 rfl;refine Zh (v := .agg #[.int .i64 ((at' l 0).toNat : Int), .int .i64 ((at' l 2).toNat : Int), .int .i64 (((at' l 3).toNat : Int) * 256 + ((at' l 4).toNat : Int)), .slice none 0 0]) ?_ B rfl;clear A B;go_simp;all_goals go_arith
  ·refine Zk rfl fun a w' _ _ B A => ?_;refine Ql (v := .pointer (some ⟨w'.heap.size, 0, none⟩)) (w' := w'.alloc (.cells #[.int .i64 0, .int .i64 0, .int .i64 0, .slice none 0 0] 61)) ?_ (Zb _ _) (B.trans (Zb _ _)) ⟨_, _, rfl, B.size, Zg _ _ _, rfl⟩;clear A B;go_simp;all_goals go_arith
  ·refine Zk rfl fun a w' _ _ B A => ?_;have e7 : (Zjl 61 4 w1.heap.size) (a (.tmp 7)) w' := Ze A 19 rfl;have e60 : a (.tmp 60) = _ := Ze A 18 rfl;obtain ⟨g, c, h7, hgB, hh, hsz⟩ := e7;obtain ⟨x0, x1, x2, x3, rfl⟩ := Zyo hsz;obtain ⟨hp1, hp2⟩ := Yd hh (.int .i64 (Yz l).kind) (.int .i64 (Yz l).key) (.int .i64 (Yz l).ver) (.slice none 0 0);have hstep : Yw 61 w' _ := .inr ⟨g, _, _, hp2, hh, hp1, rfl⟩;refine Yg (w' := _) ?_ hstep (Zx (Zx (Zx (Zx B (by exact hgB) _) (by exact hgB) _) (by exact hgB) _) (by exact hgB) _) ⟨g, _, h7, hgB, hp1, World.ownsRow_nil _ _ _ _⟩;have y0 := Zc hh 0 x0 rfl;have y1 := Zc hh 1 x1 rfl;have y2 := Zc hh 2 x2 rfl;have y3 := Zc hh 3 x3 rfl;obtain ⟨f0, f1, f2, f3⟩ := Yr hh;have cs := Zr;clear A B hp1 hp2 hstep hh;generalize Yz l = rr at *;go_simp;all_goals go_arith
 ·intro vs w' hg ht;obtain ⟨q42, q43, q44, q45, q46, q47, q48, q49, q50, q51, q52, q53, q54, q55, q56, q57, q58, q59, q60, q7, qo20, -⟩ := ht;have r42 : vs 0 = _ := q42;have r43 : vs 1 = _ := q43;have r44 : vs 2 = _ := q44;have r45 : vs 3 = _ := q45;have r46 : vs 4 = _ := q46;have r47 : vs 5 = _ := q47;have r48 : vs 6 = _ := q48;have r49 : vs 7 = _ := q49;have r50 : vs 8 = _ := q50;have r51 : vs 9 = _ := q51;have r52 : vs 10 = _ := q52;have r53 : vs 11 = _ := q53;have r54 : vs 12 = _ := q54;have r55 : vs 13 = _ := q55;have r56 : vs 14 = _ := q56;have r57 : vs 15 = _ := q57;have r58 : vs 16 = _ := q58;have r59 : vs 17 = _ := q59;have r60 : vs 18 = _ := q60;replace q7 : (Zjl 61 4 w1.heap.size) (vs 19) w' := q7;replace qo20 : ((fun _ p w => Zlv w1.heap.size ⟨(Yz l).kind, (Yz l).key, (Yz l).ver, []⟩ p w)) (vs 20) (vs 19) w' := qo20;clear q42 q43 q44 q45 q46 q47 q48 q49 q50 q51 q52 q53 q54 q55 q56 q57 q58 q59 q60;simp only [Yi, Act.put, List.setIfInBounds_toArray, List.set_cons_zero, List.set_cons_succ, Nat.reduceAdd, r42, r43, r44, r45, r46, r47, r48, r49, r50, r51, r52, r53, r54, r55, r56, r57, r58, r59, r60];clear r42 r43 r44 r45 r46 r47 r48 r49 r50 r51 r52 r53 r54 r55 r56 r57 r58 r59 r60;obtain ⟨g, d, h7, hgB, hh, hown⟩ := qo20;rw [h7];have hz : w.heap.size < g := by omega
  have gw' := gx.trans hg;have hbx' : w'.heap[w.heap.size]? = some (Zg1 Rec.none (.slice none 0 0)) := (hg.block _ (Za hbx)).trans hbx;have hstart : Zpa w g l 6 w' := ⟨gw', hbx', fun i h1 h2 => by omega, d, hh, Yk (by simpa [Qf] using hown) (by omega)⟩;clear q7 hg hbx gx k0 k2 k3 k4 k5 hc1 h7 b0 b1 b2 b3 b4 hbx' gw' hh hown;clear hgB;go_wp2_with fail;go_loopw [8] (fun i wr => ∃ j : Nat, 6 ≤ j ∧ j ≤ 14 ∧ i = .int .i64 j ∧ Zpa w g l j wr) (fun i _ => 14 - (intOf i).toNat)
  case atStart => exact ⟨6, by omega, by omega, rfl, hstart⟩
  case round =>
   obtain ⟨j, hj6, hj14, rfl, hgr, hbr, hcl, d, hh, hown⟩ := hrel;by_cases hlt : j < 14
   ·have hcr := hc.grow hgr;have k5 := hcr.at' 5 (by rw [HL.out]; omega);have kj := hcr.at' j (by rw [HL.out]; omega);have bj : (at' l j).toNat < 256 := UInt8.toNat_lt _;by_cases hin : j < 6 + (at' l 5).toNat
    ·obtain ⟨ao', cp', rfl⟩ := Yc hown;have hdl : (Qf l j).length ≤ 8 := by rw [Znw l j HL.out h8]; omega
     go_wp2_with fail;refine Yx [px (.pointer (some ⟨g, 3, none⟩)), px (.slice ao' (Qf l j).length cp'), px (.slice (some ⟨b, off, none⟩) 16 cap), px (.int .i64 j), px (.pointer (some ⟨b, off + j, none⟩)), px (.int .u8 ((at' l j).toNat : Int)), pl (Zlr (.slice ao' (Qf l j).length cp') (at' l j)), pl (Zji (w.heap.size + 1) (Qf l j ++ [at' l j])), px (.pointer (some ⟨g, 3, none⟩)), pl1 7 ((fun _ v w' => Zx2 (w.heap.size + 1) g (Yz l) (Qf l j ++ [at' l j]) v w'))] [none, none, none, none, none, none, none, some ((Zbg (.slice ao' (Qf l j).length cp'))), none, some ((Yw 61))] (Zuu w g (Yz l) (.slice ao' (Qf l j).length cp') (Qf l j)) (by kernel_rfl) (by kernel_rfl) ⟨se, se, se, se, se, se, Yj (Zw6 _ _), Yj (Zrx _ _), se, Zw5 _ _ _ _ _, trivial⟩ ⟨⟨(fun w => .inl rfl), ⟨x5, x5, x5, x5, x5, x5, .inr ((fun v _ w w' hs hq => Zmd hs hq)), .inl (by kernel_rfl), .inl (by kernel_rfl), .inl (by kernel_rfl), trivial⟩⟩, ⟨(fun w => .inl rfl), ⟨x5, x5, x5, x5, x5, x5, .inr ((fun v _ w w' hs hq => Zmc hs hq)), .inr ((fun v _ w w' hs hq => Zr9 _ _ v w w' hs hq)), x5, .inl (by kernel_rfl), trivial⟩⟩, trivial⟩ ⟨n5, n5, n5, n5, n5, n5, n5, n5, n5, fun _ _ _ _ h => h, trivial⟩ ⟨hgr.drew, hbr, fun _ => hh, fun _ => hown⟩ ?_ ?_
     ·refine ⟨?_, ?_, ?_, ?_, ?_, ?_, ?_, ?_, ?_, ?_, trivial⟩
      ·refine Zd rfl fun a _ _ _ _ _ B A => ?_;have e7 : a (.tmp 7) = .pointer (some ⟨g, 0, none⟩) := Zl A 7 rfl;refine Zh ?_ B rfl;clear A B;go_simp;all_goals go_arith
      ·refine Zd rfl fun a _ _ _ _ C B A => ?_;have e72 : a (.tmp 72) = _ := Ze A 0 rfl;have n7 := C.not1 7 (by kernel_rfl);have n9 := C.notBy 9 7 n7 (by kernel_rfl);have y3 := Zc (B.2.2.1 n9) 3 _ rfl;refine Zh ?_ B rfl;clear A B C;go_simp;all_goals go_arith
      ·exact Zd rfl fun a _ _ _ _ _ B A => Z6 rfl B (Zl A 0 rfl)
      ·exact Zd rfl fun a _ _ _ _ _ B A => Z6 rfl B (Zl A 8 rfl)
      ·refine Zd rfl fun a _ _ _ _ _ B A => ?_;have e74 : a (.tmp 74) = _ := Ze A 2 rfl;have e75 : a (.tmp 75) = _ := Ze A 3 rfl;refine Zh ?_ B rfl;clear A B;go_simp;all_goals go_arith
      ·refine Zd rfl fun a _ _ _ _ C B A => ?_;have e76 : a (.tmp 76) = _ := Ze A 4 rfl;have h1 := (hc.grow B.1).at' j (by rw [HL.out]; omega);refine Zh ?_ B rfl;clear A B C;go_simp;all_goals go_arith
      ·refine Zd rfl fun a w' _ _ _ C B A => ?_;have e77 : a (.tmp 77) = _ := Ze A 5 rfl;have n7 := C.not1 7 (by kernel_rfl);refine Ql (v := .slice (some ⟨w'.heap.size, 0, none⟩) 1 1) (w' := w'.alloc (.cells #[.int .u8 ((at' l j).toNat : Int)] 5)) ?_ (Zb _ _) (Zuu.grow B (Zb _ _)) ⟨_, rfl, Zg _ _ _, fun q hq => by have := ((B.2.2.2 n7).lt q hq).2; omega⟩;clear A B C;go_simp;all_goals go_arith
      ·refine Zd rfl fun a w' _ _ _ C B A => ?_;have e73 : a (.tmp 73) = _ := Ze A 1 rfl;have e78 : (Zlr (.slice ao' (Qf l j).length cp') (at' l j)) (a (.tmp 78)) w' := Ze A 6 rfl;obtain ⟨b0, hb1, hb2, hb3⟩ := e78;have ho7 := B.2.2.2 C.un;obtain ⟨v', w2, hrun, ho2, hg2⟩ := Zrh w' (w.heap.size + 1) _ (Qf l j) b0 (at' l j) 45 ho7 hb2 (by omega) (by have := Za B.2.1; omega);have hgrow : Zn w w2 := Ya B.1 hg2 (fun k hk => by have := Zxo ho7 k hk; omega);have hbx2 : w2.heap[w.heap.size]? = some (Zg1 Rec.none (.slice none 0 0)) := (hg2.block _ (Za B.2.1) (Zs5 ho7 (by decide) B.2.1)).trans B.2.1;refine Ql (v := v') (w' := w2) ?_ (.inr hg2) ⟨hgrow, hbx2, fun h9 => ?_, fun h => by simp [upd] at h⟩ ho2
       ·exact Q1 (.tmp 73) (.tmp 78) 45 rfl _ _ e73 hb1 hrun
       ·have h9' := B.2.2.1 h9;exact (hg2.block _ (Za h9') (Zs5 ho7 (by decide) h9')).trans h9'
      ·refine Zd rfl fun a _ _ _ _ _ B A => ?_;have e7 : a (.tmp 7) = .pointer (some ⟨g, 0, none⟩) := Zl A 7 rfl;refine Zh ?_ B rfl;clear A B;go_simp;all_goals go_arith
      ·refine Zd rfl fun a w' _ _ D C B A => ?_;have e80 : a (.tmp 80) = _ := Ze A 8 rfl;have e79 : (Zji (w.heap.size + 1) (Qf l j ++ [at' l j])) (a (.tmp 79)) w' := Ze A 7 rfl;obtain ⟨ao2, cp2, h79⟩ := Yc e79;have hh9 := B.2.2.1 C.un;have y3 := Zc hh9 3 _ rfl;have f3 := Zi hh9 3;have hp1 := Ye hh9 3 (a (.tmp 79));have hstep : Yw 61 w' (w'.setCell ⟨g, 3, none⟩ (a (.tmp 79))) := .inr ⟨g, _, _, (Zo.refl _ _).set _ _ _, hh9, hp1, by simp⟩;refine Yg (w' := w'.setCell ⟨g, 3, none⟩ (a (.tmp 79))) ?_ hstep ⟨Zx B.1 (by show w.heap.size ≤ g; omega) _, ?_, fun h => by simp [upd] at h, fun h => ?_⟩ ⟨hp1, Qo (by decide) hstep e79⟩
       ·clear A B hh9 hp1 hstep e79 C;go_simp;all_goals go_arith
       ·rw [Below.heap_setCell _ _ _ _ (by show w.heap.size ≠ g; omega)]; exact B.2.1
       ·have := C.rd 7 (by kernel_rfl);have h' : D 7 = false := h;rw [this] at h'; cases h'
     ·intro vs w' dn hdn hg ht;obtain ⟨q72, q73, q74, q75, q76, q77, q78, q79, q80, qo9, -⟩ := ht;have r72 : vs 0 = _ := q72;have r73 : vs 1 = _ := q73;have r74 : vs 2 = _ := q74;have r75 : vs 3 = _ := q75;have r76 : vs 4 = _ := q76;have r77 : vs 5 = _ := q77;replace q78 : (Zlr (.slice ao' (Qf l j).length cp') (at' l j)) (vs 6) w' := q78;replace q79 : (Zji (w.heap.size + 1) (Qf l j ++ [at' l j])) (vs 7) w' := q79;have r80 : vs 8 = _ := q80;replace qo9 : ((fun _ v w' => Zx2 (w.heap.size + 1) g (Yz l) (Qf l j ++ [at' l j]) v w')) (vs 9) (vs 7) w' := qo9;clear q72 q73 q74 q75 q76 q77 q80;simp only [Yi, Act.put, List.setIfInBounds_toArray, List.set_cons_zero, List.set_cons_succ, Nat.reduceAdd, r72, r73, r74, r75, r76, r77, r80];clear r72 r73 r74 r75 r76 r77 r80;obtain ⟨hp1, hp2⟩ := qo9;rw [← Zlh l j HL.out hj6 hin h8] at hp2;have hL : Zpa w g l (j + 1) w' := ⟨hg.1, hg.2.1, fun i h1 h2 => by omega, _, hp1, hp2⟩;clear hp1 hp2 hg q78 q79 hdn;generalize vs 6 = u6;generalize vs 7 = u7;go_wp2;go_roundw
      case rel => exact ⟨j + 1, by omega, by omega, by go_num, hL⟩
      case measure => simp [intOf]; omega
    ·have HK : Hid (6 + (at' l 5).toNat ≤ j) := by show _ ≤ _; omega
     by_cases h0 : at' l j = 0
     ·have d0 : (((at' l j).toNat : Int) != 0) = false := by simp [h0]
      have hL : Zpa w g l (j + 1) wr := ⟨hgr, hbr, fun i h1 h2 => by
       by_cases e : i = j
       ·subst e; exact h0
       ·exact hcl i h1 (by omega), d, hh, by rw [Zli l j HK.out]; exact hown⟩
      clear h0;go_wp2;go_roundw
      case rel => exact ⟨j + 1, by omega, by omega, by go_num, hL⟩
      case measure => simp [intOf]; omega
     ·have hne : (at' l j).toNat ≠ 0 := fun e => h0 (UInt8.toNat_inj.1 e)
      have d0 : (((at' l j).toNat : Int) != 0) = true := by simp [hne]
      have HE : Hid (X3 l at_ = 2) := K7 (by rw [HW.out, if_pos (Zq7 l j HL.out h8 HK.out hlt h0)]) (by omega);have hbx := hbr;have gx := hgr;clear h0 hne hcl hown hh hgr hbr;go_wp2_with fail;refine (Zd9 _ _).mono ?_;rintro e w9 ⟨rfl, g9⟩;have hb9 := (g9.block _ (Za hbx)).trans hbx;have gz := gx.trans g9;obtain ⟨z0, z1, z2, z3⟩ := Z4 hb9 rfl rfl rfl rfl;obtain ⟨f0, f1, f2, f3⟩ := Yr hb9;have cs := Zr;clear g9 hb9 hbx gx;go_wp2_with fail;refine bodyPost_ret (v := .tuple #[.agg #[.int .i64 0, .int .i64 0, .int .i64 0, .slice none 0 0], .int .i64 _]) (by simp [results, Tryz.results84, go_sem, z0, z1, z2, z3, cs]) rfl (Zah HE.out (by omega) ?_);exact Zx (Zx (Zx (Zx gz (by simp) _) (by simp) _) (by simp) _) (by simp) _
   ·have ej : j = 14 := by omega
    subst ej;have HE0 : Hid (spoilt l at_ = 0) := by show spoilt _ _ = 0; rw [HW.out, if_neg (by rw [Zn1 l HL.out h8 hcl]; simp)]
    have HE1 : Hid (X3 l at_ = Z9 (Yz l)) := by show X3 _ _ = _; unfold X3; rw [if_pos HE0.out]
    rw [Zlj l h8] at hown;obtain ⟨ao', cp', rfl⟩ := Yc hown;obtain ⟨y0, y1, y2, y3⟩ := Z4 hh rfl rfl rfl rfl;clear hcl hc;go_wp2_with fail;refine (Zcv _ _ _ (Yz l).data _ _ (Qk hown)).mono ?_;rintro e w2 ⟨rfl, g2⟩;have hh2 := (g2.block _ (Za hh)).trans hh;have hbx := (g2.block _ (Za hbr)).trans hbr;have hown2 := Yb hown g2;have gx := hgr.trans g2;clear y0 y1 y2 y3 hown hgr hbr hh g2;by_cases hw0 : Z9 (Yz l) = 0
    ·have HQ : Hid (Y3 l at_ = Yz l) := by show Y3 _ _ = _; unfold Y3; rw [HE1.out, if_pos hw0]
     have HW0 : Hid (Z9 (Yz l) = 0) := hw0;have d0 : (Z9 (Yz l) != 0) = false := by rw [hw0]; rfl
     clear hw0;obtain ⟨y0, y1, y2, y3⟩ := Z4 hh2 rfl rfl rfl rfl;obtain ⟨z0, z1, z2, z3⟩ := Z4 hbx rfl rfl rfl rfl;obtain ⟨f0, f1, f2, f3⟩ := Yr hbx;have cs := Zr;clear hbx hh2;go_wp2_with fail;refine bodyPost_ret (v := .tuple #[.agg #[.int .i64 (Yz l).kind, .int .i64 (Yz l).key, .int .i64 (Yz l).ver, .slice ao' (Yz l).data.length cp'], .int .i64 0]) (by simp [results, Tryz.results84, go_sem, z0, z1, z2, z3, cs]) rfl ⟨.slice ao' (Yz l).data.length cp', ?_, ?_, ?_⟩
     ·rw [HQ.out, HE1.out, HW0.out]
     ·rw [HQ.out];exact Yk (Xk (Xk (Xk (Xk hown2 (by simp) _) (by simp) _) (by simp) _) (by simp) _) (by omega)
     ·exact Zx (Zx (Zx (Zx gx (by simp) _) (by simp) _) (by simp) _) (by simp) _
    ·have d0 : (Z9 (Yz l) != 0) = true := by simpa using hw0
     have HE : Hid (X3 l at_ = Z9 (Yz l)) := HE1;have HN : Hid (Z9 (Yz l) ≠ 0) := hw0;clear hh2 hown2 hw0;go_wp2_with fail;refine (Zd9 _ _).mono ?_;rintro e w9 ⟨rfl, g9⟩;have hb9 := (g9.block _ (Za hbx)).trans hbx;have gz := gx.trans g9;obtain ⟨z0, z1, z2, z3⟩ := Z4 hb9 rfl rfl rfl rfl;obtain ⟨f0, f1, f2, f3⟩ := Yr hb9;have cs := Zr;clear g9 hb9 hbx gx;go_wp2_with fail;refine bodyPost_ret (v := .tuple #[.agg #[.int .i64 0, .int .i64 0, .int .i64 0, .slice none 0 0], .int .i64 (Z9 (Yz l))]) (by simp [results, Tryz.results84, go_sem, z0, z1, z2, z3, cs]) rfl (Zah HE.out HN.out ?_);exact Zx (Zx (Zx (Zx gz (by simp) _) (by simp) _) (by simp) _) (by simp) _
theorem Zhu (l : List UInt8) (at_ : Int) (v : Value) (w : World) (h : Bytes w v l) : Calls Tryz.prog 84 #[v, .int .i64 at_] w (Ze0 w l at_) := by
 by_cases hl : l.length = 16
 ·rcases h with ⟨ao, cap, rfl, rfl, _⟩ | ⟨b, off, cap, rfl, h1, hc⟩
  ·simp at hl
  ·rw [show (Value.slice (some ⟨b, off, none⟩) l.length cap) = .slice (some ⟨b, off, none⟩) 16 cap from by rw [hl]];cases hs : Xi l with
   | false => exact Zps l at_ b off cap w hl (by omega) hc hs
   | true =>
    by_cases hp : ((at' l 1).toNat : Int) = at_
    ·by_cases h8 : 8 < (at' l 5).toNat
     ·exact Zmo l at_ b off cap w hl (by omega) hc hs hp h8
     ·exact Zmp l at_ b off cap w hl (by omega) hc hs hp (by omega)
    ·exact Zj7 l at_ b off cap w hl (by omega) hc hs hp
 ·obtain ⟨ao, cap, rfl, -, -⟩ := Yn h;exact Zmn l at_ ao cap w hl
end Go.Proofs.YtpdnapbchcdhlacGreat
