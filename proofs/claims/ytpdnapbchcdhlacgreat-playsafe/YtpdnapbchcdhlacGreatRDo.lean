import Derived.Test.YtpdnapbchcdhlacGreatPairC
set_option maxHeartbeats 8000000
namespace Go.Proofs.YtpdnapbchcdhlacGreat
set_option maxRecDepth 100000
open Go.RowKit
open Plain Reg
variable {Q : Value → World → Prop} {S S0 : Nat → Prop} {W w : World} {a : Option Addr} {b c cap e i j k n : Nat} {dn : Nat → Bool} {f : Nat → Value} {l zs : List Rec} {r : Rec} {u v : Value} {α : Type}
theorem X8 (h : j ≠ i) : upd dn i j = dn j := by unfold upd; rw [if_neg h]
theorem Kc : upd dn i i = true := by unfold upd; rw [if_pos rfl]
theorem Vy (h : j ≠ i) : Ks f i v j = f j := by unfold Ks; rw [if_neg h]
theorem Q5 : Ks f i v i = v := by unfold Ks; rw [if_pos rfl]
theorem Kv : (Tryz.prog.info? 61).map (fun i => (i.zero, i.size, i.bytes)) = some (some (.agg #[.int .i64 0, .int .i64 0, .int .i64 0, .slice none 0 0]), 4, 48) := by kernel_rfl
def Xz (W : World) (S0 : Nat → Prop) (e p b s : Nat) (Q : Value → World → Prop) (xs zs : List Rec) (dn : Nat → Bool) (f : Nat → Value) (w : World) : Prop :=
 Zn W w ∧ (dn e = true → dn p = false → ∃ g, f e = .slice (some ⟨g, 0, none⟩) 0 0 ∧ W.heap.size ≤ g ∧ w.heap[g]? = some (.cells #[] 61 (0, 0))) ∧
 (dn p = true → dn s = false → ∃ css, Yv Yo S0 W.heap.size (f p) xs css w) ∧ (dn b = true → dn s = false → Q (f b) w) ∧ (dn s = true → ∃ css, Yv Yo S0 W.heap.size (f s) zs css w)
theorem Xz.start (W : World) (S0 : Nat → Prop) (e p b s : Nat) (Q : Value → World → Prop) (xs zs : List Rec) (f : Nat → Value) : Xz W S0 e p b s Q xs zs (fun _ => false) f W.drew := by
 refine ⟨(Zn.refl _).drew, ?_, ?_, ?_, ?_⟩ <;> (intro h; cases h)
theorem Xz.on {p s : Nat} {xs : List Rec} {w' : World} (h : Xz W S0 e p b s Q xs zs dn f w) (hg : Zn w w') (hb : dn b = false) : Xz W S0 e p b s Q xs zs dn f w' := by
 refine ⟨h.1.trans hg, fun h1 h2 => ?_, fun h1 h2 => ?_, fun h1 => ?_, fun h1 => ?_⟩
 ·obtain ⟨g, k1, k2, k3⟩ := h.2.1 h1 h2;exact ⟨g, k1, k2, (hg.block _ (Za k3)).trans k3⟩
 ·exact (h.2.2.1 h1 h2).imp fun _ x => x.grow hg
 ·rw [hb] at h1; cases h1
 ·exact (h.2.2.2.2 h1).imp fun _ x => x.grow hg
theorem Xz.empty {p s : Nat} {xs : List Rec} (h : Xz W S0 e p b s Q xs zs dn f w) (n : p ≠ e ∧ b ≠ e ∧ s ≠ e) (hp : dn p = false) (hb : dn b = false) (hs : dn s = false) :
  Xz W S0 e p b s Q xs zs (upd dn e) (Ks f e (.slice (some ⟨w.heap.size, 0, none⟩) 0 0)) (w.alloc (.cells #[] 61)) := by
 obtain ⟨n1, n2, n3⟩ := n;refine ⟨h.1.trans (Zb _ _), fun _ _ => ⟨_, Q5, h.1.size, Zg _ _ _⟩, fun h1 => ?_, fun h1 => ?_, fun h1 => ?_⟩
 ·rw [X8 n1, hp] at h1; cases h1
 ·rw [X8 n2, hb] at h1; cases h1
 ·rw [X8 n3, hs] at h1; cases h1
theorem Xz.first {p s : Nat} {xs : List Rec} (h : Xz W S0 e p b s Q xs zs dn f w) (n : b ≠ p ∧ s ≠ p) (he : dn e = true) (hp : dn p = false) (hb : dn b = false) (hs : dn s = false) (hS0 : ∀ b, S0 b → b < W.heap.size) (hu : Qs S w u xs) (hSS : ∀ b, S b → S0 b) (hn : xs.length ≤ 1000) :
  ∃ v' w', (Builtin.append_ #[58, 58] 58 #[f e, u]).run Tryz.prog w = .ok v' w' ∧ Xz W S0 e p b s Q xs zs (upd dn p) (Ks f p v') w' := by
 obtain ⟨i0, hif, hz0, hz1, hz2⟩ := info_parts Kv;obtain ⟨g, hf, hg, hh⟩ := h.2.1 he hp;obtain ⟨n2, n3⟩ := n;have hR : Yv Yo S0 W.heap.size (f e) [] [] w := by
  rw [hf];exact ⟨rfl, fun i hi => by simp at hi, rfl, .inr ⟨g, 0, #[], rfl, hg, hh, Nat.le_refl _, Nat.zero_le _, rfl, rfl⟩⟩
 obtain ⟨v', w', css', hrun, hR', hgb⟩ := Yv.app (ty := 58) Tryz.underlying58 hif hz0 hz1 hz2 (by decide) (by decide) (by decide) hS0 hR hu (fun b h => .inl (hSS b h)) (by simp; unfold maxLen; omega) (by simp; omega) h.1.size;refine ⟨v', w', hrun, Ya h.1 hgb (fun k hk => ?_), fun _ h2 => ?_, fun _ _ => ⟨css', by rw [Q5]; simpa using hR'⟩, fun h1 => ?_, fun h1 => ?_⟩
 ·rw [hf] at hk; simp [Value.ownBlock] at hk; omega
 ·rw [Kc] at h2; cases h2
 ·rw [X8 n2, hb] at h1; cases h1
 ·rw [X8 n3, hs] at h1; cases h1
theorem Xz.second {p s : Nat} {xs ys : List Rec} (h : Xz W S0 e p b s Q xs (xs ++ ys) dn f w) (n : p ≠ s) (hp : dn p = true) (hs : dn s = false) (hS0 : ∀ b, S0 b → b < W.heap.size) (hu : Qs S w u ys) (hSS : ∀ b, S b → S0 b) (hx : xs.length ≤ 1000) (hy : ys.length ≤ 1000) :
  ∃ v' w', (Builtin.append_ #[58, 58] 58 #[f p, u]).run Tryz.prog w = .ok v' w' ∧ Xz W S0 e p b s Q xs (xs ++ ys) (upd dn s) (Ks f s v') w' := by
 obtain ⟨i0, hif, hz0, hz1, hz2⟩ := info_parts Kv;obtain ⟨css, hR⟩ := h.2.2.1 hp hs;obtain ⟨v', w', css', hrun, hR', hgb⟩ := Yv.app (ty := 58) Tryz.underlying58 hif hz0 hz1 hz2 (by decide) (by decide) (by decide) hS0 hR hu (fun b h => .inl (hSS b h)) (by unfold maxLen; omega) (by omega) h.1.size;refine ⟨v', w', hrun, Ya h.1 hgb (fun k hk => (hR.row.lt k hk).1), fun _ h2 => ?_, fun _ h2 => ?_, fun _ h2 => ?_, fun _ => ⟨css', by rw [Q5]; exact hR'⟩⟩
 ·rw [X8 n, hp] at h2; cases h2
 ·rw [Kc] at h2; cases h2
 ·rw [Kc] at h2; cases h2
def Zg9 (r : Rec) (a : Option Addr) (c : Nat) (v : Value) (w : World) : Prop := ∃ g, v = .slice (some ⟨g, 0, none⟩) 1 1 ∧ w.heap[g]? = some (.cells #[.int .i64 r.kind, .int .i64 r.key, .int .i64 r.ver, .slice a r.data.length c] 61 (0, 0))
theorem Xz.built {p s : Nat} {xs : List Rec} (h : Xz W S0 e p b s (Zg9 r a c) xs zs dn f w) (n : e ≠ b ∧ p ≠ b ∧ s ≠ b) (hs : dn s = false) :
  Xz W S0 e p b s (Zg9 r a c) xs zs (upd dn b) (Ks f b (.slice (some ⟨w.heap.size, 0, none⟩) 1 1)) (w.alloc (.cells #[.int .i64 r.kind, .int .i64 r.key, .int .i64 r.ver, .slice a r.data.length c] 61)) := by
 obtain ⟨n1, n2, n3⟩ := n;have hg := Zb w (.cells #[.int .i64 r.kind, .int .i64 r.key, .int .i64 r.ver, .slice a r.data.length c] 61);refine ⟨h.1.trans hg, fun h1 h2 => ?_, fun h1 _ => ?_, fun _ _ => ⟨_, Q5, Zg _ _ _⟩, fun h1 => ?_⟩
 ·rw [X8 n1] at h1;rw [X8 n2] at h2;obtain ⟨g, k1, k2, k3⟩ := h.2.1 h1 h2;exact ⟨g, by rw [Vy n1]; exact k1, k2, (hg.block _ (Za k3)).trans k3⟩
 ·rw [X8 n2] at h1;rw [Vy n2];exact (h.2.2.1 h1 hs).imp fun _ x => x.grow hg
 ·rw [X8 n3, hs] at h1; cases h1
theorem Xz.one {p s : Nat} {xs : List Rec} (h : Xz W S0 e p b s (Zg9 r a c) xs (xs ++ [r]) dn f w) (n : p ≠ s) (hp : dn p = true) (hb : dn b = true) (hs : dn s = false) (hS0 : ∀ b, S0 b → b < W.heap.size) (hd : Z0 S0 W (.slice a r.data.length c) r.data) (hx : xs.length ≤ 1000) :
  ∃ v' w', (Builtin.append_ #[58, 58] 58 #[f p, f b]).run Tryz.prog w = .ok v' w' ∧ Xz W S0 e p b s (Zg9 r a c) xs (xs ++ [r]) (upd dn s) (Ks f s v') w' := by
 obtain ⟨i0, hif, hz0, hz1, hz2⟩ := info_parts Kv;obtain ⟨css, hR⟩ := h.2.2.1 hp hs;obtain ⟨g, hf, hh⟩ := h.2.2.2.1 hb hs;have henc : Yo.enc (InS S0 W.heap.size w) w r [.int .i64 r.kind, .int .i64 r.key, .int .i64 r.ver, .slice a r.data.length c] := ⟨_, rfl, (hd.grow h.1).mono fun _ h => .inl h⟩;obtain ⟨v', w', hrun, hown, hgb, -⟩ := run_append_own (P := Tryz.prog) (w := w) W.heap.size 58 58 61 i0 _ 4 48 Tryz.underlying58 hif hz0 hz1 hz2 (by decide) (by decide) (f p) xs.length css.flatten hR.row ⟨g, 0, none⟩ 1 1 [.int .i64 r.kind, .int .i64 r.key, .int .i64 r.ver, .slice a r.data.length c] rfl (fun j u hj => by
  have : (⟨g, 0, none⟩ : Addr).add j = ⟨g, j, none⟩ := by
   unfold Addr.add;split
   ·rename_i h; rw [h]
   ·rw [Nat.zero_add]
  rw [this];exact Zc hh j u (by simpa using hj)) (fun u hu => Yo.one henc u hu) (by unfold maxLen; omega) (by omega) h.1.size
 have hR' : Yv Yo S0 W.heap.size v' (xs ++ [r]) (css ++ [[.int .i64 r.kind, .int .i64 r.key, .int .i64 r.ver, .slice a r.data.length c]]) w' := hR.ext (by decide) hS0 rfl (fun i hi => by
  obtain rfl : i = 0 := by simpa using hi
  exact ⟨_, rfl, henc⟩) hgb (by
   have e : [([.int .i64 r.kind, .int .i64 r.key, .int .i64 r.ver, .slice a r.data.length c] : List Value)].flatten = [.int .i64 r.kind, .int .i64 r.key, .int .i64 r.ver, .slice a r.data.length c] := by simp
   rw [e]; exact hown)
 refine ⟨v', w', by rw [hf]; exact hrun, Ya h.1 hgb (fun k hk => (hR.row.lt k hk).1), fun _ h2 => ?_, fun _ h2 => ?_, fun _ h2 => ?_, fun _ => ⟨_, by rw [Q5]; exact hR'⟩⟩
 ·rw [X8 n, hp] at h2; cases h2
 ·rw [Kc] at h2; cases h2
 ·rw [Kc] at h2; cases h2
theorem Zhr (w : World) (ev : Operand → Value) (o : Oper) (s y : Operand) (ho : o.op = Op.slice 58 s none (some y) none) (b off n lc j : Nat) (hj : j < n) (hn : n ≤ lc) (h1 : ev s = .slice (some ⟨b, off, none⟩) n lc) (h3 : ev y = .int .i64 (j : Int)) :
  (execOp ev o).run Tryz.prog w = .ok (.value (.slice (some ⟨b, off, none⟩) j lc)) w := by
 unfold execOp;rw [ho];go_simp;intro h;omega
theorem Zeo (w : World) (ev : Operand → Value) (o : Oper) (s x : Operand) (ho : o.op = Op.slice 58 s (some x) none none) (b off n lc j : Nat) (hj : j ≤ n) (_hn : n ≤ lc) (h1 : ev s = .slice (some ⟨b, off, none⟩) n lc) (h3 : ev x = .int .i64 (j : Int)) :
  (execOp ev o).run Tryz.prog w = .ok (.value (.slice (some (if lc = j then ⟨b, off, none⟩ else ⟨b, off + j * 4, none⟩)) (n - j) (lc - j))) w := by
 by_cases hl : lc = j
 ·rw [if_pos hl];unfold execOp;rw [ho];go_simp
 ·rw [if_neg hl];unfold execOp;rw [ho];go_simp
structure Zy3 where
 l : List Rec
 n : Int
 e : Int
def Q9 (d : Dd) (r : Rec) : Bool := decide (r.key = d.key ∧ r.ver = d.num)
def doR (l : List Rec) (d : Dd) : Zy3 :=
 if d.kind = 3 then (match l.findIdx? (Q9 d) with | some i => ⟨l.take i ++ l.drop (i + 1), d.num, 0⟩ | none => ⟨l, 0, 6⟩)
 else if 5 < l.length then ⟨l, 0, 9⟩ else if 60000 < Xy l then ⟨l, 0, 4⟩ else ⟨l ++ [Y1 d (Xy l)], Xy l, 0⟩
theorem Zsq (S : Nat → Prop) (l : List Rec) (d : Dd) (v : Value) (ad : Option Addr) (c : Nat) (w : World) (hS : ∀ b, S b → b < w.heap.size) (hs : Qs S w v l) (hd : Z0 S w (.slice ad d.data.length c) d.data) (hm : l.length ≤ 1000) (hv : ∀ r ∈ l, r.ver ≤ 60000) (hk0 : 1 ≤ d.kind) (hk1 : d.kind ≤ 3) (hk3 : d.kind ≠ 3) :
  Calls Tryz.prog 68 #[v, .agg #[.int .i64 d.kind, .int .i64 d.key, .int .i64 d.num, .slice ad d.data.length c]] w fun r w' => ∃ v', r = .returned (.tuple #[v', .int .i64 (doR l d).n, .int .i64 (doR l d).e]) ∧ Qs (Zs S w.heap.size) w' v' (doR l d).l ∧ Zn w w' := by
 obtain ⟨ao, cp, rfl⟩ := hs.form;have g0 := Zb w (.cells #[.int .i64 d.kind, .int .i64 d.key, .int .i64 d.num, .slice ad d.data.length c] 47);have hD0 := Zg w #[.int .i64 d.kind, .int .i64 d.key, .int .i64 d.num, .slice ad d.data.length c] 47;obtain ⟨R, hR⟩ : ∃ R, R = doR l d := ⟨_, rfl⟩;rw [← hR];have HR : Hid (R = if 5 < l.length then ⟨l, 0, 9⟩ else if 60000 < Xy l then ⟨l, 0, 4⟩ else ⟨l ++ [Y1 d (Xy l)], Xy l, 0⟩) := by show R = _; rw [hR]; unfold doR; rw [if_neg hk3]
 have d0 : (d.kind != 3) = true := by simp [hk3]
 clear hR hk3;go_enter Tryz.func68, Tryz.ntmps68;go_wp2_with fail;refine (Zpt S l _ _ (hs.grow g0) (by omega) hv).mono ?_;rintro r w1 ⟨rfl, g1⟩;have gW := g0.trans g1;have hD := (g1.block _ (Za hD0)).trans hD0;clear g0 g1 hD0 d0;generalize Xy l = nx at *;by_cases h5 : 5 < l.length
 ·have hRR : R = ⟨l, 0, 9⟩ := by rw [HR.out, if_pos h5]
  subst hRR;have hsE := (hs.grow gW).mono (S' := Zs S w.heap.size) fun _ h => .inl h
  clear HR hD;go_wp2_with fail;exact bodyPost_ret (v := .tuple #[.slice ao l.length cp, .int .i64 0, .int .i64 9]) (by simp [results, Tryz.results68, go_sem]) rfl ⟨_, rfl, hsE, gW⟩
 ·by_cases h6 : 60000 < nx
  ·have hRR : R = ⟨l, 0, 4⟩ := by rw [HR.out, if_neg h5, if_pos h6]
   subst hRR;have hsE := (hs.grow gW).mono (S' := Zs S w.heap.size) fun _ h => .inl h
   clear HR hD;go_wp2_with fail;exact bodyPost_ret (v := .tuple #[.slice ao l.length cp, .int .i64 0, .int .i64 4]) (by simp [results, Tryz.results68, go_sem]) rfl ⟨_, rfl, hsE, gW⟩
  ·have hRR : R = ⟨l ++ [Y1 d nx], nx, 0⟩ := by rw [HR.out, if_neg h5, if_neg h6]
   subst hRR;have hSW : ∀ b, S b → b < w1.heap.size := fun b h => Nat.lt_of_lt_of_le (hS b h) gW.size
   have hsW := hs.grow gW;have hdW := hd.grow gW;clear HR;obtain ⟨W, rfl⟩ : ∃ W : World, W = w1 := ⟨_, rfl⟩;go_wp2_with fail
   refine Vp [pl ((fun _ _ => True)), px (.slice ao l.length cp), pl ((fun _ _ => True)), px (.agg #[.int .i64 d.kind, .int .i64 d.key, .int .i64 d.num, .slice ad d.data.length c]), px (.int .i64 nx), px (.agg #[.int .i64 (1 + d.kind), .int .i64 d.key, .int .i64 nx, .slice ad d.data.length c]), pl ((fun _ _ => True)), pl ((fun _ _ => True)), px (.int .i64 nx), pl1 7 ((fun v u _ => v = u)), px (.int .i64 nx), px (.int .i64 0)] [none, none, some ((fun _ _ => True)), none, none, none, none, some ((fun _ _ => True))] (Xz W S 0 2 6 7 (Zg9 (Y1 d nx) ad c) l (l ++ [Y1 d nx])) (by kernel_rfl) (by kernel_rfl) ⟨Yj ((fun _ _ _ _ _ => trivial)), se, Yj ((fun _ _ _ _ _ => trivial)), se, se, se, Yj ((fun _ _ _ _ _ => trivial)), Yj ((fun _ _ _ _ _ => trivial)), se, (fun _ _ _ _ _ h => h), se, se, trivial⟩ ⟨⟨(fun _ => trivial), ⟨.inr ((fun _ _ _ _ _ _ => trivial)), x5, .inl (by kernel_rfl), x5, x5, .inl (by kernel_rfl), .inr ((fun _ _ _ _ _ _ => trivial)), .inl (by kernel_rfl), x5, .inl (by kernel_rfl), .inl (by kernel_rfl), .inl (by kernel_rfl), trivial⟩⟩, ⟨(fun _ => trivial), ⟨.inr ((fun _ _ _ _ _ _ => trivial)), x5, .inr ((fun _ _ _ _ _ _ => trivial)), x5, x5, x5, .inr ((fun _ _ _ _ _ _ => trivial)), .inl (by kernel_rfl), x5, .inl (by kernel_rfl), .inl (by kernel_rfl), .inl (by kernel_rfl), trivial⟩⟩, trivial⟩ ⟨n5, n5, n5, n5, n5, n5, n5, n5, n5, n5, n5, n5, trivial⟩ (Xz.start _ _ _ _ _ _ _ _ _) ?_ ?_
   ·refine ⟨?_, ?_, ?_, ?_, ?_, ?_, ?_, ?_, ?_, ?_, ?_, ?_, trivial⟩
    ·refine Zt rfl fun a w' _ _ _ C B A => ?_;have n2 := C.not1 2 (by kernel_rfl);have n5 := C.notBy 5 2 n2 (by kernel_rfl);refine Qu (v := .slice (some ⟨w'.heap.size, 0, none⟩) 0 0) (w' := w'.alloc (.cells #[] 61)) ?_ (Zb _ _) (Xz.empty B (by decide) n2 (C.notBy 6 5 n5 (by kernel_rfl)) (C.notBy 7 2 n2 (by kernel_rfl))) trivial;clear A B C n2 n5;go_simp;all_goals go_arith
    ·exact Zt rfl fun a _ _ _ _ _ B A => Xn rfl B (Zl A 0 rfl)
    ·refine Zt rfl fun a w' _ _ _ C B A => ?_;have e22 : ((fun _ _ => True)) (a (.tmp 22)) w' := Ze A 0 rfl;have e23 : a (.tmp 23) = _ := Ze A 1 rfl;have n5 := C.not1 5 (by kernel_rfl);obtain ⟨v', w2, hrun, hJ⟩ := Xz.first B (by decide) (C.rd 0 (by kernel_rfl)) C.un (C.notBy 6 5 n5 (by kernel_rfl)) (C.not1 7 (by kernel_rfl)) hSW (hsW.grow B.1) (fun _ h => h) hm;exact Qu (v := v') (w' := w2) (Q1 (.tmp 22) (.tmp 23) 58 rfl _ _ rfl e23 hrun) trivial hJ trivial
    ·refine Zt rfl fun a _ _ _ _ C B A => ?_;have e3 : a (.tmp 3) = .pointer (some ⟨w.heap.size, 0, none⟩) := Zl A 3 rfl;have hx := (B.1.block _ (Za hD)).trans hD;obtain ⟨z0, z1, z2, z3⟩ := Z4 hx rfl rfl rfl rfl;refine Qt ?_ B rfl;clear A B C hx;go_simp;all_goals go_arith
    ·exact Zt rfl fun a _ _ _ _ _ B A => Xn rfl B (Zl A 7 rfl)
    ·refine Zt rfl fun a B _ _ _ D C A => ?_;have e25 : a (.tmp 25) = _ := Ze A 3 rfl;have e26 : a (.tmp 26) = _ := Ze A 4 rfl;refine Yf (f := 93) (args := #[.agg #[.int .i64 d.kind, .int .i64 d.key, .int .i64 d.num, .slice ad d.data.length c], .int .i64 nx]) ?_ ((Zhv d nx ad c B (by omega) (by omega)).mono ?_)
     ·clear A C D;go_simp;all_goals go_arith
     ·rintro e w2 ⟨rfl, g2⟩;exact ⟨_, rfl, g2, trivial, Xz.on C g2 (D.not1 6 (by kernel_rfl)), rfl⟩
    ·refine Zt rfl fun a w' _ _ _ C B A => ?_;have e27 : a (.tmp 27) = _ := Ze A 5 rfl;refine Qu (v := .slice (some ⟨w'.heap.size, 0, none⟩) 1 1) (w' := w'.alloc (.cells #[.int .i64 (1 + d.kind), .int .i64 d.key, .int .i64 nx, .slice ad d.data.length c] 61)) ?_ (Zb _ _) (Xz.built B (by decide) (C.not1 7 (by kernel_rfl))) trivial;clear A B C;go_simp;all_goals go_arith
    ·refine Zt rfl fun a w' _ _ _ C B A => ?_;have e24 : ((fun _ _ => True)) (a (.tmp 24)) w' := Ze A 2 rfl;have e28 : ((fun _ _ => True)) (a (.tmp 28)) w' := Ze A 6 rfl;obtain ⟨v', w2, hrun, hJ⟩ := Xz.one B (by decide) (C.rd 2 (by kernel_rfl)) (C.rd 6 (by kernel_rfl)) C.un hSW hdW hm;exact Qu (v := v') (w' := w2) (Q1 (.tmp 24) (.tmp 28) 58 rfl _ _ rfl rfl hrun) trivial hJ trivial
    ·exact Zt rfl fun a _ _ _ _ _ B A => Xn rfl B (Zl A 7 rfl)
    ·refine Zt rfl fun a B _ _ _ _ C A => ?_;have e29 : ((fun _ _ => True)) (a (.tmp 29)) B := Ze A 7 rfl;exact Xm rfl C rfl
    ·exact Zt rfl fun a _ _ _ _ _ B A => Xm rfl B (Ze A 8 rfl)
    ·refine Zt rfl fun a _ C _ _ _ B A => ?_;exact Xm rfl B (C _)
   ·intro vs w' dn hdn hg ht;obtain ⟨q22, (r23 : vs 1 = _), q24, (r25 : vs 3 = _), (r26 : vs 4 = _), (r27 : vs 5 = _), q28, q29, (r30 : vs 8 = _), q4, (r5 : vs 10 = _), (r6 : vs 11 = _), -⟩ := ht;replace q22 : ((fun _ _ => True)) (vs 0) w' := q22;replace q24 : ((fun _ _ => True)) (vs 2) w' := q24;replace q28 : ((fun _ _ => True)) (vs 6) w' := q28;replace q29 : ((fun _ _ => True)) (vs 7) w' := q29;replace q4 : ((fun v u _ => v = u)) (vs 9) (vs 7) w' := q4;simp only [Yi, Act.put, List.setIfInBounds_toArray, List.set_cons_zero, List.set_cons_succ, Nat.reduceAdd, r23, r25, r26, r27, r30, r5, r6];clear r23 r25 r26 r27 r30 r5 r6;obtain ⟨css, hR⟩ := hg.2.2.2.2 (hdn 7 (by decide));have e9 : vs 9 = vs 7 := q4;rw [← e9] at hR;have hL := hR.slice.mono (S' := Zs S w.heap.size) (fun b h => Xq h (fun x => x) (fun x => Nat.le_trans gW.size x));have gE := gW.trans hg.1;clear hR hg hdn q4 e9 q22 q24 q28 q29 hsW hdW hD;generalize vs 9 = v9 at *;go_wp2_with fail;exact bodyPost_ret (v := .tuple #[v9, .int .i64 nx, .int .i64 0]) (by simp [results, Tryz.results68, go_sem]) rfl ⟨_, rfl, hL, gE⟩
theorem Zgv {p : Rec → Bool} (hk : k < l.length) (h0 : ∀ x ∈ l.take k, p x = false) (h1 : p l[k] = true) : l.findIdx? p = some k := by
 rw [List.findIdx?_eq_some_iff_getElem];refine ⟨hk, h1, fun j hj => ?_⟩;have := h0 l[j] (List.mem_take_iff_getElem.2 ⟨j, by omega, rfl⟩);simp [this]
theorem Zgu {p : Rec → Bool} (h0 : ∀ x ∈ l, p x = false) : l.findIdx? p = none := List.findIdx?_eq_none_iff.2 h0
theorem Zha (hk : k < l.length) {x : Rec} (h : x ∈ l.take (k + 1)) : x ∈ l.take k ∨ x = l[k] := by
 rw [List.take_succ_eq_append_getElem hk] at h;rcases List.mem_append.1 h with h | h
 ·exact .inl h
 ·exact .inr (List.mem_singleton.1 h)
theorem Z7.sub2 {sh : Qr α} {off : Nat} {xs : List α} (h : Z7 sh S w (.slice (some ⟨b, off, none⟩) n cap) xs) (lo : Nat) (hl : lo ≤ xs.length) (cap' : Nat) (hc : xs.length - lo ≤ cap') (ad : Addr) (ha : lo < xs.length → ad = ⟨b, off + lo * sh.size, none⟩) :
  Z7 sh S w (.slice (some ad) (xs.length - lo) cap') (xs.drop lo) := by
 by_cases h0 : lo < xs.length
 ·rw [ha h0];have h1 := h.sub lo xs.length hl (Nat.le_refl _) cap' hc;rw [List.take_of_length_le (by simp)] at h1;exact h1
 ·rw [show xs.length - lo = 0 from by omega, List.drop_of_length_le (by omega)];exact .inl ⟨_, cap', rfl, rfl, fun h => by cases h⟩
theorem Zmf {sh : Qr α} {ao : Option Addr} {xs : List α} (h : Z7 sh S w (.slice ao n cap) xs) : xs.length ≤ cap := by
 rcases h with ⟨_, _, _, rfl, _⟩ | ⟨_, _, _, _, h2, h3, _⟩
 ·simp
 ·cases h2; exact h3
theorem Zpz (S : Nat → Prop) (l : List Rec) (d : Dd) (v : Value) (ad : Option Addr) (c : Nat) (w : World) (hS : ∀ b, S b → b < w.heap.size) (hs : Qs S w v l) (hm : l.length ≤ 1000) (hk3 : d.kind = 3) :
  Calls Tryz.prog 68 #[v, .agg #[.int .i64 d.kind, .int .i64 d.key, .int .i64 d.num, .slice ad d.data.length c]] w fun r w' => ∃ v', r = .returned (.tuple #[v', .int .i64 (doR l d).n, .int .i64 (doR l d).e]) ∧ Qs (Zs S w.heap.size) w' v' (doR l d).l ∧ Zn w w' := by
 obtain ⟨ao, cp, rfl⟩ := hs.form;have g0 := Zb w (.cells #[.int .i64 d.kind, .int .i64 d.key, .int .i64 d.num, .slice ad d.data.length c] 47);have hD0 := Zg w #[.int .i64 d.kind, .int .i64 d.key, .int .i64 d.num, .slice ad d.data.length c] 47;obtain ⟨R, hR⟩ : ∃ R, R = doR l d := ⟨_, rfl⟩;rw [← hR];have HF : Hid (∀ i, l.findIdx? (Q9 d) = some i → R = ⟨l.take i ++ l.drop (i + 1), d.num, 0⟩) := fun i h => by rw [hR]; unfold doR; rw [if_pos hk3, h]
 have HN : Hid (l.findIdx? (Q9 d) = none → R = ⟨l, 0, 6⟩) := fun h => by rw [hR]; unfold doR; rw [if_pos hk3, h]
 have d0 : (d.kind != 3) = false := by simp [hk3]
 clear hR hk3;go_enter Tryz.func68, Tryz.ntmps68;go_wp2_with fail;clear d0;generalize World.alloc w _ = W0 at *;go_loopw [33] (fun i wr => ∃ k : Nat, k ≤ l.length ∧ i = .int .i64 k ∧ (∀ x ∈ l.take k, Q9 d x = false) ∧ Zn w wr ∧ wr.heap[w.heap.size]? = some (.cells #[.int .i64 d.kind, .int .i64 d.key, .int .i64 d.num, .slice ad d.data.length c] 47 (0, 0))) (fun i _ => l.length - (intOf i).toNat)
 case atStart => exact ⟨0, Nat.zero_le _, rfl, fun x hx => by simp at hx, g0, hD0⟩
 case round =>
  clear g0 hD0;obtain ⟨k, hk, rfl, hno, hg, hD⟩ := hrel;have HNO : Hid _ := hno;clear hno;by_cases hlt : k < l.length
  ·obtain ⟨b, off, a1, c1, hv1, q0, q1, q2, q3, hu⟩ := Jx (hs.grow hg) k hlt;cases hv1;have hcap := Zmf hs;have HH : Hid (Q9 d l[k] = true → R = ⟨l.take k ++ l.drop (k + 1), d.num, 0⟩) := fun h => HF.out k (Zgv hlt HNO.out h)
   have HD : Hid (Q9 d l[k] = false → ∀ x ∈ l.take (k + 1), Q9 d x = false) := fun h x hx => (Zha hlt hx).elim (fun h2 => HNO.out x h2) (fun e => by rw [e]; exact h)
   have HB : Hid (Q9 d l[k] = decide (l[k].key = d.key ∧ l[k].ver = d.num)) := rfl;generalize l[k] = x at *;have g1 := Zb wr (.cells #[.int .i64 x.kind, .int .i64 x.key, .int .i64 x.ver, .slice a1 x.data.length c1] 61);have hX1 := Zg wr #[.int .i64 x.kind, .int .i64 x.key, .int .i64 x.ver, .slice a1 x.data.length c1] 61;have hD1 := (g1.block _ (Za hD)).trans hD;have gw1 := hg.trans g1;have x1 := Zc hX1 1 _ rfl;have x2 := Zc hX1 2 _ rfl;have y1 := Zc hD1 1 _ rfl;have y2 := Zc hD1 2 _ rfl;clear g1 hX1 hg hD hu HNO;by_cases hkk : x.key = d.key
   ·have d1 : (x.key == d.key) = true := by simp [hkk]
    by_cases hvv : x.ver = d.num
    ·have d2 : (x.ver == d.num) = true := by simp [hvv]
     have hRR := HH.out (by rw [HB.out]; simp [hkk, hvv]);subst hRR;clear hkk hvv HH HD HB HF HN;go_wp2_with fail;clear q0 q1 q2 q3 x1 x2 y1 y2 d1 d2;generalize World.alloc wr _ = W at *;generalize wr.heap.size = gx at *;have hSW : ∀ b, S b → b < W.heap.size := fun b h => Nat.lt_of_lt_of_le (hS b h) gw1.size
     have hsW := hs.grow gw1
     refine Vp [pl ((fun _ _ => True)), px (.slice (some ⟨b, off, none⟩) l.length cp), px (.int .i64 (k : Int)), px (.slice (some ⟨b, off, none⟩) k cp), pl ((fun _ _ => True)), px (.slice (some ⟨b, off, none⟩) l.length cp), px (.int .i64 (k : Int)), px (.int .i64 ((k : Int) + 1)), pl ((fun v _ => ∃ ad, v = .slice (some ad) (l.length - (k + 1)) (cp - (k + 1)) ∧ (k + 1 < l.length → ad = ⟨b, off + (k + 1) * 4, none⟩))), pl ((fun _ _ => True)), px (.pointer (some ⟨w.heap.size, 2, none⟩)), px (.int .i64 d.num), pl1 9 ((fun v u _ => v = u)), px (.int .i64 d.num), px (.int .i64 0)] [none, none, none, none, some ((fun _ _ => True)), none, none, none, none, some ((fun _ _ => True))] (Xz W S 0 4 12 9 (fun _ _ => True) (l.take k) (l.take k ++ l.drop (k + 1))) (by kernel_rfl) (by kernel_rfl) ⟨Yj ((fun _ _ _ _ _ => trivial)), se, se, se, Yj ((fun _ _ _ _ _ => trivial)), se, se, se, Yj ((fun _ _ _ _ h => h)), Yj ((fun _ _ _ _ _ => trivial)), se, se, (fun _ _ _ _ _ h => h), se, se, trivial⟩ ⟨⟨(fun _ => trivial), ⟨.inr ((fun _ _ _ _ _ _ => trivial)), x5, x5, x5, .inl (by kernel_rfl), x5, x5, x5, .inr ((fun _ _ _ _ _ h => h)), .inl (by kernel_rfl), x5, x5, .inl (by kernel_rfl), .inl (by kernel_rfl), .inl (by kernel_rfl), trivial⟩⟩, ⟨(fun _ => trivial), ⟨.inr ((fun _ _ _ _ _ _ => trivial)), x5, x5, x5, .inr ((fun _ _ _ _ _ _ => trivial)), x5, x5, x5, .inr ((fun _ _ _ _ _ h => h)), .inl (by kernel_rfl), x5, x5, .inl (by kernel_rfl), .inl (by kernel_rfl), .inl (by kernel_rfl), trivial⟩⟩, trivial⟩ ⟨n5, n5, n5, n5, n5, n5, n5, n5, n5, n5, n5, n5, n5, n5, n5, trivial⟩ (Xz.start _ _ _ _ _ _ _ _ _) ?_ ?_
     ·refine ⟨?_, ?_, ?_, ?_, ?_, ?_, ?_, ?_, ?_, ?_, ?_, ?_, ?_, ?_, ?_, trivial⟩
      ·refine Zt rfl fun a w' _ _ _ C B A => ?_;have n4 := C.not1 4 (by kernel_rfl);have n9 := C.notBy 9 4 n4 (by kernel_rfl);refine Qu (v := .slice (some ⟨w'.heap.size, 0, none⟩) 0 0) (w' := w'.alloc (.cells #[] 61)) ?_ (Zb _ _) (Xz.empty B (by decide) n4 (C.notBy 12 9 n9 (by kernel_rfl)) n9) trivial;clear A B C n4 n9;go_simp;all_goals go_arith
      ·exact Zt rfl fun a _ _ _ _ _ B A => Xn rfl B (Zl A 0 rfl)
      ·exact Zt rfl fun a _ _ _ _ _ B A => Xn rfl B (Zl A 8 rfl)
      ·refine Zt rfl fun a B _ _ _ _ C A => ?_;have e51 : a (.tmp 51) = _ := Ze A 1 rfl;have e52 : a (.tmp 52) = _ := Ze A 2 rfl;exact Qt (Zhr B a _ _ _ rfl b off l.length cp k hlt hcap e51 e52) C rfl
      ·refine Zt rfl fun a w' _ _ _ C B A => ?_;have e50 : ((fun _ _ => True)) (a (.tmp 50)) w' := Ze A 0 rfl;have e53 : a (.tmp 53) = _ := Ze A 3 rfl;have n9 := C.not1 9 (by kernel_rfl);have hu := (hsW.grow B.1).sub 0 k (Nat.zero_le _) (Nat.le_of_lt hlt) cp (by omega);obtain ⟨v', w2, hrun, hJ⟩ := Xz.first B (by decide) (C.rd 0 (by kernel_rfl)) C.un (C.notBy 12 9 n9 (by kernel_rfl)) n9 hSW (by simpa using hu) (fun _ h => h) (by rw [List.length_take]; omega);exact Qu (v := v') (w' := w2) (Q1 (.tmp 50) (.tmp 53) 58 rfl _ _ rfl e53 hrun) trivial hJ trivial
      ·exact Zt rfl fun a _ _ _ _ _ B A => Xn rfl B (Zl A 0 rfl)
      ·exact Zt rfl fun a _ _ _ _ _ B A => Xn rfl B (Zl A 8 rfl)
      ·refine Zt rfl fun a _ _ _ _ _ B A => ?_;have e56 : a (.tmp 56) = _ := Ze A 6 rfl;refine Qt ?_ B rfl;clear A B;go_simp;all_goals go_arith
      ·refine Zt rfl fun a B _ _ _ _ C A => ?_;have e55 : a (.tmp 55) = _ := Ze A 5 rfl;have e57 : a (.tmp 57) = _ := Ze A 7 rfl;exact Qt (Zeo B a _ _ _ rfl b off l.length cp (k + 1) hlt hcap e55 (by rw [e57]; rfl)) C ⟨_, rfl, fun h => if_neg (by omega)⟩
      ·refine Zt rfl fun a w' _ _ _ C B A => ?_;have e54 : ((fun _ _ => True)) (a (.tmp 54)) w' := Ze A 4 rfl;have e58 : ((fun v _ => ∃ ad, v = .slice (some ad) (l.length - (k + 1)) (cp - (k + 1)) ∧ (k + 1 < l.length → ad = ⟨b, off + (k + 1) * 4, none⟩))) (a (.tmp 58)) w' := Ze A 8 rfl;obtain ⟨ad, h58, had⟩ := e58;have hu := (hsW.grow B.1).sub2 (k + 1) hlt (cp - (k + 1)) (by omega) ad had;obtain ⟨v', w2, hrun, hJ⟩ := Xz.second B (by decide) (C.rd 4 (by kernel_rfl)) C.un hSW hu (fun _ h => h) (by rw [List.length_take]; omega) (by rw [List.length_drop]; omega);exact Qu (v := v') (w' := w2) (Q1 (.tmp 54) (.tmp 58) 58 rfl _ _ rfl h58 hrun) trivial hJ trivial
      ·refine Zt rfl fun a _ _ _ _ _ B A => ?_;have e3 : a (.tmp 3) = .pointer (some ⟨w.heap.size, 0, none⟩) := Zl A 3 rfl;refine Qt ?_ B rfl;clear A B;go_simp;all_goals go_arith
      ·refine Zt rfl fun a _ _ _ _ C B A => ?_;have e60 : a (.tmp 60) = _ := Ze A 10 rfl;have z2 := Zc ((B.1.block _ (Za hD1)).trans hD1) 2 _ rfl;refine Qt ?_ B rfl;clear A B C;go_simp;all_goals go_arith
      ·refine Zt rfl fun a B _ _ _ _ C A => ?_;have e59 : ((fun _ _ => True)) (a (.tmp 59)) B := Ze A 9 rfl;exact Xm rfl ⟨C.1, C.2.1, C.2.2.1, fun _ _ => trivial, C.2.2.2.2⟩ rfl
      ·exact Zt rfl fun a _ _ _ _ _ B A => Xm rfl B (Ze A 11 rfl)
      ·refine Zt rfl fun a _ C _ _ _ B A => ?_;exact Xm rfl B (C _)
     ·intro vs w' dn hdn hg ht;obtain ⟨q50, (r51 : vs 1 = _), (r52 : vs 2 = _), (r53 : vs 3 = _), q54, (r55 : vs 5 = _), (r56 : vs 6 = _), (r57 : vs 7 = _), q58, q59, (r60 : vs 10 = _), (r61 : vs 11 = _), q4, (r5 : vs 13 = _), (r6 : vs 14 = _), -⟩ := ht;replace q50 : ((fun _ _ => True)) (vs 0) w' := q50;replace q54 : ((fun _ _ => True)) (vs 4) w' := q54;replace q58 : ((fun v _ => ∃ ad, v = .slice (some ad) (l.length - (k + 1)) (cp - (k + 1)) ∧ (k + 1 < l.length → ad = ⟨b, off + (k + 1) * 4, none⟩))) (vs 8) w' := q58;replace q59 : ((fun _ _ => True)) (vs 9) w' := q59;replace q4 : ((fun v u _ => v = u)) (vs 12) (vs 9) w' := q4;simp only [Yi, Act.put, List.setIfInBounds_toArray, List.set_cons_zero, List.set_cons_succ, Nat.reduceAdd, r51, r52, r53, r55, r56, r57, r60, r61, r5, r6];clear r51 r52 r53 r55 r56 r57 r60 r61 r5 r6;obtain ⟨css, hR⟩ := hg.2.2.2.2 (hdn 9 (by decide));have e12 : vs 12 = vs 9 := q4;rw [← e12] at hR;have hL := hR.slice.mono (S' := Zs S w.heap.size) (fun b h => Xq h (fun x => x) (fun x => Nat.le_trans gw1.size x));have gE := gw1.trans hg.1;clear hR hg hdn q4 e12 q50 q54 q58 q59 hsW hD1;generalize vs 12 = v9 at *;go_wp2_with fail;exact bodyPost_ret (v := .tuple #[v9, .int .i64 d.num, .int .i64 0]) (by simp [results, Tryz.results68, go_sem]) rfl ⟨_, rfl, hL, gE⟩
    ·have d2 : (x.ver == d.num) = false := by simp [hvv]
     have HDD : Hid _ := HD.out (by rw [HB.out]; simp [hvv]);clear hkk hvv HH HD HB;go_wp2_with fail;go_roundw
     case rel => exact ⟨k + 1, by omega, by go_num, HDD.out, gw1, hD1⟩
     case measure => simp [intOf]; omega
   ·have d1 : (x.key == d.key) = false := by simp [hkk]
    have HDD : Hid _ := HD.out (by rw [HB.out]; simp [hkk]);clear hkk HH HD HB;go_wp2_with fail;go_roundw
    case rel => exact ⟨k + 1, by omega, by go_num, HDD.out, gw1, hD1⟩
    case measure => simp [intOf]; omega
  ·have hRR := HN.out (Zgu fun x hx => HNO.out x (by rw [List.take_of_length_le (by omega)]; exact hx));subst hRR;have hsE := (hs.grow hg).mono (S' := Zs S w.heap.size) fun _ h => .inl h
   clear HF HN HNO hD;go_wp2_with fail;exact bodyPost_ret (v := .tuple #[.slice ao l.length cp, .int .i64 0, .int .i64 6]) (by simp [results, Tryz.results68, go_sem]) rfl ⟨_, rfl, hsE, hg⟩
theorem Zvn (S : Nat → Prop) (l : List Rec) (d : Dd) (v : Value) (ad : Option Addr) (c : Nat) (w : World) (hS : ∀ b, S b → b < w.heap.size) (hs : Qs S w v l) (hd : Z0 S w (.slice ad d.data.length c) d.data) (hm : l.length ≤ 1000) (hv : ∀ r ∈ l, r.ver ≤ 60000) (hk0 : 1 ≤ d.kind) (hk1 : d.kind ≤ 3) :
  Calls Tryz.prog 68 #[v, .agg #[.int .i64 d.kind, .int .i64 d.key, .int .i64 d.num, .slice ad d.data.length c]] w fun r w' => ∃ v', r = .returned (.tuple #[v', .int .i64 (doR l d).n, .int .i64 (doR l d).e]) ∧ Qs (Zs S w.heap.size) w' v' (doR l d).l ∧ Zn w w' := by
 by_cases hk3 : d.kind = 3
 ·exact Zpz S l d v ad c w hS hs hm hk3
 ·exact Zsq S l d v ad c w hS hs hd hm hv hk0 hk1 hk3
end Go.Proofs.YtpdnapbchcdhlacGreat
