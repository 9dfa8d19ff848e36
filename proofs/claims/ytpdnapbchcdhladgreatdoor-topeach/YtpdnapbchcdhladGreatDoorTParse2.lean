import Derived.Test.YtpdnapbchcdhladGreatDoorTWords
set_option maxHeartbeats 8000000
namespace Go.Proofs.YtpdnapbchcdhladGreatDoor
set_option maxRecDepth 100000
open Go.RowKit
open Plain Reg
variable {K : Int}
theorem Znz (u : List UInt8) : ∃ (K N : Int) (B : Bool), Zed u = .tuple #[.agg #[.int .i64 K, .int .i64 N], .bool B] ∧ ((B = false ∧ Ks u = none) ∨ (B = true ∧ Ks u = some (K, N))) := by
 unfold Zed;cases h : Ks u with
 | none => exact ⟨0, 0, false, rfl, .inl ⟨rfl, rfl⟩⟩
 | some kn => exact ⟨kn.1, kn.2, true, rfl, .inr ⟨rfl, rfl⟩⟩
theorem Zk1 {u : List UInt8} {N : Int} (h : Ks u = some (K, N)) : (K = 1 ∧ N = 3) ∨ (K = 2 ∧ N = 2) ∨ (K = 3 ∧ N = 3) := by
 unfold Ks at h;split at h
 ·cases h; simp
 ·split at h
  ·cases h; simp
  ·split at h
   ·cases h; simp
   ·cases h
theorem Zoe {s : List UInt8} {ws : List (List UInt8)} (h : Zm5 s ws) : ∃ u0 us rest, ws = u0 :: us ∧ Yx s = u0 :: rest ∧ (us = rest ∨ (us.length = 3 ∧ 3 < rest.length)) := by
 obtain ⟨_, h | ⟨h1, h2, h3⟩⟩ := h
 ·cases hw : Yx s with
  | nil => exact absurd hw (Zc0 s)
  | cons u0 us => exact ⟨u0, us, us, by rw [h, hw], rfl, .inl rfl⟩
 ·cases hw : Yx s with
  | nil => exact absurd hw (Zc0 s)
  | cons u0 rest =>
   cases ws with
   | nil => simp at h1
   | cons u us =>
    rw [hw] at h3 h2;simp at h3 h1 h2;subst h3;exact ⟨u, us, rest, rfl, rfl, .inr ⟨by omega, by omega⟩⟩
theorem Znq {w l : List UInt8} (h : Kp w = some l) : l.length ≤ w.length := by
 unfold Kp at h;split at h
 ·cases h; simp
 ·split at h
  ·cases h
  ·have := Zcj w l h; omega
theorem Zur {us : List (List UInt8)} {d : Dd} {n : Nat} (h : Q3 K us = some d) (hu : ∀ x ∈ us, x.length ≤ n) : d.data.length ≤ n := by
 unfold Q3 at h;split at h
 ·split at h
  ·split at h
   ·cases h; simp
   ·cases h
  ·cases h
 ·split at h
  ·split at h
   ·rename_i h1 h2;cases h;exact Nat.le_trans (Znq h2) (hu _ (by simp))
   ·cases h
  ·split at h
   ·split at h
    ·cases h; simp
    ·cases h
   ·cases h
 ·cases h
theorem Znk (V : World → Prop) (hV : ∀ w w', V w → Zj w w' → V w') (IT : Zd6 V) (AT : Zd8 V) (IX : Zhd) (SP : Zkh V) (s : List UInt8) (w : World) (hw : V w) (hs : s.length ≤ 140737488355328) :
  Calls Tryz.prog 16 #[.string ⟨s.toArray⟩] w fun r w' => ∃ v, r = .returned v ∧ Zy5 (K6 s) v w' ∧ Zj w w' := by
 obtain ⟨PD, hPD⟩ : ∃ PD, PD = K6 s := ⟨_, rfl⟩;rw [← hPD];have HPD : Hid _ := hPD;clear hPD;have g0 := Zd w (.cells #[.int .i64 0, .int .i64 0, .int .i64 0, .slice none 0 0] 40);have hZ0 := Zk w #[.int .i64 0, .int .i64 0, .int .i64 0, .slice none 0 0] 40;go_enter Tryz.func16, Tryz.ntmps16;go_wp2_with fail;refine (SP s _ (hV _ _ hw g0) hs).mono ?_;rintro r W ⟨ws, g, c, hP, rfl, hcap, hcell, g1⟩;obtain ⟨u0, us, rest, rfl, hws, hrest⟩ := Zoe hP;have hZ := (g1.block _ (Za hZ0)).trans hZ0;have gW := g0.trans g1;have hc0 : W.cell? ⟨g, 0, none⟩ = some (.string ⟨u0.toArray⟩) := hcell 0 (by simp);have HCELL : Hid (∀ (i : Nat) (h : i < us.length), W.cell? ⟨g, i + 1, none⟩ = some (.string ⟨us[i].toArray⟩)) := fun i h => hcell (i + 1) (by simpa using h)
 have hpd := Zkp hws;rw [← HPD.out] at hpd;have HWL : Hid (∀ x ∈ rest, x.length ≤ 140737488355328) := fun x hx => Nat.le_trans (Zfp s x (by rw [hws]; simp [hx])) hs
 have HRE : Hid _ := hrest;obtain ⟨K, N, B, hSV, hKN⟩ := Znz u0;have HKN : Hid _ := hKN;have HPR : Hid _ := hpd;simp only [List.length_cons] at hcap ⊢;clear g0 hZ0 g1 hP hcell hws hrest hKN hpd HPD;go_wp2_with fail;refine Qw [pl ((fun _ _ => True)), px (.slice (some ⟨g, 0, none⟩) (us.length + 1) c), px (.pointer (some ⟨g, 0, none⟩)), px (.string ⟨u0.toArray⟩), px (.tuple #[.agg #[.int .i64 K, .int .i64 N], .bool B]), px (.tuple #[.agg #[.int .i64 K, .int .i64 N], .bool B]), px (.agg #[.int .i64 K, .int .i64 N]), px (.bool B), pl ((fun _ _ => True)), pl ((fun _ _ => True)), px (.bool B)] [none, none, none, none, none, none, none, none, none, some ((fun _ _ => True))] (ShJ W K N) (by kernel_rfl) (by kernel_rfl) ⟨Ym ((fun _ _ _ _ _ => trivial)), se, se, se, se, se, se, se, Ym ((fun _ _ _ _ _ => trivial)), Ym ((fun _ _ _ _ _ => trivial)), se, trivial⟩ ⟨⟨(fun _ => trivial), ⟨.inr ((fun _ _ _ _ _ _ => trivial)), x5, x5, x5, x5, x5, x5, x5, .inr ((fun _ _ _ _ _ _ => trivial)), .inl (by kernel_rfl), .inl (by kernel_rfl), trivial⟩⟩, trivial⟩ ⟨n5, n5, n5, n5, n5, n5, n5, n5, n5, fun _ _ _ _ h => h, n5, trivial⟩ (fun f => ShJ.start _ _ _ f) ?_ ?_
 ·refine ⟨?_, ?_, ?_, ?_, ?_, ?_, ?_, ?_, ?_, ?_, ?_, trivial⟩
  ·refine Zn rfl fun a B _ _ _ D C A => ?_;refine Yf (f := 32) (args := #[]) ?_ ((Zko B).mono ?_)
   ·clear A C D;go_simp;all_goals go_arith
   ·rintro e w2 ⟨b, rfl, hb1, hb2, g2⟩;exact ⟨_, rfl, g2, trivial, ShJ.call C g2 hb2, trivial⟩
  ·exact Zn rfl fun a _ _ _ _ _ B A => Y7 rfl B (Zs A 4 rfl)
  ·refine Zn rfl fun a _ _ _ _ _ B A => ?_;have e13 : a (.tmp 13) = _ := Zh A 1 rfl;refine Yq ?_ B rfl;clear A B;go_simp;all_goals go_arith
  ·refine Zn rfl fun a _ _ _ _ C B A => ?_;have e14 : a (.tmp 14) = _ := Zh A 2 rfl;have h1 := (Below.cell B.1 (Zr hc0)).trans hc0;refine Yq ?_ B rfl;clear A B C;go_simp;all_goals go_arith
  ·refine Zn rfl fun a B _ _ _ D C A => ?_;have e12 : ((fun _ _ => True)) (a (.tmp 12)) B := Zh A 0 rfl;have e15 : a (.tmp 15) = _ := Zh A 3 rfl;obtain ⟨b, hf, hb⟩ := C.2.1 (D.rd 0 (by kernel_rfl)) (D.not1 9 (by kernel_rfl));replace hf : a (.tmp 12) = .map (some b) := hf;have hl := Zq0 u0 hb;rw [hSV] at hl;refine Yq ?_ C rfl;clear A C D hb;go_simp;all_goals go_arith
  ·exact Zn rfl fun a _ _ _ _ _ B A => Y7 rfl B (Zh A 4 rfl)
  ·refine Zn rfl fun a _ _ _ _ _ B A => ?_;have e11 : a (.tmp 11) = _ := Zh A 5 rfl;refine Yq ?_ B rfl;clear A B;go_simp;all_goals go_arith
  ·refine Zn rfl fun a _ _ _ _ _ B A => ?_;have e11 : a (.tmp 11) = _ := Zh A 5 rfl;refine Yq ?_ B rfl;clear A B;go_simp;all_goals go_arith
  ·refine Zn rfl fun a w' _ _ _ C B A => ?_;refine V1 (v := .pointer (some ⟨w'.heap.size, 0, none⟩)) (w' := w'.alloc Zie) ?_ (Zd _ _) (ShJ.alloc B (C.not1 9 (by kernel_rfl))) trivial;clear A B C;unfold Zie;go_simp;all_goals go_arith
  ·refine Zn rfl fun a w' _ _ _ C B A => ?_;have e5 : ((fun _ _ => True)) (a (.tmp 5)) w' := Zh A 8 rfl;have e17 : a (.tmp 17) = _ := Zh A 6 rfl;obtain ⟨q, hf, hz, hJ'⟩ := ShJ.store B (C.rd 8 (by kernel_rfl)) C.un;have h5 : a (.tmp 5) = .pointer (some ⟨q, 0, none⟩) := hf;refine Zci (w' := _) ?_ trivial hJ' trivial;obtain ⟨y0, y1⟩ := Q8 hz rfl rfl;have f0 := Zt hz 0;have f1 := Zt hz 1;have cs := Zu;clear A B C hz hJ' hf e5;go_simp;all_goals go_arith
  ·exact Zn rfl fun a _ _ _ _ _ B A => Xf rfl B (Zh A 7 rfl)
 ·intro vs w' dn hdn hg ht;obtain ⟨q12, q13, q14, q15, q16, q11, q17, q18, q5, qo9, q6, -⟩ := ht;replace q12 : ((fun _ _ => True)) (vs 0) w' := q12;have r13 : vs 1 = _ := q13;have r14 : vs 2 = _ := q14;have r15 : vs 3 = _ := q15;have r16 : vs 4 = _ := q16;have r11 : vs 5 = _ := q11;have r17 : vs 6 = _ := q17;have r18 : vs 7 = _ := q18;replace q5 : ((fun _ _ => True)) (vs 8) w' := q5;replace qo9 : ((fun _ _ => True)) (vs 9) w' := qo9;have r6 : vs 10 = _ := q6;clear q13 q14 q15 q16 q11 q17 q18 q6;simp only [Z8, Act.put, List.setIfInBounds_toArray, List.set_cons_zero, List.set_cons_succ, Nat.reduceAdd, r13, r14, r15, r16, r11, r17, r18, r6];clear r13 r14 r15 r16 r11 r17 r18 r6;obtain ⟨q, hfq, hqW, -, hq0⟩ := hg.2.2 (hdn 8 (by decide));have hq := hq0 (hdn 9 (by decide));have gq := hg.1;rw [hfq];clear hg hdn hfq hq0 q12 q5 qo9;generalize vs 0 = m0;have hZq := (gq.block _ (Za hZ)).trans hZ;have gw := gW.trans gq;have gW0 := gW;have y1 := Ze hq 1 _ rfl;clear hZ gW;rcases HKN.out with ⟨rfl, hk⟩ | ⟨rfl, hk⟩
  ·clear gW0;obtain rfl : PD = (Zgg, 1) := by have h := HPR.out; rw [hk] at h; exact h
   clear hk HKN HPR HRE HWL HCELL hq gq y1 hc0 hSV;obtain ⟨hp1, hp2⟩ := Yc hZq (.int .i64 0) (.int .i64 0) (.int .i64 0) (.slice none 0 0);have gE := hp2.grow gw (Nat.le_refl _);obtain ⟨z0, z1, z2, z3⟩ := Z4 hZq rfl rfl rfl rfl;obtain ⟨f0, f1, f2, f3⟩ := Yp hZq;have cs := Zu;obtain ⟨x0, x1, x2, x3⟩ := Z4 hp1 rfl rfl rfl rfl;clear hp1 hp2 hZq gw;go_wp2_with fail;exact bodyPost_ret (v := .tuple #[.agg #[.int .i64 0, .int .i64 0, .int .i64 0, .slice none 0 0], .int .i64 1]) (by simp [results, Tryz.results16, go_sem, x0, x1, x2, x3]) rfl ⟨_, rfl, ⟨none, 0, rfl, Vh _⟩, gE⟩
  ·have hsm := Zk1 hk;have hpr := HPR.out;rw [hk] at hpr;simp only at hpr;by_cases hlen : (us.length : Int) + 1 = N
   ·have hus : us = rest := by
     rcases HRE.out with h | ⟨h1, h2⟩
     ·exact h
     ·omega
    subst hus;rw [if_pos hlen] at hpr;have HPW : Hid (∀ w2, Zj W w2 → Calls Tryz.prog 33 #[.int .i64 K, .slice (some ⟨g, 1, none⟩) us.length (c - 1)] w2 fun r w3 => ∃ v, r = .returned v ∧ Zm1 (Q3 K us) v w3 ∧ Zj w2 w3) := by
     intro w2 gw2;have hw2 := hV _ _ hw (gW0.trans gw2);have hcl : ∀ (i : Nat) (h : i < us.length), w2.cell? ⟨g, i + 1, none⟩ = some (.string ⟨us[i].toArray⟩) := fun i h => (Below.cell gw2 (Zr (HCELL.out i h))).trans (HCELL.out i h)
     have hwl := HWL.out;clear HKN HPR HRE HWL HCELL hpr;rcases hsm with ⟨rfl, rfl⟩ | ⟨rfl, rfl⟩ | ⟨rfl, rfl⟩
     ·match us, hlen, hcl, hwl with
      | [a, b], _, hcl, hwl => exact Znf V hV IT AT IX a b g 1 (c - 1) w2 hw2 (hwl a (by simp)) (hwl b (by simp)) (hcl 0 (by simp)) (hcl 1 (by simp))
      | [], h, _, _ => simp at h
      | [_], h, _, _ => simp at h
      | _ :: _ :: _ :: r, h, _, _ => simp at h; omega
     ·match us, hlen, hcl, hwl with
      | [a], _, hcl, hwl => exact Zng V hV IT AT a g 1 (c - 1) w2 hw2 (hwl a (by simp)) (hcl 0 (by simp))
      | [], h, _, _ => simp at h
      | _ :: _ :: r, h, _, _ => simp at h; omega
     ·match us, hlen, hcl, hwl with
      | [a, b], _, hcl, hwl => exact Zjg V hV IT AT a b g 1 (c - 1) w2 hw2 (hwl a (by simp)) (hwl b (by simp)) (hcl 0 (by simp)) (hcl 1 (by simp))
      | [], h, _, _ => simp at h
      | [_], h, _, _ => simp at h
      | _ :: _ :: _ :: r, h, _, _ => simp at h; omega
    have dL : (((us.length : Int) + 1) == N) = true := by simp [hlen]
    obtain ⟨o, ho⟩ : ∃ o, o = Q3 K us := ⟨_, rfl⟩;have HOD : Hid (∀ d, o = some d → d.data.length ≤ 140737488355328) := fun d h => Zur (ho ▸ h) HWL.out
    rw [← ho] at hpr HPW;have HPR2 : Hid _ := hpr;have hcl : ¬ c = 1 := by omega
    clear hk HKN HPR HRE HWL HCELL hc0 hSV hsm hpr hlen ho gW0;go_wp2_with fail;clear y1 dL;obtain ⟨W1, rfl⟩ : ∃ W1 : World, W1 = w' := ⟨_, rfl⟩;refine Qw [px (.pointer (some ⟨q, 0, none⟩)), px (.int .i64 K), px (.slice (some ⟨g, 0, none⟩) (us.length + 1) c), px (.slice (some ⟨g, 1, none⟩) us.length (c - 1)), pl ((fun _ _ => True)), pl1 4 ((fun v u _ => v = u)), pl1 5 ((fun v u _ => ∃ e, u = .tuple #[v, e])), px (.bool o.isSome), pl ((fun _ _ => True)), pl ((fun _ _ => True)), px (.bool o.isSome)] [none, none, none, none, none, none, none, none, none, some ((fun _ _ => True))] (PwJ W1 o) (by kernel_rfl) (by kernel_rfl) ⟨se, se, se, se, Ym ((fun _ _ _ _ _ => trivial)), (fun _ _ _ _ _ h => h), (fun _ _ _ _ _ h => h), se, Ym ((fun _ _ _ _ _ => trivial)), Ym ((fun _ _ _ _ _ => trivial)), se, trivial⟩ ⟨⟨(fun _ => trivial), ⟨x5, x5, x5, x5, .inr ((fun _ _ _ _ _ _ => trivial)), .inr ((fun _ _ _ _ _ h => h)), .inr ((fun _ _ _ _ _ h => h)), x5, .inr ((fun _ _ _ _ _ _ => trivial)), .inl (by kernel_rfl), .inl (by kernel_rfl), trivial⟩⟩, trivial⟩ ⟨n5, n5, n5, n5, n5, n5, n5, n5, n5, fun _ _ _ _ h => h, n5, trivial⟩ (fun f => PwJ.start _ _ f) ?_ ?_
    ·refine ⟨?_, ?_, ?_, ?_, ?_, ?_, ?_, ?_, ?_, ?_, ?_, trivial⟩
     ·refine Zn rfl fun a _ _ _ _ _ B A => ?_;have e5 : a (.tmp 5) = .pointer (some ⟨q, 0, none⟩) := Zs A 5 rfl;refine Yq ?_ B rfl;clear A B;go_simp;all_goals go_arith
     ·refine Zn rfl fun a _ _ _ _ C B A => ?_;have e29 : a (.tmp 29) = _ := Zh A 0 rfl;have y0 := Ze ((B.1.block _ (Za hq)).trans hq) 0 _ rfl;refine Yq ?_ B rfl;clear A B C;go_simp;all_goals go_arith
     ·exact Zn rfl fun a _ _ _ _ _ B A => Y7 rfl B (Zs A 4 rfl)
     ·refine Zn rfl fun a _ _ _ _ C B A => ?_;have e31 : a (.tmp 31) = _ := Zh A 2 rfl;have v1 : (1 : Int) ≤ (us.length : Int) + 1 := by omega
      refine Yq ?_ B rfl;clear A B C;go_simp;all_goals go_arith
     ·refine Zn rfl fun a B _ _ _ D C A => ?_;have e30 : a (.tmp 30) = _ := Zh A 1 rfl;have e32 : a (.tmp 32) = _ := Zh A 3 rfl;refine Yf (f := 33) (args := #[.int .i64 K, .slice (some ⟨g, 1, none⟩) us.length (c - 1)]) ?_ ((HPW.out B (gq.trans C.1)).mono ?_)
      ·clear A C D;go_simp;all_goals go_arith
      ·rintro r w2 ⟨v, rfl, hq2, g2⟩;exact ⟨_, rfl, g2, trivial, PwJ.call C g2 (D.not1 9 (by kernel_rfl)) hq2, trivial⟩
     ·refine Zn rfl fun a B _ _ _ _ C A => ?_;have e33 : ((fun _ _ => True)) (a (.tmp 33)) B := Zh A 4 rfl;exact Y7 rfl C rfl
     ·refine Zn rfl fun a B _ _ _ D C A => ?_;have e28 : ((fun v u _ => v = u)) (a (.tmp 28)) (a (.tmp 33)) B := Zh A 5 rfl;obtain ⟨x0, x1, x2, ax, lx, cx, hf2, -, -⟩ := C.2.1 (D.cl 5 4 (by kernel_rfl) (D.rd 5 (by kernel_rfl)));have h15 : a (.tmp 33) = .tuple #[.agg #[.int .i64 x0, .int .i64 x1, .int .i64 x2, .slice ax lx cx], .bool o.isSome] := hf2;have h12 : a (.tmp 28) = .tuple #[.agg #[.int .i64 x0, .int .i64 x1, .int .i64 x2, .slice ax lx cx], .bool o.isSome] := e28.trans h15;refine Yq (v := .agg #[.int .i64 x0, .int .i64 x1, .int .i64 x2, .slice ax lx cx]) ?_ C ⟨_, h12⟩;clear A C D e28 hf2 h15;go_simp;all_goals go_arith
     ·refine Zn rfl fun a B _ _ _ D C A => ?_;have e28 : ((fun v u _ => v = u)) (a (.tmp 28)) (a (.tmp 33)) B := Zh A 5 rfl;obtain ⟨x0, x1, x2, ax, lx, cx, hf2, -, -⟩ := C.2.1 (D.cl 5 4 (by kernel_rfl) (D.rd 5 (by kernel_rfl)));have h15 : a (.tmp 33) = .tuple #[.agg #[.int .i64 x0, .int .i64 x1, .int .i64 x2, .slice ax lx cx], .bool o.isSome] := hf2;have h12 : a (.tmp 28) = .tuple #[.agg #[.int .i64 x0, .int .i64 x1, .int .i64 x2, .slice ax lx cx], .bool o.isSome] := e28.trans h15;refine Yq ?_ C rfl;clear A C D e28 hf2 h15;go_simp;all_goals go_arith
     ·refine Zn rfl fun a w' _ _ _ C B A => ?_;refine V1 (v := .pointer (some ⟨w'.heap.size, 0, none⟩)) (w' := w'.alloc Zgh) ?_ (Zd _ _) (PwJ.alloc B (C.not1 9 (by kernel_rfl))) trivial;clear A B C;unfold Zgh;go_simp;all_goals go_arith
     ·refine Zn rfl fun a w' _ _ _ C B A => ?_;have e7 : ((fun _ _ => True)) (a (.tmp 7)) w' := Zh A 8 rfl;have e34 : ((fun v u _ => ∃ e, u = .tuple #[v, e])) (a (.tmp 34)) (a (.tmp 28)) w' := Zh A 6 rfl;obtain ⟨p, x0, x1, x2, ax, lx, cx, hf, hf4, hz, hJ'⟩ := PwJ.store B (C.cl 5 4 (by kernel_rfl) (C.cl 6 5 (by kernel_rfl) (C.rd 6 (by kernel_rfl)))) (C.rd 8 (by kernel_rfl)) C.un;have h7 : a (.tmp 7) = .pointer (some ⟨p, 0, none⟩) := hf;have h15 : a (.tmp 33) = .tuple #[.agg #[.int .i64 x0, .int .i64 x1, .int .i64 x2, .slice ax lx cx], .bool o.isSome] := hf4;have k28 : a (.tmp 28) = a (.tmp 33) := Zh A 5 rfl;obtain ⟨ee, h34⟩ := e34;rw [k28, h15] at h34;injection h34 with h34
      injection h34 with h34
      injection h34 with h34 _
      refine Zci (w' := _) ?_ trivial hJ' trivial;obtain ⟨y0, y1, y2, y3⟩ := Z4 hz rfl rfl rfl rfl;obtain ⟨f0, f1, f2, f3⟩ := Yp hz;have cs := Zu;replace h34 := h34.symm;clear A B C hz hJ' hf hf4 e7 k28 h15;go_simp;all_goals go_arith
     ·exact Zn rfl fun a _ _ _ _ _ B A => Xf rfl B (Zh A 7 rfl)
    ·intro vs w' dn hdn hg ht;obtain ⟨q29, q30, q31, q32, q33, q28, q34, q35, q7, qo9, q6, -⟩ := ht;have r29 : vs 0 = _ := q29;have r30 : vs 1 = _ := q30;have r31 : vs 2 = _ := q31;have r32 : vs 3 = _ := q32;replace q33 : ((fun _ _ => True)) (vs 4) w' := q33;replace q28 : ((fun v u _ => v = u)) (vs 5) (vs 4) w' := q28;replace q34 : ((fun v u _ => ∃ e, u = .tuple #[v, e])) (vs 6) (vs 5) w' := q34;have r35 : vs 7 = _ := q35;replace q7 : ((fun _ _ => True)) (vs 8) w' := q7;replace qo9 : ((fun _ _ => True)) (vs 9) w' := qo9;have r6 : vs 10 = _ := q6;clear q29 q30 q31 q32 q35 q6;simp only [Z8, Act.put, List.setIfInBounds_toArray, List.set_cons_zero, List.set_cons_succ, Nat.reduceAdd, r29, r30, r31, r32, r35, r6];clear r29 r30 r31 r32 r35 r6;obtain ⟨x0, x1, x2, ax, lx, cx, -, hrd, hp0⟩ := hg.2.1 (hdn 4 (by decide));obtain ⟨p, hfp, hpW, hpB⟩ := hp0 (hdn 9 (by decide));have gp := hg.1;rw [hfp];clear hg hdn hfp hp0 q33 q28 q34 q7 qo9;generalize vs 4 = m1;generalize vs 5 = m2;generalize vs 6 = m3;replace hZq := (gp.block _ (Za hZq)).trans hZq;replace gw := gw.trans gp;clear gp hq gq;cases o with
     | none =>
      obtain rfl : PD = (Zgg, 2) := HPR2.out;clear hrd hpB HPR2 HPW HOD;simp only [Option.isSome_none];obtain ⟨hp1, hp2⟩ := Yc hZq (.int .i64 0) (.int .i64 0) (.int .i64 0) (.slice none 0 0);have gE := hp2.grow gw (Nat.le_refl _);obtain ⟨z0, z1, z2, z3⟩ := Z4 hZq rfl rfl rfl rfl;obtain ⟨f0, f1, f2, f3⟩ := Yp hZq;have cs := Zu;obtain ⟨x0, x1, x2, x3⟩ := Z4 hp1 rfl rfl rfl rfl;clear hp1 hp2 hZq gw;go_wp2_with fail;exact bodyPost_ret (v := .tuple #[.agg #[.int .i64 0, .int .i64 0, .int .i64 0, .slice none 0 0], .int .i64 2]) (by simp [results, Tryz.results16, go_sem, x0, x1, x2, x3]) rfl ⟨_, rfl, ⟨none, 0, rfl, Vh _⟩, gE⟩
     | some d =>
      obtain ⟨rfl, rfl, rfl, rfl, hbd⟩ := hrd;have hpd : PD = if Z1 d = 0 then (d, 0) else (Zgg, Z1 d) := HPR2.out;obtain ⟨y0, y1, y2, y3⟩ := Z4 hpB rfl rfl rfl rfl;have HPP : Hid _ := hpd;have HDL : Hid (d.data.length ≤ 140737488355328) := by show _ ≤ _; have := HOD.out d rfl; omega
      clear HPR2 HPW HOD hpd;simp only [Option.isSome_some];go_wp2_with fail;refine (Zjr d ax cx _ HDL.out hbd).mono ?_;by_cases hwr : Z1 d = 0
      ·obtain rfl : PD = (d, 0) := by rw [HPP.out, if_pos hwr]
       rw [hwr];rintro r w5 ⟨rfl, g5⟩;have hB5 := Z2 hbd g5;replace hpB := (g5.block _ (Za hpB)).trans hpB;replace hZq := (g5.block _ (Za hZq)).trans hZq;replace gw := gw.trans g5;clear y0 y1 y2 y3 HPP hwr g5 hbd;obtain ⟨y0, y1, y2, y3⟩ := Z4 hpB rfl rfl rfl rfl;obtain ⟨hp1, hp2⟩ := Yc hZq (.int .i64 d.kind) (.int .i64 d.key) (.int .i64 d.num) (.slice ax d.data.length cx);have gE := hp2.grow gw (Nat.le_refl _);have hBE := Ji hB5 hZq hp2;obtain ⟨z0, z1, z2, z3⟩ := Z4 hZq rfl rfl rfl rfl;obtain ⟨f0, f1, f2, f3⟩ := Yp hZq;have cs := Zu;obtain ⟨x0, x1, x2, x3⟩ := Z4 hp1 rfl rfl rfl rfl;clear hp1 hp2 hZq gw hpB hB5;go_wp2_with fail;exact bodyPost_ret (v := .tuple #[.agg #[.int .i64 d.kind, .int .i64 d.key, .int .i64 d.num, .slice ax d.data.length cx], .int .i64 0]) (by simp [results, Tryz.results16, go_sem, x0, x1, x2, x3]) rfl ⟨_, rfl, ⟨ax, cx, rfl, hBE⟩, gE⟩
      ·obtain rfl : PD = (Zgg, Z1 d) := by rw [HPP.out, if_neg hwr]
       rintro r w5 ⟨rfl, g5⟩;obtain ⟨EE, hEE⟩ : ∃ EE, EE = Z1 d := ⟨_, rfl⟩;have HEE : Hid _ := hEE;rw [← hEE] at hwr ⊢;have dE : (EE == 0) = false := by simp [hwr]
       replace hZq := (g5.block _ (Za hZq)).trans hZq;replace gw := gw.trans g5;clear y0 y1 y2 y3 HPP hwr g5 hbd hpB hEE;obtain ⟨hp1, hp2⟩ := Yc hZq (.int .i64 0) (.int .i64 0) (.int .i64 0) (.slice none 0 0);have gE := hp2.grow gw (Nat.le_refl _);obtain ⟨z0, z1, z2, z3⟩ := Z4 hZq rfl rfl rfl rfl;obtain ⟨f0, f1, f2, f3⟩ := Yp hZq;have cs := Zu;obtain ⟨x0, x1, x2, x3⟩ := Z4 hp1 rfl rfl rfl rfl;clear hp1 hp2 hZq gw;go_wp2_with fail;exact bodyPost_ret (v := .tuple #[.agg #[.int .i64 0, .int .i64 0, .int .i64 0, .slice none 0 0], .int .i64 EE]) (by simp [results, Tryz.results16, go_sem, x0, x1, x2, x3]) rfl ⟨_, rfl, ⟨none, 0, by rw [HEE.out]; rfl, Vh _⟩, gE⟩
   ·obtain rfl : PD = (Zgg, 2) := by
     rw [hpr, if_neg];rcases HRE.out with h | ⟨h1, h2⟩
     ·rw [← h]; exact hlen
     ·omega
    have dL : (((us.length : Int) + 1) == N) = false := by simp [hlen]
    clear hk HKN HPR HRE HWL HCELL hq gq hc0 hSV hsm hpr hlen;obtain ⟨hp1, hp2⟩ := Yc hZq (.int .i64 0) (.int .i64 0) (.int .i64 0) (.slice none 0 0);have gE := hp2.grow gw (Nat.le_refl _);obtain ⟨z0, z1, z2, z3⟩ := Z4 hZq rfl rfl rfl rfl;obtain ⟨f0, f1, f2, f3⟩ := Yp hZq;have cs := Zu;obtain ⟨x0, x1, x2, x3⟩ := Z4 hp1 rfl rfl rfl rfl;clear hp1 hp2 hZq gw;go_wp2_with fail;exact bodyPost_ret (v := .tuple #[.agg #[.int .i64 0, .int .i64 0, .int .i64 0, .slice none 0 0], .int .i64 2]) (by simp [results, Tryz.results16, go_sem, x0, x1, x2, x3]) rfl ⟨_, rfl, ⟨none, 0, rfl, Vh _⟩, gE⟩
theorem Zxd (V : World → Prop) (hV : ∀ w w', V w → Zj w w' → V w') (IT : Zd6 V) (AT : Zd8 V) (IX : Zhd) (SP : Zkh V) : Zkg V := fun s w hw hs => Znk V hV IT AT IX SP s w hw hs
end Go.Proofs.YtpdnapbchcdhladGreatDoor
