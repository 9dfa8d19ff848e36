import Derived.Test.YtpdnapbchcdhlacGreatRStore
set_option maxHeartbeats 8000000
namespace Go.Proofs.YtpdnapbchcdhlacGreat
set_option maxRecDepth 100000
open Go.RowKit
open Plain Reg
variable {T : TypeId} {c0 c1 c2 c3 : Value} {f g n : Nat} {l : List Ent} {w : World}
structure St.Ok (n : Nat) (s : St) : Prop where
 disk : s.dk.Fine n
 right : Q4 s.idx = true
 six : ∀ x ∈ s.idx, x.pair < 6
structure Zfg where
 st : St
 n : Int
 e : Int
def Zbm (d : Dd) (x : Ent) : Bool := decide (x.rc.key = d.key ∧ x.rc.ver = d.num)
def Kn (d : Dd) (l : List Ent) : Int := if d.kind = 3 then (match l.find? (Zbm d) with | some x => x.pair | none => -1) else -1
def Zbh (l : List Ent) : Nat → Nat → Nat
 | 0, p => p
 | k + 1, p => if Jo l (p : Int) = true then Zbh l k (p + 1) else p
def Qa (l : List Ent) : Nat := Zbh l 7 0
theorem Zgy (h : J0 l f) : ∀ (k p : Nat), p ≤ f → f < p + k → Zbh l k p = f
 | 0, p, h1, h2 => by omega
 | k + 1, p, h1, h2 => by
  unfold Zbh;by_cases e : p = f
  ·have : ¬ Jo l (p : Int) = true := fun hu => by
    obtain ⟨x, hx, hp⟩ := (K0 l _).1 hu;exact h.2 x hx (by rw [hp, e])
   rw [if_neg this, e]
  ·rw [if_pos ((K0 l _).2 (h.1 p (by omega)))];exact Zgy h k (p + 1) (by omega) (by omega)
theorem Zr5 (h : J0 l f) (h6 : f ≤ 6) : Qa l = f := Zgy h 7 0 (Nat.zero_le _) (by omega)
def St.begin (s : St) (d : Dd) : Zfg :=
 if Yl d ≠ 0 then ⟨s, 0, Yl d⟩
 else if (doR s.recs d).e ≠ 0 then ⟨s, 0, (doR s.recs d).e⟩
 else if d.kind = 3 then ⟨⟨s.dk.pairD (Kn d s.idx) Rec.free, Q9 s.idx (Kn d s.idx), s.next⟩, (doR s.recs d).n, 0⟩
 else ⟨⟨s.dk.pairD (Qa s.idx) (Xy d (doR s.recs d).n), X6 ⟨Xy d (doR s.recs d).n, (Qa s.idx : Nat)⟩ s.idx, s.next⟩, (doR s.recs d).n, 0⟩
theorem Zsu (d : Dd) (l : List Ent) (k : Nat) (h : k < l.length) (hp : ∀ x ∈ l, 0 ≤ x.pair) : Kn d (l.take (k + 1)) = if Kn d (l.take k) < 0 ∧ d.kind = 3 ∧ Zbm d l[k] = true then l[k].pair else Kn d (l.take k) := by
 unfold Kn;by_cases h3 : d.kind = 3
 ·rw [if_pos h3, if_pos h3, List.take_succ_eq_append_getElem h, List.find?_append];cases hf : (l.take k).find? (Zbm d) with
  | some x =>
   have h0 := hp x (List.mem_of_mem_take (List.mem_of_find?_eq_some hf));simp only [Option.some_or];rw [if_neg (by omega)]
  | none =>
   simp only [Option.none_or, List.find?_singleton];cases hx : Zbm d l[k] with
   | true => simp [h3]
   | false => simp
 ·rw [if_neg h3, if_neg h3, if_neg (fun hh => h3 hh.2.1)]
theorem St.Ok.good {s : St} (h : s.Ok n) : ∀ x ∈ s.idx, Good x := ((Xv s.idx).1 h.right).2
theorem St.Ok.len {s : St} (h : s.Ok n) : s.idx.length ≤ 6 := by
 obtain ⟨h1, h2⟩ := (Xv s.idx).1 h.right;have hn : (s.idx.map fun x => x.pair.toNat).Nodup := by
  rw [List.nodup_iff_pairwise_ne, List.pairwise_map];exact List.Pairwise.imp_of_mem (fun ha hb hR e => hR.2 (by have := (h2 _ ha).2.2; have := (h2 _ hb).2.2; omega)) h1
 have := Zgo 6 _ hn fun n hn => by
  obtain ⟨x, hx, rfl⟩ := List.mem_map.1 hn;have h3 := h.six x hx;have := (h2 x hx).2.2;omega
 simpa using this
theorem St.Ok.ver {s : St} (h : s.Ok n) : ∀ r ∈ s.recs, r.ver ≤ 60000 := fun r hr => by
 obtain ⟨x, hx, rfl⟩ := List.mem_map.1 hr;exact (Vk (h.good x hx).1).2.2.2.2.2.1
theorem Zsp {f} (h : w.heap[g]? = some (.cells #[c0, c1, c2, c3] T f)) (x0 x1 x2 : Value) :
  (((w.setCell ⟨g, 0, none⟩ x0).setCell ⟨g, 1, none⟩ x1).setCell ⟨g, 2, none⟩ x2).heap[g]? = some (.cells #[x0, x1, x2, c3] T f) ∧ Zp g w (((w.setCell ⟨g, 0, none⟩ x0).setCell ⟨g, 1, none⟩ x1).setCell ⟨g, 2, none⟩ x2) :=
 ⟨Yh (Yh (Yh h 0 x0) 1 x1) 2 x2, (((Zp.refl g w).set _ _ _).set _ _ _).set _ _ _⟩
theorem Za2 {f} (h : w.heap[g]? = some (.cells #[c0, c1, c2, c3] T f)) (x0 x1 : Value) :
  ((w.setCell ⟨g, 0, none⟩ x0).setCell ⟨g, 1, none⟩ x1).heap[g]? = some (.cells #[x0, x1, c2, c3] T f) ∧ Zp g w ((w.setCell ⟨g, 0, none⟩ x0).setCell ⟨g, 1, none⟩ x1) :=
 ⟨Yh (Yh h 0 x0) 1 x1, ((Zp.refl g w).set _ _ _).set _ _ _⟩
theorem Zge (S : Nat → Prop) (n : Nat) (s : St) (d : Dd) (v : Value) (ad : Option Addr) (c : Nat) (w : World) (hS : ∀ b, S b → b < w.heap.size) (hs : Z8 S s v w) (hd : Z2 S w (.slice ad d.data.length c) d.data) (hO : s.Ok n) (hn : n ≤ 900) (hdl : d.data.length ≤ 140737488355328) :
  Calls Tryz.prog 55 #[v, .agg #[.int .i64 d.kind, .int .i64 d.key, .int .i64 d.num, .slice ad d.data.length c]] w fun r w' => ∃ v', r = .returned (.tuple #[v', .int .i64 (s.begin d).n, .int .i64 (s.begin d).e]) ∧ Z8 (Zt S w.heap.size) (s.begin d).st v' w' ∧ Zn w w' := by
 obtain ⟨ab, cb, al, cl, ai, ci, rfl, hb, hl, hi⟩ := hs.form;have g0 := (Zq w (.cells #[.slice ab s.dk.blocks.length cb, .slice al s.dk.late.length cl, .slice ai s.idx.length ci, .int .i64 s.next] 29) (.cells #[.int .i64 d.kind, .int .i64 d.key, .int .i64 d.num, .slice ad d.data.length c] 47)).trans (Zb _ Xa);have hs0 := Zh w #[.slice ab s.dk.blocks.length cb, .slice al s.dk.late.length cl, .slice ai s.idx.length ci, .int .i64 s.next] 29;have hd0 := Zh (w.alloc (.cells #[.slice ab s.dk.blocks.length cb, .slice al s.dk.late.length cl, .slice ai s.idx.length ci, .int .i64 s.next] 29)) #[.int .i64 d.kind, .int .i64 d.key, .int .i64 d.num, .slice ad d.data.length c] 47;have hz0 := Zh ((w.alloc (.cells #[.slice ab s.dk.blocks.length cb, .slice al s.dk.late.length cl, .slice ai s.idx.length ci, .int .i64 s.next] 29)).alloc (.cells #[.int .i64 d.kind, .int .i64 d.key, .int .i64 d.num, .slice ad d.data.length c] 47)) #[.slice none 0 0, .slice none 0 0, .slice none 0 0, .int .i64 0] 29;have hs1 := ((Zq (w.alloc (.cells #[.slice ab s.dk.blocks.length cb, .slice al s.dk.late.length cl, .slice ai s.idx.length ci, .int .i64 s.next] 29)) (.cells #[.int .i64 d.kind, .int .i64 d.key, .int .i64 d.num, .slice ad d.data.length c] 47) Xa).block _ (Za hs0)).trans hs0
 have hd1 := ((Zb ((w.alloc (.cells #[.slice ab s.dk.blocks.length cb, .slice al s.dk.late.length cl, .slice ai s.idx.length ci, .int .i64 s.next] 29)).alloc (.cells #[.int .i64 d.kind, .int .i64 d.key, .int .i64 d.num, .slice ad d.data.length c] 47)) Xa).block _ (Za hd0)).trans hd0;rw [World.size_alloc] at hd1;rw [World.size_alloc, World.size_alloc] at hz0;clear hs0 hd0;obtain ⟨R, hR⟩ : ∃ R, R = s.begin d := ⟨_, rfl⟩;rw [← hR];have HR : Hid (R = s.begin d) := hR;clear hR;go_enter Tryz.func55, Tryz.ntmps55;obtain ⟨d0, d1, d2, d3⟩ := Z7 hd1 rfl rfl rfl rfl;go_wp2_with fail;obtain ⟨W, hW⟩ : ∃ W, W = ((w.alloc (.cells #[.slice ab s.dk.blocks.length cb, .slice al s.dk.late.length cl, .slice ai s.idx.length ci, .int .i64 s.next] 29)).alloc (.cells #[.int .i64 d.kind, .int .i64 d.key, .int .i64 d.num, .slice ad d.data.length c] 47)).alloc Xa := ⟨_, rfl⟩;rw [← hW] at g0 hs1 hd1 hz0 d0 d1 d2 d3 ⊢;clear hW;refine (Zb0 d ad c W hdl).mono ?_;by_cases hwd : Yl d = 0
 ·rw [hwd];rintro r w1 ⟨rfl, g1⟩;have hs2 := (g1.block _ (Za hs1)).trans hs1;have hd2 := (g1.block _ (Za hd1)).trans hd1;have hz2 := (g1.block _ (Za hz0)).trans hz0;have gw := g0.trans g1;clear hs1 hd1 hz0 g0 g1 d0 d1 d2 d3;have hkb := Vy hwd;have HRD : Hid (R = if (doR s.recs d).e ≠ 0 then ⟨s, 0, (doR s.recs d).e⟩ else if d.kind = 3 then ⟨⟨s.dk.pairD (Kn d s.idx) Rec.free, Q9 s.idx (Kn d s.idx), s.next⟩, (doR s.recs d).n, 0⟩ else ⟨⟨s.dk.pairD (Qa s.idx) (Xy d (doR s.recs d).n), X6 ⟨Xy d (doR s.recs d).n, (Qa s.idx : Nat)⟩ s.idx, s.next⟩, (doR s.recs d).n, 0⟩) := by
   show R = _; rw [HR.out]; unfold St.begin; rw [if_neg (by simpa using hwd)]
  clear HR hwd;have h6 := hO.len;have hvr := hO.ver;have HOK : Hid (s.Ok n) := hO;clear hO;obtain ⟨D, hD⟩ : ∃ D, D = doR s.recs d := ⟨_, rfl⟩;rw [← hD] at HRD;have HD : Hid _ := hD;clear hD;go_wp2_with fail;obtain ⟨W1, rfl⟩ : ∃ W1 : World, W1 = w1 := ⟨_, rfl⟩;have HSW : Hid (w.heap.size + 2 < W1.heap.size) := Za hz2;refine Yb [ex (.agg #[.slice ab s.dk.blocks.length cb, .slice al s.dk.late.length cl, .slice ai s.idx.length ci, .int .i64 s.next]), ((fun v w' => Y2 (Zt S w.heap.size) w' v s.recs)), ex (.agg #[.int .i64 d.kind, .int .i64 d.key, .int .i64 d.num, .slice ad d.data.length c]), ((fun v _ => ∃ u, v = .tuple #[u, .int .i64 D.n, .int .i64 D.e])), ((fun v _ => ∃ u, v = .tuple #[u, .int .i64 D.n, .int .i64 D.e])), ((fun _ _ => True)), ex (.int .i64 D.n), ex (.int .i64 D.e), ((fun _ _ => True)), ex (.int .i64 D.n), ex (.int .i64 D.e)] (by kernel_rfl) (by kernel_rfl) ⟨Zj _, (fun _ _ _ hg h => Zs.grow h hg), Zj _, (fun _ _ _ _ h => h), (fun _ _ _ _ h => h), (fun _ _ _ _ _ => trivial), Zj _, Zj _, (fun _ _ _ _ _ => trivial), Zj _, Zj _, trivial⟩ ?_ ?_
  ·refine ⟨?_, ?_, ?_, ?_, ?_, ?_, ?_, ?_, ?_, ?_, ?_, trivial⟩
   ·refine Ze rfl fun a _ _ _ B A => ?_;have e2 : a (.tmp 2) = .pointer (some ⟨w.heap.size, 0, none⟩) := Zy A 2 rfl;have hh := (B.block _ (Za hs2)).trans hs2;obtain ⟨z0, z1, z2, z3⟩ := Z7 hh rfl rfl rfl rfl;refine Zo ?_ rfl;clear A B hh;go_simp;all_goals go_arith
   ·refine Ze rfl fun a B _ _ C A => ?_;have e27 : a (.tmp 27) = _ := Zg A 0 rfl;refine Yv (f := 25) (args := #[.agg #[.slice ab s.dk.blocks.length cb, .slice al s.dk.late.length cl, .slice ai s.idx.length ci, .int .i64 s.next]]) ?_ ((Zjn S s _ B (fun b h => Nat.lt_of_lt_of_le (hS b h) (gw.trans C).size) (hs.grow (gw.trans C)) (by omega)).mono ?_)
    ·clear A C;go_simp;all_goals go_arith
    ·rintro e w2 ⟨v2, rfl, hE, g2⟩;exact ⟨_, rfl, g2, hE.mono (Z0 (gw.trans C).size)⟩
   ·refine Ze rfl fun a _ _ _ B A => ?_;have e3 : a (.tmp 3) = .pointer (some ⟨w.heap.size + 1, 0, none⟩) := Zy A 3 rfl;have hh := (B.block _ (Za hd2)).trans hd2;obtain ⟨z0, z1, z2, z3⟩ := Z7 hh rfl rfl rfl rfl;refine Zo ?_ rfl;clear A B hh;go_simp;all_goals go_arith
   ·refine Ze rfl fun a B _ _ C A => ?_;have e28 : ((fun v B => Y2 (Zt S w.heap.size) B v s.recs)) (a (.tmp 28)) B := Zg A 1 rfl;have e29 : a (.tmp 29) = _ := Zg A 2 rfl;replace e28 := Zs.caps e28 (by decide);refine Yv (f := 68) (args := #[a (.tmp 28), .agg #[.int .i64 d.kind, .int .i64 d.key, .int .i64 d.num, .slice ad d.data.length c]]) ?_ ((Zjq (fun b => Zt S w.heap.size b ∧ b < B.heap.size) s.recs d _ ad c B (fun b h => h.2) e28 ((hd.grow (gw.trans C)).mono (fun b h => ⟨.inl h, Nat.lt_of_lt_of_le (hS b h) (gw.trans C).size⟩)) (by show (s.idx.map Ent.rc).length ≤ 1000; rw [List.length_map]; omega) hvr hkb.1 hkb.2.1).mono ?_)
    ·clear A C e28;go_simp;all_goals go_arith
    ·rw [← HD.out];rintro e w2 ⟨v2, rfl, -, g2⟩;exact ⟨_, rfl, g2, v2, rfl⟩
   ·refine Ze rfl fun a B _ _ _ A => ?_;have e : ((fun v _ => ∃ u, v = .tuple #[u, .int .i64 D.n, .int .i64 D.e])) (a (.tmp 30)) B := Zg A 3 rfl;exact Zx rfl e
   ·refine Ze rfl fun a B _ _ C A => ?_;have e26 : ((fun v _ => ∃ u, v = .tuple #[u, .int .i64 D.n, .int .i64 D.e])) (a (.tmp 26)) B := Zg A 4 rfl;obtain ⟨u, e26⟩ := e26;refine Zo (v := u) ?_ trivial;clear A C;go_simp;all_goals go_arith
   ·refine Ze rfl fun a B _ _ C A => ?_;have e26 : ((fun v _ => ∃ u, v = .tuple #[u, .int .i64 D.n, .int .i64 D.e])) (a (.tmp 26)) B := Zg A 4 rfl;obtain ⟨u, e26⟩ := e26;refine Zo ?_ rfl;clear A C;go_simp;all_goals go_arith
   ·refine Ze rfl fun a B _ _ C A => ?_;have e26 : ((fun v _ => ∃ u, v = .tuple #[u, .int .i64 D.n, .int .i64 D.e])) (a (.tmp 26)) B := Zg A 4 rfl;obtain ⟨u, e26⟩ := e26;refine Zo ?_ rfl;clear A C;go_simp;all_goals go_arith
   ·refine Ze rfl fun a B _ _ _ A => ?_;have e : ((fun _ _ => True)) (a (.tmp 31)) B := Zg A 5 rfl;exact Yx rfl e
   ·exact Ze rfl fun a _ _ _ _ A => Yx rfl (Zg A 6 rfl)
   ·exact Ze rfl fun a _ _ _ _ A => Yx rfl (Zg A 7 rfl)
  ·intro vs w' hg ht;obtain ⟨(r27 : vs 0 = _), q28, (r29 : vs 2 = _), q30, q26, q31, (r32 : vs 6 = _), (r33 : vs 7 = _), q8, (r9 : vs 9 = _), (r10 : vs 10 = _), -⟩ := ht;simp only [Ye, Act.put, List.setIfInBounds_toArray, List.set_cons_zero, List.set_cons_succ, r27, r29, r32, r33, r9, r10];clear r27 r29 r32 r33 r9 r10;have gw3 := gw.trans hg;have hs3 := (hg.block _ (Za hs2)).trans hs2;have hd3 := (hg.block _ (Za hd2)).trans hd2;have hz3 := (hg.block _ (Za hz2)).trans hz2;have HSW3 : Hid (w.heap.size + 2 < w'.heap.size) := Za hz3;clear q8 q26 q28 q30 q31 hg hs2 hd2 hz2 gw HSW;generalize vs 1 = c28 at *;generalize vs 3 = c30 at *;generalize vs 4 = c26 at *;generalize vs 5 = c31 at *;generalize vs 8 = c8 at *;obtain ⟨w3, rfl⟩ : ∃ w3 : World, w3 = w' := ⟨_, rfl⟩;by_cases hDe : D.e = 0
   ·have HRE : Hid (R = if d.kind = 3 then ⟨⟨s.dk.pairD (Kn d s.idx) Rec.free, Q9 s.idx (Kn d s.idx), s.next⟩, D.n, 0⟩ else ⟨⟨s.dk.pairD (Qa s.idx) (Xy d D.n), X6 ⟨Xy d D.n, (Qa s.idx : Nat)⟩ s.idx, s.next⟩, D.n, 0⟩) := by show R = _; rw [HRD.out, if_neg (by simpa using hDe)]
    have dE : (D.e != 0) = false := by simp [hDe]
    clear HRD hDe;have hmm := @run_makeMap Tryz.prog;have gM := Zb w3 (.map #[] 0);have hM0 := Za6.made w3;have hs4 := (gM.block _ (Za hs3)).trans hs3;have s2 := Zc hs4 2 _ rfl;go_wp2_with fail;clear hmm dE s2;have hd4 := (gM.block _ (Za hd3)).trans hd3;have hz4 := (gM.block _ (Za hz3)).trans hz3;have gw4 := gw3.trans gM;obtain ⟨W2, hW2⟩ : ∃ W2, W2 = w3.alloc (.map #[] 0) := ⟨_, rfl⟩;rw [← hW2] at hM0 hs4 hd4 hz4 gw4 ⊢;clear hW2 gM hs3 hd3 hz3 gw3;obtain ⟨gm, hgm⟩ : ∃ gm, gm = w3.heap.size := ⟨_, rfl⟩;rw [← hgm] at hM0 HSW3 ⊢;clear hgm;have HGD : Hid (∀ x ∈ s.idx, Good x) := HOK.out.good;have HSX : Hid (∀ x ∈ s.idx, x.pair < 6) := HOK.out.six;go_loopw [13, 42] (fun av i wr => ∃ (k : Nat) (A : Int), k ≤ s.idx.length ∧ i = .int .i64 (k : Int) ∧ av = .int .i64 A ∧ Hid (A = Kn d (s.idx.take k)) ∧ Za6 wr gm k (Jo (s.idx.take k)) ∧ Zn w wr ∧ wr.heap[w.heap.size]? = some (.cells #[.slice ab s.dk.blocks.length cb, .slice al s.dk.late.length cl, .slice ai s.idx.length ci, .int .i64 s.next] 29 (0, 0)) ∧ wr.heap[w.heap.size + 1]? = some (.cells #[.int .i64 d.kind, .int .i64 d.key, .int .i64 d.num, .slice ad d.data.length c] 47 (0, 0)) ∧ wr.heap[w.heap.size + 2]? = some Xa) (fun _ i _ => s.idx.length - (intOf i).toNat)
    case atStart => exact ⟨0, -1, Nat.zero_le _, rfl, rfl, (by show (-1 : Int) = Kn d (s.idx.take 0); unfold Kn; simp), hM0.on (fun _ => rfl) (by omega), gw4, hs4, hd4, hz4⟩
    case round =>
     clear hM0 hs4 hd4 hz4 gw4;obtain ⟨k, A, hk, rfl, rfl, HA, hM, gw, hs5, hd5, hz5⟩ := hrel;by_cases hlt : k < s.idx.length
     ·obtain ⟨b, off, a1, c1, hv1, q0, q1, q2, q3, q4, hu⟩ := Jm (hi.grow gw) k hlt;cases hv1;have HAN : Hid (Kn d (s.idx.take (k + 1)) = if A < 0 ∧ d.kind = 3 ∧ Zbm d s.idx[k] = true then s.idx[k].pair else A) := by show _ = _; rw [Zsu d s.idx k hlt (fun x hx => (HGD.out x hx).2.2.1), HA.out]
      have HUS : Hid (∀ y, (decide (y = s.idx[k].pair) || Jo (s.idx.take k) y) = Jo (s.idx.take (k + 1)) y) := Zqp s.idx k hlt;have HGX : Hid (Good s.idx[k]) := HGD.out _ (List.getElem_mem _);have HFX : Hid (Zbm d s.idx[k] = decide (s.idx[k].rc.key = d.key ∧ s.idx[k].rc.ver = d.num)) := rfl;have HNO : Hid (d.kind ≠ 3 → A = -1) := fun h => by rw [HA.out]; unfold Kn; rw [if_neg h]
      generalize s.idx[k] = x at *;have g1 := Zb wr (.cells #[.int .i64 x.rc.kind, .int .i64 x.rc.key, .int .i64 x.rc.ver, .slice a1 x.rc.data.length c1, .int .i64 x.pair] 92);have hX1 := Zh wr #[.int .i64 x.rc.kind, .int .i64 x.rc.key, .int .i64 x.rc.ver, .slice a1 x.rc.data.length c1, .int .i64 x.pair] 92;obtain ⟨w4, hrun, hM4, hb4⟩ := (hM.grow g1).put x.pair (Zfu HGX.out.2.2.1 (by have := HGX.out.2.2.2; omega)) (by omega);have HLT : Hid (gm < wr.heap.size) := hM.lt;have hX4 := (hb4.block _ (Za hX1) (by have := HLT.out; omega)).trans hX1;have hs6 := (hb4.block _ (Za ((g1.block _ (Za hs5)).trans hs5)) (by have := HSW3.out; omega)).trans ((g1.block _ (Za hs5)).trans hs5);have hd6 := (hb4.block _ (Za ((g1.block _ (Za hd5)).trans hd5)) (by have := HSW3.out; omega)).trans ((g1.block _ (Za hd5)).trans hd5);have hz6 := (hb4.block _ (Za ((g1.block _ (Za hz5)).trans hz5)) (by have := HSW3.out; omega)).trans ((g1.block _ (Za hz5)).trans hz5);have gw4 := hb4.grow (gw.trans g1) (by have := HSW3.out; omega);have y4 := Zc hX1 4 _ rfl;have x1 := Zc hX4 1 _ rfl;have x2 := Zc hX4 2 _ rfl;have x4 := Zc hX4 4 _ rfl;obtain ⟨e0, e1, e2⟩ := Zx2 hd6 rfl rfl rfl;clear hX1 hX4 hM hs5 hd5 hz5 gw g1 hb4 hu HGX HA;by_cases h3 : d.kind = 3
      ·have dk : (d.kind == 3) = true := by simp [h3]
       by_cases hA0 : A < 0
       ·by_cases hy : x.rc.key = d.key
        ·have dy : (x.rc.key == d.key) = true := by simp [hy]
         by_cases hv : x.rc.ver = d.num
         ·have dv : (x.rc.ver == d.num) = true := by simp [hv]
          have HAN2 : Hid (x.pair = Kn d (s.idx.take (k + 1))) := by show _ = _; rw [HAN.out, if_pos ⟨hA0, h3, by rw [HFX.out]; exact decide_eq_true ⟨hy, hv⟩⟩]
          clear HAN HFX h3 hy hv HNO;go_wp2_with fail;go_roundw
          case rel => exact ⟨k + 1, _, by omega, by go_num, rfl, HAN2, hM4.on HUS.out (by omega), gw4, hs6, hd6, hz6⟩
          case measure => simp [intOf]; omega
         ·have dv : (x.rc.ver == d.num) = false := by simp [hv]
          have HAN2 : Hid (A = Kn d (s.idx.take (k + 1))) := by show _ = _; rw [HAN.out, if_neg (fun h => by have h9 := h.2.2; rw [HFX.out, decide_eq_true_eq] at h9; exact hv h9.2)]
          clear HAN HFX h3 hy hv HNO;go_wp2_with fail;go_roundw
          case rel => exact ⟨k + 1, _, by omega, by go_num, rfl, HAN2, hM4.on HUS.out (by omega), gw4, hs6, hd6, hz6⟩
          case measure => simp [intOf]; omega
        ·have dy : (x.rc.key == d.key) = false := by simp [hy]
         have HAN2 : Hid (A = Kn d (s.idx.take (k + 1))) := by show _ = _; rw [HAN.out, if_neg (fun h => by have h9 := h.2.2; rw [HFX.out, decide_eq_true_eq] at h9; exact hy h9.1)]
         clear HAN HFX h3 hy HNO;go_wp2_with fail;go_roundw
         case rel => exact ⟨k + 1, _, by omega, by go_num, rfl, HAN2, hM4.on HUS.out (by omega), gw4, hs6, hd6, hz6⟩
         case measure => simp [intOf]; omega
       ·have HAN2 : Hid (A = Kn d (s.idx.take (k + 1))) := by show _ = _; rw [HAN.out, if_neg (fun h => hA0 h.1)]
        clear HAN HFX h3 HNO;go_wp2_with fail;go_roundw
        case rel => exact ⟨k + 1, _, by omega, by go_num, rfl, HAN2, hM4.on HUS.out (by omega), gw4, hs6, hd6, hz6⟩
        case measure => simp [intOf]; omega
      ·have dk : (d.kind == 3) = false := by simp [h3]
       obtain rfl : A = -1 := HNO.out h3;have HAN2 : Hid ((-1 : Int) = Kn d (s.idx.take (k + 1))) := by show _ = _; rw [HAN.out, if_neg (fun h => h3 h.2.1)]
       clear HAN HFX h3 HNO;go_wp2_with fail;go_roundw
       case rel => exact ⟨k + 1, _, by omega, by go_num, rfl, HAN2, hM4.on HUS.out (by omega), gw4, hs6, hd6, hz6⟩
       case measure => simp [intOf]; omega
     ·have HAT : Hid (A = Kn d s.idx) := by show _ = _; rw [HA.out, List.take_of_length_le (by omega)]
      have hM5 := hM;rw [List.take_of_length_le (by omega)] at hM5;have hsm := HOK.out.disk.small (by omega);clear HA hM;have e0 := Zc hd5 0 _ rfl;by_cases h3 : d.kind = 3
      ·have dk : (d.kind == 3) = true := by simp [h3]
       obtain ⟨PD, hPD⟩ : ∃ PD, PD = s.dk.pairD A ⟨1, 0, 0, []⟩ := ⟨_, rfl⟩;obtain ⟨IX, hIX⟩ : ∃ IX, IX = Q9 s.idx A := ⟨_, rfl⟩;obtain rfl : R = ⟨⟨PD, IX, s.next⟩, D.n, 0⟩ := by rw [HRE.out, if_pos h3, ← HAT.out, hPD, hIX]; rfl
       have HPD : Hid _ := hPD;have HIX : Hid _ := hIX;have s2 := Zc hs5 2 _ rfl;clear h3 hM5 HRE hPD hIX;go_wp2_with fail;clear dk e0 s2 hd5;obtain ⟨wo, rfl⟩ : ∃ wo : World, wo = wr := ⟨_, rfl⟩;obtain ⟨i0, hif, hz0, hz1, hz2⟩ := info_parts Zaw;go_loopw [11, 81] (fun o i wq => ∃ (j : Nat) (css : List (List Value)), j ≤ s.idx.length ∧ i = .int .i64 (j : Int) ∧ Yw Y8 S (w.heap.size + 3) o (Q9 (s.idx.take j) A) css wq ∧ Zn w wq ∧ wq.heap[w.heap.size]? = some (.cells #[.slice ab s.dk.blocks.length cb, .slice al s.dk.late.length cl, .slice ai s.idx.length ci, .int .i64 s.next] 29 (0, 0)) ∧ wq.heap[w.heap.size + 2]? = some Xa) (fun _ i _ => s.idx.length - (intOf i).toNat)
       case atStart => exact ⟨0, [], Nat.zero_le _, rfl, Yw.nil _ _ _ _, gw, hs5, hz5⟩
       case round =>
        clear gw hs5 hz5;obtain ⟨j, css, hj, rfl, hR, gw, hs5, hz5⟩ := hrel;have HSZ : Hid (w.heap.size + 3 ≤ wr.heap.size) := Za hz5;by_cases hjl : j < s.idx.length
        ·obtain ⟨b, off, a1, c1, hv1, q0, q1, q2, q3, q4, hu⟩ := Jm (hi.grow gw) j hjl;cases hv1;have HDN : Hid (Q9 (s.idx.take (j + 1)) A = Q9 (s.idx.take j) A ++ (if s.idx[j].pair = A then [] else [s.idx[j]])) := Zsi s.idx A j hjl;have hzl : (Q9 (s.idx.take j) A).length ≤ 1000 := by
          unfold Q9;exact Nat.le_trans (List.length_filter_le _ _) (by rw [List.length_take]; omega)
         generalize s.idx[j] = x at *;generalize Q9 (s.idx.take j) A = zs at *;obtain ⟨a0, c0, rfl⟩ := hR.form;have g1 := Zb wr (.cells #[.int .i64 x.rc.kind, .int .i64 x.rc.key, .int .i64 x.rc.ver, .slice a1 x.rc.data.length c1, .int .i64 x.pair] 92);have hX1 := Zh wr #[.int .i64 x.rc.kind, .int .i64 x.rc.key, .int .i64 x.rc.ver, .slice a1 x.rc.data.length c1, .int .i64 x.pair] 92;have s3 := World.size_alloc wr (.cells #[.int .i64 x.rc.kind, .int .i64 x.rc.key, .int .i64 x.rc.ver, .slice a1 x.rc.data.length c1, .int .i64 x.pair] 92);have hR3 := hR.grow g1;have hu3 := hu.grow g1;have gw3 := gw.trans g1;have hs6 := (g1.block _ (Za hs5)).trans hs5;have hz6 := (g1.block _ (Za hz5)).trans hz5;obtain ⟨x0, x1, x2, x3, x4⟩ := Qb hX1 rfl rfl rfl rfl rfl;have hnew : ∀ (t : Nat) u, ([.int .i64 x.rc.kind, .int .i64 x.rc.key, .int .i64 x.rc.ver, .slice a1 x.rc.data.length c1, .int .i64 x.pair] : List Value)[t]? = some u → ((wr.alloc (.cells #[.int .i64 x.rc.kind, .int .i64 x.rc.key, .int .i64 x.rc.ver, .slice a1 x.rc.data.length c1, .int .i64 x.pair] 92)).alloc (.cells #[.int .i64 x.rc.kind, .int .i64 x.rc.key, .int .i64 x.rc.ver, .slice a1 x.rc.data.length c1, .int .i64 x.pair] 92)).cell? ((⟨wr.heap.size + 1, 0, none⟩ : Addr).add t) = some u := fun t u ht => by rw [← s3]; exact Ke _ _ _ _ _ _ 92 t u ht
         clear hR hu gw g1 hs5 hz5 s3 hX1;by_cases hp : x.pair = A
         ·have dp : (x.pair != A) = false := by simp [hp]
          have HDR : Hid (Q9 (s.idx.take (j + 1)) A = zs) := by show _ = _; rw [HDN.out, if_pos hp, List.append_nil]
          clear hp HDN hnew;go_wp2_with fail;go_roundw
          case rel => exact ⟨j + 1, css, by omega, by go_num, by rw [HDR.out]; exact hR3, gw3, hs6, hz6⟩
          case measure => simp [intOf]; omega
         ·have dp : (x.pair != A) = true := by simp [hp]
          have HDR : Hid (Q9 (s.idx.take (j + 1)) A = zs ++ [x]) := by show _ = _; rw [HDN.out, if_neg hp]
          clear hp HDN;go_wp2_with (first | (at_builtin; refine wpList_append_own _ rfl (.tmp 89) (.tmp 91) 27 rfl (w.heap.size + 3) 92 i0 (.agg #[.int .i64 0, .int .i64 0, .int .i64 0, .slice none 0 0, .int .i64 0]) 5 56 Tryz.underlying27 hif hz0 hz1 hz2 rfl (by decide) (.slice a0 zs.length c0) _ _ rfl (hR3.row.alloc _) ⟨wr.heap.size + 1, 0, none⟩ 1 1 [.int .i64 x.rc.kind, .int .i64 x.rc.key, .int .i64 x.rc.ver, .slice a1 x.rc.data.length c1, .int .i64 x.pair] rfl rfl hnew (by intro u hu; simp at hu; rcases hu with rfl | rfl | rfl | rfl | rfl <;> rfl) (by unfold maxLen; omega) (by omega) (by have := HSZ.out; simp; omega) ?_; intro v4 w4 hown4 hgrow4 _; have hR6 := hR3.step (x := x) (by decide) (fun b h => by have := hS b h; omega) ⟨_, rfl, hu3.mono (fun _ h => .inl h)⟩ hgrow4 hown4; have g6 : Zn w w4 := Z6 (gw3.trans (Zb _ _)) hgrow4 (fun k hk => by have := (hR3.row.lt k hk).1; omega); have hs7 := (X4 hR3.row hgrow4 (Ka hR3.row (by omega)) (Za hs6)).trans hs6; have hz7 := (X4 hR3.row hgrow4 (Ka hR3.row (by omega)) (Za hz6)).trans hz6; have hsl := Y5 hown4; obtain ⟨a4, c4, hv4⟩ := hsl; subst hv4; clear hgrow4 hown4 hR3 hnew gw3 hs6 hz6));go_roundw
          case rel => exact ⟨j + 1, _, by omega, by go_num, by rw [HDR.out]; exact hR6, g6, hs7, hz7⟩
          case measure => simp [intOf]; omega
        ·have hEI := hR.slice;rw [List.take_of_length_le (by omega), ← HIX.out] at hEI;obtain ⟨a8, c8x, rfl⟩ := hEI.form;obtain ⟨s0, s1⟩ := Y9 hs5 rfl rfl;clear hR HIX HAT;go_wp2_with fail;refine (Zdc S s.dk A 1 0 0 [] _ _ wr (fun b h => Nat.lt_of_lt_of_le (hS b h) gw.size) ⟨_, _, rfl, hb.grow gw, hl.grow gw⟩ (show Bytes wr (.slice none 0 0) [] from .inl ⟨none, 0, rfl, rfl, fun _ => rfl⟩) hsm.1 hsm.2).mono ?_;rw [← HPD.out];rintro r w6 ⟨v6, rfl, hP6, g6⟩;obtain ⟨b6, e6, l6, m6, rfl, hPb, hPl⟩ := hP6.form;have hs6 := (g6.block _ (Za hs5)).trans hs5;have hz6 := (g6.block _ (Za hz5)).trans hz5;have gw6 := gw.trans g6;have hI6 := hEI.grow g6;obtain ⟨ht1, ht2⟩ := Zsp hs6 (.slice b6 PD.blocks.length e6) (.slice l6 PD.late.length m6) (.slice a8 IX.length c8x);have hz8 := (ht2.block _ (Za hz6) (by omega)).trans hz6;have gw8 := ht2.grow gw6 (Nat.le_refl _);have HBB : Hid (w.heap.size + 2 < w.heap.size + 3 ∧ w.heap.size + 3 ≤ wr.heap.size) := ⟨by omega, HSZ.out⟩;have hns : ¬ Zt S (w.heap.size + 3) w.heap.size := Ym hS (by omega);have hPb8 := (hPb.mono (Z0 HSZ.out)).but ht2 hns;have hPl8 := (hPl.mono (Z0 HSZ.out)).but ht2 hns;have hI8 := hI6.but ht2 hns;obtain ⟨y0, y1, y2, y3⟩ := Z7 hs6 rfl rfl rfl rfl;have k0 := Zk hs6 0;have k1 := Zk hs6 1;have k2 := Zk hs6 2;have cs := Zr;obtain ⟨BB, hBB⟩ : ∃ BB, BB = w.heap.size + 3 := ⟨_, rfl⟩;rw [← hBB] at hPb8 hPl8 hI8 HBB;clear hBB hns hP6 hPb hPl hs6 hz6 gw6 hI6 ht2 hs5 hz5 gw g6 hEI s0 s1 HPD;obtain ⟨t0, t1, t2, t3⟩ := Z7 ht1 rfl rfl rfl rfl
         obtain ⟨hq1, hq2⟩ := Yg hz8 (.slice b6 PD.blocks.length e6) (.slice l6 PD.late.length m6) (.slice a8 IX.length c8x) (.int .i64 s.next);obtain ⟨z0, z1, z2, z3⟩ := Z7 hz8 rfl rfl rfl rfl;obtain ⟨f0, f1, f2, f3⟩ := Yr hz8;obtain ⟨x0, x1, x2, x3⟩ := Z7 hq1 rfl rfl rfl rfl;have gE := hq2.grow gw8 (by omega);have hnz : ¬ Zt S BB (w.heap.size + 2) := Ym (fun b h => by have := hS b h; omega) (by have := HBB.out; omega);have hE : Z8 (Zt S w.heap.size) ⟨PD, IX, s.next⟩ (.agg #[.slice b6 PD.blocks.length e6, .slice l6 PD.late.length m6, .slice a8 IX.length c8x, .int .i64 s.next]) _ := ⟨_, _, _, rfl, (hPb8.but hq2 hnz).mono (Z0 (by have := HBB.out; omega)), (hPl8.but hq2 hnz).mono (Z0 (by have := HBB.out; omega)), (hI8.but hq2 hnz).mono (Z0 (by have := HBB.out; omega))⟩;clear hq1 hq2 hz8 gw8 hnz hPb8 hPl8 hI8 ht1;go_wp2_with fail;exact bodyPost_ret (v := .tuple #[.agg #[.slice b6 PD.blocks.length e6, .slice l6 PD.late.length m6, .slice a8 IX.length c8x, .int .i64 s.next], .int .i64 D.n, .int .i64 0]) (by simp [results, Tryz.results55, go_sem, x0, x1, x2, x3]) rfl ⟨_, rfl, hE, gE⟩
      ·have dk : (d.kind == 3) = false := by simp [h3]
       have HRF : Hid (R = ⟨⟨s.dk.pairD (Qa s.idx) (Xy d D.n), X6 ⟨Xy d D.n, (Qa s.idx : Nat)⟩ s.idx, s.next⟩, D.n, 0⟩) := by show R = _; rw [HRE.out, if_neg h3]
       clear h3 HRE HAT;go_wp2_with fail;clear dk e0;obtain ⟨wo, rfl⟩ : ∃ wo : World, wo = wr := ⟨_, rfl⟩;go_loopw [18] (fun f wq => wq = wo ∧ ∃ q : Nat, q ≤ 6 ∧ f = .int .i64 (q : Int) ∧ Hid (∀ m : Nat, m < q → Jo s.idx (m : Int) = true)) (fun f _ => 7 - (intOf f).toNat)
       case atStart => exact ⟨rfl, 0, by omega, rfl, fun m hm => by omega⟩
       case round =>
        obtain ⟨hww, q, hq, rfl, HU⟩ := hrel;subst hww;have hask := hM5.ask (q : Int) (Zfu (by omega) (by omega));cases hub : Jo s.idx (q : Int) with
        | true =>
         rw [hub] at hask;have hq5 : q < 6 := by
          obtain ⟨x, hx, hxp⟩ := (K0 s.idx _).1 hub;have := HSX.out x hx;omega
         have HU2 : Hid (∀ m : Nat, m < q + 1 → Jo s.idx (m : Int) = true) := fun m hm => by
          by_cases e : m = q
          ·rw [e]; exact hub
          ·exact HU.out m (by omega)
         clear hub HU;go_wp2_with fail;go_roundw
         case rel => exact ⟨trivial, q + 1, by omega, by go_num, HU2⟩
         case measure => simp [intOf]; omega
        | false =>
         rw [hub] at hask;have HQ : Hid (Qa s.idx = q) := Zr5 ⟨fun m hm => (K0 s.idx _).1 (HU.out m hm), fun x hx hxp => by
          have := (K0 s.idx (q : Int)).2 ⟨x, hx, hxp⟩;rw [hub] at this; cases this⟩ hq
         obtain ⟨PD, hPD⟩ : ∃ PD, PD = s.dk.pairD (q : Int) ⟨1 + d.kind, d.key, D.n, d.data⟩ := ⟨_, rfl⟩;obtain ⟨IX, hIX⟩ : ∃ IX, IX = X6 ⟨⟨1 + d.kind, d.key, D.n, d.data⟩, (q : Int)⟩ s.idx := ⟨_, rfl⟩;obtain rfl : R = ⟨⟨PD, IX, s.next⟩, D.n, 0⟩ := by rw [HRF.out, HQ.out, hPD, hIX]; rfl
         have HPD : Hid _ := hPD;have HIX : Hid _ := hIX;have HSZ : Hid (w.heap.size + 3 ≤ wr.heap.size) := Za hz5;clear hub HU HQ HRF hPD hIX hM5;obtain ⟨e0, e1, e2, e3⟩ := Z7 hd5 rfl rfl rfl rfl;go_wp2_with fail;clear hask;refine (Zim d D.n ad c wr (by omega) (by omega)).mono ?_;rintro r w5 ⟨rfl, g5⟩;have hs6 := (g5.block _ (Za hs5)).trans hs5;have hz6 := (g5.block _ (Za hz5)).trans hz5;have g6 := Zb w5 (.cells #[.int .i64 (1 + d.kind), .int .i64 d.key, .int .i64 D.n, .slice ad d.data.length c] 61);have hX := Zh w5 #[.int .i64 (1 + d.kind), .int .i64 d.key, .int .i64 D.n, .slice ad d.data.length c] 61;have hs7 := (g6.block _ (Za hs6)).trans hs6;have hz7 := (g6.block _ (Za hz6)).trans hz6;have gw7 := (gw.trans g5).trans g6;have HXL : Hid (w.heap.size + 3 ≤ w5.heap.size) := Nat.le_trans HSZ.out g5.size;clear e0 e1 e2 e3 hd5 hs5 hz5 gw g5 hs6 hz6 g6;obtain ⟨x0, x1, x2, x3⟩ := Z7 hX rfl rfl rfl rfl;obtain ⟨s0, s1⟩ := Y9 hs7 rfl rfl;go_wp2_with fail;obtain ⟨gr, hgr⟩ : ∃ gr, gr = w5.heap.size := ⟨_, rfl⟩;rw [← hgr] at hX HXL x0 x1 x2 x3 ⊢;clear hgr;generalize World.alloc w5 _ = W7 at *;refine (Zdc S s.dk (q : Int) (1 + d.kind) d.key D.n d.data _ _ W7 (fun b h => Nat.lt_of_lt_of_le (hS b h) gw7.size) ⟨_, _, rfl, hb.grow gw7, hl.grow gw7⟩ (hd.grow gw7).p hsm.1 hsm.2).mono ?_;rw [← HPD.out];rintro r w8 ⟨v8, rfl, hP8, g8⟩;obtain ⟨b6, e6, l6, m6, rfl, hPb, hPl⟩ := hP8.form;have hs8 := (g8.block _ (Za hs7)).trans hs7;have hz9 := (g8.block _ (Za hz7)).trans hz7
         have hX8 := (g8.block _ (Za hX)).trans hX;have gw9 := gw7.trans g8;have HSZ7 : Hid (w.heap.size + 3 ≤ W7.heap.size) := Za hz7;clear x0 x1 x2 x3 s0 s1 hs7 hz7 hX gw7 g8 HPD;obtain ⟨ht1, ht2⟩ := Za2 hs8 (.slice b6 PD.blocks.length e6) (.slice l6 PD.late.length m6);have hz10 := (ht2.block _ (Za hz9) (by omega)).trans hz9;have hX10 := (ht2.block _ (Za hX8) (by have := HXL.out; omega)).trans hX8;have gw10 := ht2.grow gw9 (Nat.le_refl _);have hns : ¬ Zt S (w.heap.size + 3) w.heap.size := Ym hS (by omega);have hPb10 := (hPb.mono (Z0 HSZ7.out)).but ht2 hns;have hPl10 := (hPl.mono (Z0 HSZ7.out)).but ht2 hns;obtain ⟨y0, y1, y2⟩ := Zx2 hs8 rfl rfl rfl;have k0 := Zk hs8 0;have k1 := Zk hs8 1;have cs := Zr;obtain ⟨x0, x1, x2, x3⟩ := Z7 hX10 rfl rfl rfl rfl;have t2 := Zc ht1 2 _ rfl;clear hP8 hPb hPl hs8 hz9 hX8 gw9 ht2;go_wp2_with fail;clear x0 x1 x2 x3 y0 y1 y2 k0 k1 t2;generalize (w8.setCell ⟨w.heap.size, 0, none⟩ (.slice b6 PD.blocks.length e6)).setCell ⟨w.heap.size, 1, none⟩ (.slice l6 PD.late.length m6) = W10 at *;refine (Ze3 S s.idx ⟨⟨1 + d.kind, d.key, D.n, d.data⟩, (q : Int)⟩ _ ad c W10 (fun b h => Nat.lt_of_lt_of_le (hS b h) gw10.size) (hi.grow gw10) (hd.grow gw10) (by omega)).mono ?_;rw [← HIX.out];rintro r w11 ⟨v11, rfl, hI11, g11⟩;obtain ⟨a8, c8x, rfl⟩ := hI11.form;have hs11 := (g11.block _ (Za ht1)).trans ht1;have hz11 := (g11.block _ (Za hz10)).trans hz10;have gw11 := gw10.trans g11;have HSZ10 : Hid (w.heap.size + 3 ≤ W10.heap.size) := Za hz10
         have hr1 := Yh hs11 2 (.slice a8 IX.length c8x);have hr2 := (Zp.refl w.heap.size w11).set 2 none (.slice a8 IX.length c8x);have hz8 := (hr2.block _ (Za hz11) (by omega)).trans hz11;have gw8 := hr2.grow gw11 (Nat.le_refl _);have hPb8 := (hPb10.grow g11).but hr2 hns;have hPl8 := (hPl10.grow g11).but hr2 hns;have hI8 := (hI11.mono (Z0 HSZ10.out)).but hr2 hns;have HBB : Hid (w.heap.size + 2 < w.heap.size + 3) := by show _ < _; omega
         obtain ⟨y0, y1, y2, y3⟩ := Z7 hs11 rfl rfl rfl rfl;have k2 := Zk hs11 2;obtain ⟨BB, hBB⟩ : ∃ BB, BB = w.heap.size + 3 := ⟨_, rfl⟩;rw [← hBB] at hPb8 hPl8 hI8 HBB;clear hBB hns hs11 hz11 gw11 hI11 hr2 hPb10 hPl10 ht1 hz10 gw10 g11 hX10 HIX;obtain ⟨t0, t1, t2, t3⟩ := Z7 hr1 rfl rfl rfl rfl;obtain ⟨hq1, hq2⟩ := Yg hz8 (.slice b6 PD.blocks.length e6) (.slice l6 PD.late.length m6) (.slice a8 IX.length c8x) (.int .i64 s.next);obtain ⟨z0, z1, z2, z3⟩ := Z7 hz8 rfl rfl rfl rfl;obtain ⟨f0, f1, f2, f3⟩ := Yr hz8;obtain ⟨x0, x1, x2, x3⟩ := Z7 hq1 rfl rfl rfl rfl;have gE := hq2.grow gw8 (by omega);have hnz : ¬ Zt S BB (w.heap.size + 2) := Ym (fun b h => by have := hS b h; omega) (by have := HBB.out; omega);have hE : Z8 (Zt S w.heap.size) ⟨PD, IX, s.next⟩ (.agg #[.slice b6 PD.blocks.length e6, .slice l6 PD.late.length m6, .slice a8 IX.length c8x, .int .i64 s.next]) _ := ⟨_, _, _, rfl, (hPb8.but hq2 hnz).mono (Z0 (by have := HBB.out; omega)), (hPl8.but hq2 hnz).mono (Z0 (by have := HBB.out; omega)), (hI8.but hq2 hnz).mono (Z0 (by have := HBB.out; omega))⟩;clear hq1 hq2 hz8 gw8 hnz hPb8 hPl8 hI8 hr1;go_wp2_with fail;exact bodyPost_ret (v := .tuple #[.agg #[.slice b6 PD.blocks.length e6, .slice l6 PD.late.length m6, .slice a8 IX.length c8x, .int .i64 s.next], .int .i64 D.n, .int .i64 0]) (by simp [results, Tryz.results55, go_sem, x0, x1, x2, x3]) rfl ⟨_, rfl, hE, gE⟩
   ·obtain rfl : R = ⟨s, 0, D.e⟩ := by rw [HRD.out, if_pos hDe]
    have dE : (D.e != 0) = true := by simp [hDe]
    have hsX := hs3;have hzX := hz3;have gwX := gw3;clear hs3 hd3 hz3 gw3 hDe HRD;obtain ⟨s0, s1, s2, s3⟩ := Z7 hsX rfl rfl rfl rfl;obtain ⟨z0, z1, z2, z3⟩ := Z7 hzX rfl rfl rfl rfl;obtain ⟨f0, f1, f2, f3⟩ := Yr hzX;have cs := Zr;obtain ⟨hq1, hq2⟩ := Yg hzX (.slice ab s.dk.blocks.length cb) (.slice al s.dk.late.length cl) (.slice ai s.idx.length ci) (.int .i64 s.next);obtain ⟨x0, x1, x2, x3⟩ := Z7 hq1 rfl rfl rfl rfl;have gE := hq2.grow gwX (by omega);have hE := (hs.grow gE).mono (S' := Zt S w.heap.size) V8;clear hq1 hq2 hzX hsX gwX;go_wp2_with fail;exact bodyPost_ret (v := .tuple #[.agg #[.slice ab s.dk.blocks.length cb, .slice al s.dk.late.length cl, .slice ai s.idx.length ci, .int .i64 s.next], .int .i64 0, .int .i64 D.e]) (by simp [results, Tryz.results55, go_sem, x0, x1, x2, x3]) rfl ⟨_, rfl, hE, gE⟩
 ·obtain rfl : R = ⟨s, 0, Yl d⟩ := by rw [HR.out]; unfold St.begin; rw [if_pos hwd]
  have dW : (Yl d != 0) = true := by simp [hwd]
  rintro r w1 ⟨rfl, g1⟩;have hsX := (g1.block _ (Za hs1)).trans hs1;have hzX := (g1.block _ (Za hz0)).trans hz0;have gwX := g0.trans g1;clear hs1 hd1 hz0 g0 g1 d0 d1 d2 d3;clear hwd;obtain ⟨s0, s1, s2, s3⟩ := Z7 hsX rfl rfl rfl rfl;obtain ⟨z0, z1, z2, z3⟩ := Z7 hzX rfl rfl rfl rfl;obtain ⟨f0, f1, f2, f3⟩ := Yr hzX;have cs := Zr;obtain ⟨hq1, hq2⟩ := Yg hzX (.slice ab s.dk.blocks.length cb) (.slice al s.dk.late.length cl) (.slice ai s.idx.length ci) (.int .i64 s.next);obtain ⟨x0, x1, x2, x3⟩ := Z7 hq1 rfl rfl rfl rfl;have gE := hq2.grow gwX (by omega);have hE := (hs.grow gE).mono (S' := Zt S w.heap.size) V8;clear hq1 hq2 hzX hsX gwX;go_wp2_with fail;exact bodyPost_ret (v := .tuple #[.agg #[.slice ab s.dk.blocks.length cb, .slice al s.dk.late.length cl, .slice ai s.idx.length ci, .int .i64 s.next], .int .i64 0, .int .i64 (Yl d)]) (by simp [results, Tryz.results55, go_sem, x0, x1, x2, x3]) rfl ⟨_, rfl, hE, gE⟩
end Go.Proofs.YtpdnapbchcdhlacGreat
