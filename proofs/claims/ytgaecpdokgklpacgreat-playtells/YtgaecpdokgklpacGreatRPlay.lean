import Derived.Test.YtgaecpdokgklpacGreatRStep
import Derived.Deep.AppendLies
set_option maxHeartbeats 8000000
namespace Go.Proofs.YtgaecpdokgklpacGreat
set_option maxRecDepth 100000
open Go.RowKit
open Plain Reg
def V1 (a : St × List Int × List Int) (x : Sp) : St × List Int × List Int := ((a.1.step x).st, a.2.1 ++ [(a.1.step x).e], a.2.2 ++ [(a.1.step x).n])
def Xw (l : List Sp) : St × List Int × List Int := l.foldl V1 (Xf, [], [])
theorem Zd8 (l : List Sp) (k : Nat) (h : k < l.length) : Xw (l.take (k + 1)) = V1 (Xw (l.take k)) l[k] := by
 unfold Xw;rw [List.take_succ_eq_append_getElem h, List.foldl_append]; rfl
theorem Zb9 (l : List Sp) : ∀ a : St × List Int × List Int, (l.foldl V1 a).2.1.length = a.2.1.length + l.length ∧ (l.foldl V1 a).2.2.length = a.2.2.length + l.length := by
 induction l with
 | nil => intro a; simp
 | cons x l ih =>
  intro a;obtain ⟨h1, h2⟩ := ih (V1 a x);simp only [List.foldl_cons, List.length_cons];rw [h1, h2];simp [V1];omega
theorem Zug (l : List Sp) : ∀ a : St × List Int × List Int, a.1.At → (l.foldl V1 a).1.At := by
 induction l with
 | nil => intro a h; exact h
 | cons x l ih => intro a h; exact ih _ (Zel h)
def iv (x : Int) : Value := .int .i64 x
theorem Zfy : (Tryz.prog.info? 50).map (fun i => (i.zero, i.size, i.bytes)) = some (some (.int .i64 0), 1, 8) := by kernel_rfl
theorem Z4.grown {U : Nat → Prop} {s : St} {v : Value} {w w' : World} {row : Option Nat} (h : Z4 U s v w) (hg : w.grownBy w' row) (hn : ∀ b, row = some b → ¬ U b) : Z4 U s v w' := by
 cases row with
 | none => exact h.grow (Yb (Zo.refl _) hg (fun k hk => by cases hk))
 | some q => exact h.but (Zr.grown hg) (hn q rfl)
theorem Zbn {w w' : World} {base size n q : Nat} {e : TypeId} {v : Value} {xs : List Value} (h : w.ownsRow base e size v n xs) (hg : Zr q w w') (hq : q < base) : w'.ownsRow base e size v n xs :=
 ⟨h.1, Xm h.2 (fun x => x) fun ⟨g, cap, cur, h1, h2, h3, r⟩ => ⟨g, cap, cur, h1, h2, by rw [hg.block _ (Za h3) (by omega)]; exact h3, r⟩⟩
structure Apt (S : Nat → Prop) (B G : Nat) (U : Nat → Prop) (ev nv : Value) (w : World) : Prop where
 lt : ∀ b, U b → b < w.heap.size
 up : ∀ b, U b → Zw S B b
 z : ¬ U B
 g : ¬ U G
 s : ∀ b, S b → U b
 e : ∀ b, ev.ownBlock = some b → ¬ U b
 n : ∀ b, nv.ownBlock = some b → ¬ U b
theorem Zn4 (w : World) (x : Int) (T : TypeId) : ∀ (t : Nat) u, ([.int .i64 x] : List Value)[t]? = some u → (w.alloc (.cells #[.int .i64 x] T)).cell? ((⟨w.heap.size, 0, none⟩ : Addr).add t) = some u := by
 intro t u ht
 match t, ht with
 | 0, ht => simp at ht; subst ht; simp [Addr.add]
 | t + 1, ht => simp at ht
theorem Zsz {U : Nat → Prop} {B G n1 n2 g9 : Nat} {ev nv v : Value} {w0 w w9 : World} {o : Obj} {T1 T2 TZ TG : TypeId} {s : St} {es ns : List Value} {cz cg : Array Value} {fz fg : Nat × Nat} (hBG : B < G) (hB : w0.heap.size ≤ B) (hT : T2 ≠ T1)
  (he : w.ownsRow (G + 1) T1 1 ev n1 es) (hn : w.ownsRow (G + 1) T2 1 nv n2 ns) (hlt : ∀ b, U b → b < w.heap.size) (hUe : ∀ b, ev.ownBlock = some b → ¬ U b) (hS : Z4 U s v w) (hz : w.heap[B]? = some (.cells cz TZ fz)) (hy : w.heap[G]? = some (.cells cg TG fg)) (gw : Zo w0 w)
  (hgr : (w.alloc o).grownBy w9 ev.ownBlock) (hat : ev.ownBlock = some g9 ∨ g9 = (w.alloc o).heap.size) :
  Z4 U s v w9 ∧ w9.heap[B]? = some (.cells cz TZ fz) ∧ w9.heap[G]? = some (.cells cg TG fg) ∧ w9.ownsRow (G + 1) T2 1 nv n2 ns ∧ Zo w0 w9 ∧ ¬ U g9 ∧ w.heap.size ≤ w9.heap.size := by
 refine ⟨(hS.grow (Zc w o)).grown hgr hUe, ?_, ?_, Jz he hgr hT hn, ?_, ?_, ?_⟩
 ·exact (Xx he hgr (Vt he (by omega)) (Za hz)).trans hz
 ·exact (Xx he hgr (Vt he (by omega)) (Za hy)).trans hy
 ·exact Yb (gw.trans (Zc w o)) hgr (fun k hk => by have := (he.lt k hk).1; omega)
 ·rcases hat with h | h
  ·exact hUe g9 h
  ·intro hu;have := hlt g9 hu;rw [h, World.size_alloc] at this;omega
 ·have := hgr.size;rw [World.size_alloc] at this;omega
theorem Zou (S : Nat → Prop) (l : List Sp) (v : Value) (w : World) (hS : ∀ b, S b → b < w.heap.size) (hl : Zci S w v l) (hm : l.length ≤ 140737488355328) (hdl : ∀ x ∈ l, x.deed.data.length ≤ 140737488355328) :
  Calls Tryz.prog 8 #[v] w fun r w' => ∃ v' ev nv, r = .returned (.tuple #[v', ev, nv]) ∧ Z4 (Zw S w.heap.size) (Xw (l.take 100)).1 v' w' ∧ w'.ownsRow w.heap.size 50 1 ev (Xw (l.take 100)).2.1.length ((Xw (l.take 100)).2.1.map iv) ∧ w'.ownsRow w.heap.size 3 1 nv (Xw (l.take 100)).2.2.length ((Xw (l.take 100)).2.2.map iv) ∧ Zo w w' := by
 obtain ⟨ao, cp, rfl⟩ := hl.form;have g0 := Zc w Y7;have hz0 := Zj w #[.slice none 0 0, .slice none 0 0, .slice none 0 0, .int .i64 0] 29;obtain ⟨R, hR⟩ : ∃ R, R = Xw (l.take 100) := ⟨_, rfl⟩;rw [← hR];have HR : Hid _ := hR;clear hR;obtain ⟨ie, hife, hze0, hze1, hze2⟩ := info_parts Zfy;obtain ⟨ii, hifi, hzi0, hzi1, hzi2⟩ := info_parts Zbr;go_enter Tryz.func8, Tryz.ntmps8;go_wp2_with fail;refine (Zow S (w.alloc Y7) (fun b h => by have := hS b h; simp; omega)).mono ?_;rintro r w1 ⟨v1, rfl, hS1, g1⟩;obtain ⟨b1, e1, l1, m1, i1, j1, hv1, -, -, -⟩ := hS1.form;subst hv1;rw [World.size_alloc] at hS1;obtain ⟨G, hG⟩ : ∃ G, G = w1.heap.size := ⟨_, rfl⟩;have hz1 := (g1.block _ (Za hz0)).trans hz0;have hGz : w.heap.size < G := by rw [hG]; exact Za hz1
 have g2 := Zc w1 (.cells #[.slice b1 Xf.dk.blocks.length e1, .slice l1 Xf.dk.late.length m1, .slice i1 Xf.idx.length j1, .int .i64 Xf.next] 29);have hY := Zj w1 #[.slice b1 Xf.dk.blocks.length e1, .slice l1 Xf.dk.late.length m1, .slice i1 Xf.idx.length j1, .int .i64 Xf.next] 29;have hz2 := (g2.block _ (Za hz1)).trans hz1;have gw2 := g0.trans (g1.trans g2);rw [← hG] at hY;have hA0 : Apt S w.heap.size G (fun b => Zw S (w.heap.size + 1) b ∧ b < G) (.slice none 0 0) (.slice none 0 0) (w1.alloc (.cells #[.slice b1 Xf.dk.blocks.length e1, .slice l1 Xf.dk.late.length m1, .slice i1 Xf.idx.length j1, .int .i64 Xf.next] 29)) :=
  ⟨fun b h => by have := h.2; rw [World.size_alloc]; omega, fun b h => h.1.elim .inl (fun x => .inr (by omega)), fun h => h.1.elim (fun x => Nat.lt_irrefl _ (hS _ x)) (fun x => by omega), fun h => Nat.lt_irrefl _ h.2, fun b h => ⟨.inl h, by have := hS b h; omega⟩, (fun b h => by cases h), (fun b h => by cases h)⟩
 have hS2 : Z4 (fun b => Zw S (w.heap.size + 1) b ∧ b < G) Xf (.agg #[.slice b1 Xf.dk.blocks.length e1, .slice l1 Xf.dk.late.length m1, .slice i1 Xf.idx.length j1, .int .i64 Xf.next]) (w1.alloc (.cells #[.slice b1 Xf.dk.blocks.length e1, .slice l1 Xf.dk.late.length m1, .slice i1 Xf.idx.length j1, .int .i64 Xf.next] 29)) := by rw [hG]; exact hS1.capd.grow g2
 have HG : Hid _ := hG;have HST : Hid (Xf.At) := Zih;clear g0 g1 g2 hz0 hz1 hS1 hG;go_wp2_with fail;rw [← HG.out];have HPL : Hid (Xw (l.take 0) = (Xf, [], [])) := by show _ = _; rfl
 generalize Xf = s0 at *;go_loopw [6, 7, 16] (fun ev nv i wr => ∃ (k : Nat) (s : St) (es ns : List Int) (U : Nat → Prop) (b1 : Option Addr) (e1 : Nat) (l1 : Option Addr) (m1 : Nat) (i1 : Option Addr) (j1 : Nat), k ≤ 100 ∧ k ≤ l.length ∧ i = .int .i64 (k : Int) ∧ Hid (Xw (l.take k) = (s, es, ns)) ∧ Hid s.At ∧ wr.heap[w.heap.size]? = some (.cells #[.slice none 0 0, .slice none 0 0, .slice none 0 0, .int .i64 0] 29 (0, 0)) ∧ wr.heap[G]? = some (.cells #[.slice b1 s.dk.blocks.length e1, .slice l1 s.dk.late.length m1, .slice i1 s.idx.length j1, .int .i64 s.next] 29 (0, 0)) ∧ Z4 U s (.agg #[.slice b1 s.dk.blocks.length e1, .slice l1 s.dk.late.length m1, .slice i1 s.idx.length j1, .int .i64 s.next]) wr ∧ Apt S w.heap.size G U ev nv wr ∧ wr.ownsRow (G + 1) 50 1 ev es.length (es.map iv) ∧ wr.ownsRow (G + 1) 3 1 nv ns.length (ns.map iv) ∧ Zo w wr) (fun _ _ i _ => l.length - (intOf i).toNat)
 case atStart => exact ⟨0, s0, [], [], _, b1, e1, l1, m1, i1, j1, by omega, by omega, rfl, HPL, HST, hz2, hY, hS2, hA0, World.ownsRow_nil _ _ _ _, World.ownsRow_nil _ _ _ _, gw2⟩
 case round =>
  clear hz2 hY hS2 gw2 HPL HST hA0;obtain ⟨k, s, es, ns, U, b1, e1, l1, m1, i1, j1, hk1, hkl, rfl, HPL, HST, hz9, hY, hS9, hA9, he9, hn9, gw9⟩ := hrel;have hGr : G < wr.heap.size := Za hY;have HLN : Hid (es.length = k ∧ ns.length = k) := by
   have h := Zb9 (l.take k) (Xf, [], []);have e : (l.take k).foldl V1 (Xf, [], []) = (s, es, ns) := HPL.out;rw [e] at h;simp only [List.length_nil, List.length_take] at h;show _ ∧ _;omega
  obtain ⟨ae, ce, rfl⟩ := Z6 he9;obtain ⟨an, cn, rfl⟩ := Z6 hn9;obtain ⟨y0, y1, y2, y3⟩ := Z8 hY rfl rfl rfl rfl;by_cases hlt : k < l.length
  ·obtain ⟨b, off, ad, c, hao, q0, q1, q2, q3, q4, q5, q6, hbd⟩ := Zi9 (hl.grow gw9) k hlt;cases hao;have HNX : Hid (Xw (l.take (k + 1)) = V1 (Xw (l.take k)) l[k]) := Zd8 l k hlt;have HDL : Hid (l[k].deed.data.length ≤ 140737488355328) := hdl _ (List.getElem_mem hlt);generalize l[k] = x at *;have g3 := Zc wr (.cells #[.int .i64 x.kind, .int .i64 x.n, .int .i64 x.m, .int .i64 x.deed.kind, .int .i64 x.deed.key, .int .i64 x.deed.num, .slice ad x.deed.data.length c] 49);have hX := Zj wr #[.int .i64 x.kind, .int .i64 x.n, .int .i64 x.m, .int .i64 x.deed.kind, .int .i64 x.deed.key, .int .i64 x.deed.num, .slice ad x.deed.data.length c] 49;have hz3 := (g3.block _ (Za hz9)).trans hz9;have hY3 := (g3.block _ (Za hY)).trans hY;have hS3 := hS9.grow g3;have hb3 := hbd.grow g3;have gw3 := gw9.trans g3;have he3 := Z5 he9 g3;have hn3 := Z5 hn9 g3;have hA3 : Apt S w.heap.size G U (.slice ae es.length ce) (.slice an ns.length cn) (wr.alloc (.cells #[.int .i64 x.kind, .int .i64 x.n, .int .i64 x.m, .int .i64 x.deed.kind, .int .i64 x.deed.key, .int .i64 x.deed.num, .slice ad x.deed.data.length c] 49)) := ⟨fun b h => Nat.lt_of_lt_of_le (hA9.lt b h) g3.size, hA9.up, hA9.z, hA9.g, hA9.s, hA9.e, hA9.n⟩;clear y0 y1 y2 y3 hz9 hS9 gw9 hY hbd he9 hn9 hA9;obtain ⟨y0, y1, y2, y3⟩ := Z8 hY3 rfl rfl rfl rfl;by_cases h100 : k = 100
   ·have d1 : ((k : Int) == 100) = true := by simp [h100]
    obtain rfl : R = (s, es, ns) := by rw [HR.out, ← HPL.out, h100]
    have hz9 := hz3;have hS9 := hS3;have gw9 := gw3;have he9 := he3;have hn9 := hn3;have hA9 := hA3;obtain ⟨ev, hev⟩ : ∃ ev, ev = Value.slice ae es.length ce := ⟨_, rfl⟩;obtain ⟨nv, hnv⟩ : ∃ nv, nv = Value.slice an ns.length cn := ⟨_, rfl⟩;rw [← hev] at he9 hA9 ⊢;rw [← hnv] at hn9 hA9 ⊢;clear HPL HST hX hz3 hS3 gw3 hY3 hb3 g3 h100 he3 hn3 hA3 HLN HNX hev hnv;obtain ⟨z0, z1, z2, z3⟩ := Z8 hz9 rfl rfl rfl rfl;obtain ⟨o0, o1, o2, o3⟩ := Yq hz9;obtain ⟨hq1, hq2⟩ := Yh hz9 (.slice b1 s.dk.blocks.length e1) (.slice l1 s.dk.late.length m1) (.slice i1 s.idx.length j1) (.int .i64 s.next);obtain ⟨x0, x1, x2, x3⟩ := Z8 hq1 rfl rfl rfl rfl;have cs := Zv;have gE := hq2.grow gw9 (Nat.le_refl _);have hE := (hS9.but hq2 hA9.z).mono hA9.up;have rE := Yj (Zbn he9 hq2 (by omega)) (show w.heap.size ≤ G + 1 by omega);have rN := Yj (Zbn hn9 hq2 (by omega)) (show w.heap.size ≤ G + 1 by omega);have HRE : Hid _ := rE;have HRN : Hid _ := rN;clear hq1 hq2 hz9 gw9 hS9 hA9 he9 hn9 rE rN;obtain ⟨ae, ce, rfl⟩ : ∃ ae ce, ev = .slice ae es.length ce := Z6 HRE.out;obtain ⟨an, cn, rfl⟩ : ∃ an cn, nv = .slice an ns.length cn := Z6 HRN.out;go_wp2_with fail;exact bodyPost_ret (v := .tuple #[.agg #[.slice b1 s.dk.blocks.length e1, .slice l1 s.dk.late.length m1, .slice i1 s.idx.length j1, .int .i64 s.next], .slice ae es.length ce, .slice an ns.length cn]) (by simp [results, Tryz.results8, go_sem, x0, x1, x2, x3]) rfl ⟨_, _, _, rfl, hE, HRE.out, HRN.out, gE⟩
   ·have d1 : ((k : Int) == 100) = false := by simp; omega
    have HK1 : Hid (k + 1 ≤ 100) := by show _ ≤ _; omega
    obtain ⟨p0, p1, p2, p3, p4⟩ := Qa hX rfl rfl rfl rfl rfl;have p5 := Zd hX 5 _ rfl;have p6 := Zd hX 6 _ rfl;clear g3 h100;go_wp2_with fail;generalize World.alloc wr _ = w4 at *;refine (Zg4 (fun b => U b ∧ b < w4.heap.size) s x _ ad c w4 (fun b h => h.2) hS3.capd ((hb3.mono hA3.s).caps) HST.out HDL.out).mono ?_;have HAT : Hid ((s.step x).st.At) := Zel HST.out;have HN2 : Hid (Xw (l.take (k + 1)) = ((s.step x).st, es ++ [(s.step x).e], ns ++ [(s.step x).n])) := by show _ = _; rw [HNX.out, HPL.out]; rfl
    generalize s.step x = B at *;rintro r w5 ⟨v5, rfl, hS5, g5⟩;obtain ⟨b5, e5, l5, m5, i5, j5, hv5, -, -, -⟩ := hS5.form;subst hv5;have hG4 : G < w4.heap.size := Za hY3;obtain ⟨U5, hU5⟩ : ∃ U5 : Nat → Prop, U5 = fun b => U b ∨ (w4.heap.size ≤ b ∧ b < w5.heap.size) := ⟨_, rfl⟩
    have h45 := g5.size;have hS6 : Z4 U5 B.st (.agg #[.slice b5 B.st.dk.blocks.length e5, .slice l5 B.st.dk.late.length m5, .slice i5 B.st.idx.length j5, .int .i64 B.st.next]) w5 := hS5.capd.mono (by
     rw [hU5];rintro b ⟨h | h, hb⟩
     ·exact .inl h.1
     ·exact .inr ⟨h, hb⟩)
    have hA5 : Apt S w.heap.size G U5 (.slice ae es.length ce) (.slice an ns.length cn) w5 := by
     rw [hU5];have hwB : w.heap.size < w4.heap.size := by omega
     refine ⟨fun b h => h.elim (fun x => by have := hA3.lt b x; omega) (fun x => x.2), fun b h => h.elim (hA3.up b) (fun x => .inr (by omega)), fun h => h.elim hA3.z (fun x => by omega), fun h => h.elim hA3.g (fun x => by omega), fun b h => .inl (hA3.s b h), fun b h hu => hu.elim (hA3.e b h) (fun x => ?_), fun b h hu => hu.elim (hA3.n b h) (fun x => ?_)⟩
     ·have := (he3.lt b h).2; omega
     ·have := (hn3.lt b h).2; omega
    have hz5 := (g5.block _ (Za hz3)).trans hz3;have hY5 := (g5.block _ (Za hY3)).trans hY3;have gw5 := gw3.trans g5;have he5 := Z5 he3 g5;have hn5 := Z5 hn3 g5;clear y0 y1 y2 y3 p0 p1 p2 p3 p4 p5 p6 hX hz3 hY3 hS3 hb3 gw3 hS5 g5 HST HNX HPL he3 hn3 hA3 hU5 q0 q1 q2 q3 q4 q5 q6;have g6 := Zc w5 (.cells #[.slice b5 B.st.dk.blocks.length e5, .slice l5 B.st.dk.late.length m5, .slice i5 B.st.idx.length j5, .int .i64 B.st.next] 29);have hU6 := Zj w5 #[.slice b5 B.st.dk.blocks.length e5, .slice l5 B.st.dk.late.length m5, .slice i5 B.st.idx.length j5, .int .i64 B.st.next] 29;obtain ⟨u0, u1, u2, u3⟩ := Z8 hU6 rfl rfl rfl rfl;have hY6 := (g6.block _ (Za hY5)).trans hY5;have hz6 := (g6.block _ (Za hz5)).trans hz5;obtain ⟨hp1, hp2⟩ := Yh hY6 (.slice b5 B.st.dk.blocks.length e5) (.slice l5 B.st.dk.late.length m5) (.slice i5 B.st.idx.length j5) (.int .i64 B.st.next);obtain ⟨y0, y1, y2, y3⟩ := Z8 hY6 rfl rfl rfl rfl;obtain ⟨f0, f1, f2, f3⟩ := Yq hY6;have cs := Zv;have hz7 := (hp2.block _ (Za hz6) (by intro e; omega)).trans hz6;have hS7 := (hS6.grow g6).but hp2 hA5.g;have gw7 := hp2.grow (gw5.trans g6) (by omega);have he7 := Zbn (Z5 he5 g6) hp2 (by omega);have hn7 := Zbn (Z5 hn5 g6) hp2 (by omega);have hlt7 := Nat.le_trans g6.size hp2.size;have hA7 := hA5;clear hp2 hz5 hY5 gw5 hS6 he5 hn5 hz6 hY6 hU6 g6 hA5;go_upto_region 10 with fail
    clear y0 y1 y2 y3 f0 f1 f2 f3 cs u0 u1 u2 u3;generalize World.setCell (World.setCell (World.setCell (World.setCell (World.alloc w5 _) _ _) _ _) _ _) _ _ = W7 at *;have q8 := Zn4 W7 B.e 50;have hle : es.length ≤ 100 ∧ ns.length ≤ 100 := by have := HLN.out; omega
    have hEL : Hid ((es ++ [B.e]).length = es.length + 1 ∧ (es ++ [B.e]).map iv = es.map iv ++ [.int .i64 B.e]) := by show _ ∧ _; simp [iv]
    have hNL : Hid ((ns ++ [B.n]).length = ns.length + 1 ∧ (ns ++ [B.n]).map iv = ns.map iv ++ [.int .i64 B.n]) := by show _ ∧ _; simp [iv]
    have hGW : G < W7.heap.size := Za hp1;go_wp2_with (first
     | (at_builtin; refine wpList_append_lies _ rfl (.tmp 31) (.tmp 33) 30 rfl (G + 1) 50 ie (.int .i64 0) 1 8 Tryz.underlying30 hife hze0 hze1 hze2 rfl (by decide) (.slice ae es.length ce) _ _ rfl (he7.alloc _) ⟨W7.heap.size, 0, none⟩ 1 1 [.int .i64 B.e] rfl rfl q8 (by intro u hu; simp at hu; subst hu; rfl) (by omega) (by unfold maxLen; omega) (by omega) (by simp; omega) _ rfl ?_; intro g9 c9 w9 hown9 hgr9 hat9 _hlt9; obtain ⟨hS9, hz9, hY9, hn9, gw9, hug9, hsz9⟩ := Zsz (by omega) (Nat.le_refl _) (by decide) he7 hn7 (fun b h => Nat.lt_of_lt_of_le (hA7.lt b h) hlt7) hA7.e hS7 hz7 hp1 gw7 hgr9 hat9; have he9 : w9.ownsRow (G + 1) 50 1 (.slice (some ⟨g9, 0, none⟩) (es.length + 1) c9) (es ++ [B.e]).length ((es ++ [B.e]).map iv) := (by rw [hEL.out.1, hEL.out.2]; exact hown9); have hGW9 : G < w9.heap.size := Za hY9; have q9 := Zn4 w9 B.n 3; clear hown9 hgr9 hat9 q8 he7 hn7 hS7 hz7 hp1 gw7 hGW)
     | (at_builtin; refine wpList_append_lies _ rfl (.tmp 35) (.tmp 37) 31 rfl (G + 1) 3 ii (.int .i64 0) 1 8 Tryz.underlying31 hifi hzi0 hzi1 hzi2 rfl (by decide) (.slice an ns.length cn) _ _ rfl (hn9.alloc _) ⟨w9.heap.size, 0, none⟩ 1 1 [.int .i64 B.n] rfl rfl q9 (by intro u hu; simp at hu; subst hu; rfl) (by omega) (by unfold maxLen; omega) (by omega) (by simp; omega) _ rfl ?_; intro gA cA wA hownA hgrA hatA _hltA; obtain ⟨hSA, hzA, hYA, heA, gwA, hugA, hszA⟩ := Zsz (by omega) (Nat.le_refl _) (by decide) hn9 he9 (fun b h => Nat.lt_of_lt_of_le (hA7.lt b h) (Nat.le_trans hlt7 hsz9)) hA7.n hS9 hz9 hY9 gw9 hgrA hatA; have hnA : wA.ownsRow (G + 1) 3 1 (.slice (some ⟨gA, 0, none⟩) (ns.length + 1) cA) (ns ++ [B.n]).length ((ns ++ [B.n]).map iv) := (by rw [hNL.out.1, hNL.out.2]; exact hownA); have hAA : Apt S w.heap.size G U5 (.slice (some ⟨g9, 0, none⟩) (es.length + 1) c9) (.slice (some ⟨gA, 0, none⟩) (ns.length + 1) cA) wA := (⟨fun b h => Nat.lt_of_lt_of_le (hA7.lt b h) (Nat.le_trans hlt7 (Nat.le_trans hsz9 hszA)), hA7.up, hA7.z, hA7.g, hA7.s, (fun b h => by have e : g9 = b := Option.some.inj h; rw [← e]; exact hug9), (fun b h => by have e : gA = b := Option.some.inj h; rw [← e]; exact hugA)⟩); clear hownA hgrA hatA q9 he9 hn9 hS9 hz9 hY9 gw9 hGW9))
    go_roundw
    case rel => exact ⟨k + 1, B.st, es ++ [B.e], ns ++ [B.n], U5, b5, e5, l5, m5, i5, j5, HK1.out, by omega, by go_num, HN2, HAT, hzA, hYA, hSA, hAA, heA, hnA, gwA⟩
    case measure => simp [intOf]; omega
  ·obtain rfl : R = (s, es, ns) := by
    have e : l.take 100 = l.take k := by rw [List.take_of_length_le (by omega), List.take_of_length_le (by omega)]
    rw [HR.out, e, HPL.out]
   obtain ⟨ev, hev⟩ : ∃ ev, ev = Value.slice ae es.length ce := ⟨_, rfl⟩;obtain ⟨nv, hnv⟩ : ∃ nv, nv = Value.slice an ns.length cn := ⟨_, rfl⟩;rw [← hev] at he9 hA9 ⊢;rw [← hnv] at hn9 hA9 ⊢;clear HPL HST hY HLN hev hnv;obtain ⟨z0, z1, z2, z3⟩ := Z8 hz9 rfl rfl rfl rfl;obtain ⟨o0, o1, o2, o3⟩ := Yq hz9;obtain ⟨hq1, hq2⟩ := Yh hz9 (.slice b1 s.dk.blocks.length e1) (.slice l1 s.dk.late.length m1) (.slice i1 s.idx.length j1) (.int .i64 s.next);obtain ⟨x0, x1, x2, x3⟩ := Z8 hq1 rfl rfl rfl rfl;have cs := Zv;have gE := hq2.grow gw9 (Nat.le_refl _);have hE := (hS9.but hq2 hA9.z).mono hA9.up;have rE := Yj (Zbn he9 hq2 (by omega)) (show w.heap.size ≤ G + 1 by omega);have rN := Yj (Zbn hn9 hq2 (by omega)) (show w.heap.size ≤ G + 1 by omega);have HRE : Hid _ := rE;have HRN : Hid _ := rN;clear hq1 hq2 hz9 gw9 hS9 hA9 he9 hn9 rE rN;obtain ⟨ae, ce, rfl⟩ : ∃ ae ce, ev = .slice ae es.length ce := Z6 HRE.out;obtain ⟨an, cn, rfl⟩ : ∃ an cn, nv = .slice an ns.length cn := Z6 HRN.out;go_wp2_with fail;exact bodyPost_ret (v := .tuple #[.agg #[.slice b1 s.dk.blocks.length e1, .slice l1 s.dk.late.length m1, .slice i1 s.idx.length j1, .int .i64 s.next], .slice ae es.length ce, .slice an ns.length cn]) (by simp [results, Tryz.results8, go_sem, x0, x1, x2, x3]) rfl ⟨_, _, _, rfl, hE, HRE.out, HRN.out, gE⟩
end Go.Proofs.YtgaecpdokgklpacGreat
