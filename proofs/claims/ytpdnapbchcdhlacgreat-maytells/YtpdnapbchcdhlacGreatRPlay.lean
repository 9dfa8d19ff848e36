import Derived.Test.YtpdnapbchcdhlacGreatRStepA
import Derived.Deep.AppendLies
set_option maxHeartbeats 8000000
namespace Go.Proofs.YtpdnapbchcdhlacGreat
set_option maxRecDepth 100000
open Go.RowKit
open Plain Reg
variable {U : Nat → Prop} {v : Value} {w w' : World}
def Jj (a : St × List Int × List Int) (x : Sp) : St × List Int × List Int := ((a.1.step x).st, a.2.1 ++ [(a.1.step x).e], a.2.2 ++ [(a.1.step x).n])
def V2 (l : List Sp) : St × List Int × List Int := l.foldl Jj (X3, [], [])
theorem Zlh (l : List Sp) (k : Nat) (h : k < l.length) : V2 (l.take (k + 1)) = Jj (V2 (l.take k)) l[k] := by
 unfold V2;rw [List.take_succ_eq_append_getElem h, List.foldl_append]; rfl
theorem Zn6 (l : List Sp) : ∀ a : St × List Int × List Int, (l.foldl Jj a).2.1.length = a.2.1.length + l.length ∧ (l.foldl Jj a).2.2.length = a.2.2.length + l.length := by
 induction l with
 | nil => intro a; simp
 | cons x l ih =>
  intro a;obtain ⟨h1, h2⟩ := ih (Jj a x);simp only [List.foldl_cons, List.length_cons];rw [h1, h2];simp [Jj];omega
theorem Zxe (l : List Sp) : ∀ a : St × List Int × List Int, a.1.At → (l.foldl Jj a).1.At := by
 induction l with
 | nil => intro a h; exact h
 | cons x l ih => intro a h; exact ih _ (Zfl h)
def iv (x : Int) : Value := .int .i64 x
theorem Zor : (Tryz.prog.info? 50).map (fun i => (i.zero, i.size, i.bytes)) = some (some (.int .i64 0), 1, 8) := by kernel_rfl
theorem Z8.grown {s : St} {row : Option Nat} (h : Z8 U s v w) (hg : w.grownBy w' row) (hn : ∀ b, row = some b → ¬ U b) : Z8 U s v w' := by
 cases row with
 | none => exact h.grow (Z6 (Zn.refl _) hg (fun k hk => by cases hk))
 | some q => exact h.but (Zp.grown hg) (hn q rfl)
theorem Zcn {base size n q : Nat} {e : TypeId} {xs : List Value} (h : w.ownsRow base e size v n xs) (hg : Zp q w w') (hq : q < base) : w'.ownsRow base e size v n xs :=
 ⟨h.1, Xo h.2 (fun x => x) fun ⟨g, cap, cur, h1, h2, h3, r⟩ => ⟨g, cap, cur, h1, h2, by rw [hg.block _ (Za h3) (by omega)]; exact h3, r⟩⟩
structure Apt (S : Nat → Prop) (B G : Nat) (U : Nat → Prop) (ev nv : Value) (w : World) : Prop where
 lt : ∀ b, U b → b < w.heap.size
 up : ∀ b, U b → Zt S B b
 z : ¬ U B
 g : ¬ U G
 s : ∀ b, S b → U b
 e : ∀ b, ev.ownBlock = some b → ¬ U b
 n : ∀ b, nv.ownBlock = some b → ¬ U b
theorem Zp9 (w : World) (x : Int) (T : TypeId) : ∀ (t : Nat) u, ([.int .i64 x] : List Value)[t]? = some u → (w.alloc (.cells #[.int .i64 x] T)).cell? ((⟨w.heap.size, 0, none⟩ : Addr).add t) = some u := by
 intro t u ht
 match t, ht with
 | 0, ht => simp at ht; subst ht; simp [Addr.add]
 | t + 1, ht => simp at ht
theorem Zvr {U : Nat → Prop} {B G n1 n2 g9 : Nat} {ev nv v : Value} {w0 w w9 : World} {o : Obj} {T1 T2 TZ TG : TypeId} {s : St} {es ns : List Value} {cz cg : Array Value} {fz fg : Nat × Nat} (hBG : B < G) (hB : w0.heap.size ≤ B) (hT : T2 ≠ T1)
  (he : w.ownsRow (G + 1) T1 1 ev n1 es) (hn : w.ownsRow (G + 1) T2 1 nv n2 ns) (hlt : ∀ b, U b → b < w.heap.size) (hUe : ∀ b, ev.ownBlock = some b → ¬ U b) (hS : Z8 U s v w) (hz : w.heap[B]? = some (.cells cz TZ fz)) (hy : w.heap[G]? = some (.cells cg TG fg)) (gw : Zn w0 w)
  (hgr : (w.alloc o).grownBy w9 ev.ownBlock) (hat : ev.ownBlock = some g9 ∨ g9 = (w.alloc o).heap.size) :
  Z8 U s v w9 ∧ w9.heap[B]? = some (.cells cz TZ fz) ∧ w9.heap[G]? = some (.cells cg TG fg) ∧ w9.ownsRow (G + 1) T2 1 nv n2 ns ∧ Zn w0 w9 ∧ ¬ U g9 ∧ w.heap.size ≤ w9.heap.size := by
 refine ⟨(hS.grow (Zb w o)).grown hgr hUe, ?_, ?_, Zas he hgr hT hn, ?_, ?_, ?_⟩
 ·exact (X4 he hgr (Ka he (by omega)) (Za hz)).trans hz
 ·exact (X4 he hgr (Ka he (by omega)) (Za hy)).trans hy
 ·exact Z6 (gw.trans (Zb w o)) hgr (fun k hk => by have := (he.lt k hk).1; omega)
 ·rcases hat with h | h
  ·exact hUe g9 h
  ·intro hu;have := hlt g9 hu;rw [h, World.size_alloc] at this;omega
 ·have := hgr.size;rw [World.size_alloc] at this;omega
theorem Zq2 (S : Nat → Prop) (l : List Sp) (v : Value) (w : World) (hS : ∀ b, S b → b < w.heap.size) (hl : Zak S w v l) (hm : l.length ≤ 140737488355328) (hdl : ∀ x ∈ l, x.deed.data.length ≤ 140737488355328) :
  Calls Tryz.prog 11 #[v] w fun r w' => ∃ v' ev nv, r = .returned (.tuple #[v', ev, nv]) ∧ Z8 (Zt S w.heap.size) (V2 (l.take 100)).1 v' w' ∧ w'.ownsRow w.heap.size 50 1 ev (V2 (l.take 100)).2.1.length ((V2 (l.take 100)).2.1.map iv) ∧ w'.ownsRow w.heap.size 3 1 nv (V2 (l.take 100)).2.2.length ((V2 (l.take 100)).2.2.map iv) ∧ Zn w w' := by
 obtain ⟨ao, cp, rfl⟩ := hl.form;have g0 := Zb w Xa;have hz0 := Zh w #[.slice none 0 0, .slice none 0 0, .slice none 0 0, .int .i64 0] 29;obtain ⟨R, hR⟩ : ∃ R, R = V2 (l.take 100) := ⟨_, rfl⟩;rw [← hR];have HR : Hid _ := hR;clear hR;obtain ⟨ie, hife, hze0, hze1, hze2⟩ := info_parts Zor;obtain ⟨ii, hifi, hzi0, hzi1, hzi2⟩ := info_parts Zes;go_enter Tryz.func11, Tryz.ntmps11;go_wp2_with fail;refine (Zil S (w.alloc Xa) (fun b h => by have := hS b h; simp; omega)).mono ?_;rintro r w1 ⟨v1, rfl, hS1, g1⟩;obtain ⟨b1, e1, l1, m1, i1, j1, hv1, -, -, -⟩ := hS1.form;subst hv1;rw [World.size_alloc] at hS1;obtain ⟨G, hG⟩ : ∃ G, G = w1.heap.size := ⟨_, rfl⟩;have hz1 := (g1.block _ (Za hz0)).trans hz0;have hGz : w.heap.size < G := by rw [hG]; exact Za hz1
 have g2 := Zb w1 (.cells #[.slice b1 X3.dk.blocks.length e1, .slice l1 X3.dk.late.length m1, .slice i1 X3.idx.length j1, .int .i64 X3.next] 29);have hY := Zh w1 #[.slice b1 X3.dk.blocks.length e1, .slice l1 X3.dk.late.length m1, .slice i1 X3.idx.length j1, .int .i64 X3.next] 29;have hz2 := (g2.block _ (Za hz1)).trans hz1;have gw2 := g0.trans (g1.trans g2);rw [← hG] at hY;have hA0 : Apt S w.heap.size G (fun b => Zt S (w.heap.size + 1) b ∧ b < G) (.slice none 0 0) (.slice none 0 0) (w1.alloc (.cells #[.slice b1 X3.dk.blocks.length e1, .slice l1 X3.dk.late.length m1, .slice i1 X3.idx.length j1, .int .i64 X3.next] 29)) :=
  ⟨fun b h => by have := h.2; rw [World.size_alloc]; omega, fun b h => h.1.elim .inl (fun x => .inr (by omega)), fun h => h.1.elim (fun x => Nat.lt_irrefl _ (hS _ x)) (fun x => by omega), fun h => Nat.lt_irrefl _ h.2, fun b h => ⟨.inl h, by have := hS b h; omega⟩, (fun b h => by cases h), (fun b h => by cases h)⟩
 have hS2 : Z8 (fun b => Zt S (w.heap.size + 1) b ∧ b < G) X3 (.agg #[.slice b1 X3.dk.blocks.length e1, .slice l1 X3.dk.late.length m1, .slice i1 X3.idx.length j1, .int .i64 X3.next]) (w1.alloc (.cells #[.slice b1 X3.dk.blocks.length e1, .slice l1 X3.dk.late.length m1, .slice i1 X3.idx.length j1, .int .i64 X3.next] 29)) := by rw [hG]; exact hS1.capd.grow g2
 have HG : Hid _ := hG;have HST : Hid (X3.At) := Zjw;clear g0 g1 g2 hz0 hz1 hS1 hG;go_wp2_with fail;rw [← HG.out];have HPL : Hid (V2 (l.take 0) = (X3, [], [])) := by show _ = _; rfl
 generalize X3 = s0 at *;go_loopw [6, 7, 16] (fun ev nv i wr => ∃ (k : Nat) (s : St) (es ns : List Int) (U : Nat → Prop) (b1 : Option Addr) (e1 : Nat) (l1 : Option Addr) (m1 : Nat) (i1 : Option Addr) (j1 : Nat), k ≤ 100 ∧ k ≤ l.length ∧ i = .int .i64 (k : Int) ∧ Hid (V2 (l.take k) = (s, es, ns)) ∧ Hid s.At ∧ wr.heap[w.heap.size]? = some (.cells #[.slice none 0 0, .slice none 0 0, .slice none 0 0, .int .i64 0] 29 (0, 0)) ∧ wr.heap[G]? = some (.cells #[.slice b1 s.dk.blocks.length e1, .slice l1 s.dk.late.length m1, .slice i1 s.idx.length j1, .int .i64 s.next] 29 (0, 0)) ∧ Z8 U s (.agg #[.slice b1 s.dk.blocks.length e1, .slice l1 s.dk.late.length m1, .slice i1 s.idx.length j1, .int .i64 s.next]) wr ∧ Apt S w.heap.size G U ev nv wr ∧ wr.ownsRow (G + 1) 50 1 ev es.length (es.map iv) ∧ wr.ownsRow (G + 1) 3 1 nv ns.length (ns.map iv) ∧ Zn w wr) (fun _ _ i _ => l.length - (intOf i).toNat)
 case atStart => exact ⟨0, s0, [], [], _, b1, e1, l1, m1, i1, j1, by omega, by omega, rfl, HPL, HST, hz2, hY, hS2, hA0, World.ownsRow_nil _ _ _ _, World.ownsRow_nil _ _ _ _, gw2⟩
 case round =>
  clear hz2 hY hS2 gw2 HPL HST hA0;obtain ⟨k, s, es, ns, U, b1, e1, l1, m1, i1, j1, hk1, hkl, rfl, HPL, HST, hz9, hY, hS9, hA9, he9, hn9, gw9⟩ := hrel;have hGr : G < wr.heap.size := Za hY;have HLN : Hid (es.length = k ∧ ns.length = k) := by
   have h := Zn6 (l.take k) (X3, [], []);have e : (l.take k).foldl Jj (X3, [], []) = (s, es, ns) := HPL.out;rw [e] at h;simp only [List.length_nil, List.length_take] at h;show _ ∧ _;omega
  obtain ⟨ae, ce, rfl⟩ := Ya he9;obtain ⟨an, cn, rfl⟩ := Ya hn9;obtain ⟨y0, y1, y2, y3⟩ := Z7 hY rfl rfl rfl rfl;by_cases hlt : k < l.length
  ·obtain ⟨b, off, ad, c, hao, q0, q1, q2, q3, q4, q5, q6, hbd⟩ := Zf0 (hl.grow gw9) k hlt;cases hao;have HNX : Hid (V2 (l.take (k + 1)) = Jj (V2 (l.take k)) l[k]) := Zlh l k hlt;have HDL : Hid (l[k].deed.data.length ≤ 140737488355328) := hdl _ (List.getElem_mem hlt);generalize l[k] = x at *;have g3 := Zb wr (.cells #[.int .i64 x.kind, .int .i64 x.n, .int .i64 x.m, .int .i64 x.deed.kind, .int .i64 x.deed.key, .int .i64 x.deed.num, .slice ad x.deed.data.length c] 49);have hX := Zh wr #[.int .i64 x.kind, .int .i64 x.n, .int .i64 x.m, .int .i64 x.deed.kind, .int .i64 x.deed.key, .int .i64 x.deed.num, .slice ad x.deed.data.length c] 49;have hz3 := (g3.block _ (Za hz9)).trans hz9;have hY3 := (g3.block _ (Za hY)).trans hY;have hS3 := hS9.grow g3;have hb3 := hbd.grow g3;have gw3 := gw9.trans g3;have he3 := Yd he9 g3;have hn3 := Yd hn9 g3;have hA3 : Apt S w.heap.size G U (.slice ae es.length ce) (.slice an ns.length cn) (wr.alloc (.cells #[.int .i64 x.kind, .int .i64 x.n, .int .i64 x.m, .int .i64 x.deed.kind, .int .i64 x.deed.key, .int .i64 x.deed.num, .slice ad x.deed.data.length c] 49)) := ⟨fun b h => Nat.lt_of_lt_of_le (hA9.lt b h) g3.size, hA9.up, hA9.z, hA9.g, hA9.s, hA9.e, hA9.n⟩;clear y0 y1 y2 y3 hz9 hS9 gw9 hY hbd he9 hn9 hA9;obtain ⟨y0, y1, y2, y3⟩ := Z7 hY3 rfl rfl rfl rfl;by_cases h100 : k = 100
   ·have d1 : ((k : Int) == 100) = true := by simp [h100]
    obtain rfl : R = (s, es, ns) := by rw [HR.out, ← HPL.out, h100]
    have hz9 := hz3;have hS9 := hS3;have gw9 := gw3;have he9 := he3;have hn9 := hn3;have hA9 := hA3;obtain ⟨ev, hev⟩ : ∃ ev, ev = Value.slice ae es.length ce := ⟨_, rfl⟩;obtain ⟨nv, hnv⟩ : ∃ nv, nv = Value.slice an ns.length cn := ⟨_, rfl⟩;rw [← hev] at he9 hA9 ⊢;rw [← hnv] at hn9 hA9 ⊢;clear HPL HST hX hz3 hS3 gw3 hY3 hb3 g3 h100 he3 hn3 hA3 HLN HNX hev hnv;obtain ⟨z0, z1, z2, z3⟩ := Z7 hz9 rfl rfl rfl rfl;obtain ⟨o0, o1, o2, o3⟩ := Yr hz9;obtain ⟨hq1, hq2⟩ := Yg hz9 (.slice b1 s.dk.blocks.length e1) (.slice l1 s.dk.late.length m1) (.slice i1 s.idx.length j1) (.int .i64 s.next);obtain ⟨x0, x1, x2, x3⟩ := Z7 hq1 rfl rfl rfl rfl;have cs := Zr;have gE := hq2.grow gw9 (Nat.le_refl _);have hE := (hS9.but hq2 hA9.z).mono hA9.up;have rE := Yj (Zcn he9 hq2 (by omega)) (show w.heap.size ≤ G + 1 by omega);have rN := Yj (Zcn hn9 hq2 (by omega)) (show w.heap.size ≤ G + 1 by omega);have HRE : Hid _ := rE;have HRN : Hid _ := rN;clear hq1 hq2 hz9 gw9 hS9 hA9 he9 hn9 rE rN;obtain ⟨ae, ce, rfl⟩ : ∃ ae ce, ev = .slice ae es.length ce := Ya HRE.out;obtain ⟨an, cn, rfl⟩ : ∃ an cn, nv = .slice an ns.length cn := Ya HRN.out;go_wp2_with fail;exact bodyPost_ret (v := .tuple #[.agg #[.slice b1 s.dk.blocks.length e1, .slice l1 s.dk.late.length m1, .slice i1 s.idx.length j1, .int .i64 s.next], .slice ae es.length ce, .slice an ns.length cn]) (by simp [results, Tryz.results11, go_sem, x0, x1, x2, x3]) rfl ⟨_, _, _, rfl, hE, HRE.out, HRN.out, gE⟩
   ·have d1 : ((k : Int) == 100) = false := by simp; omega
    have HK1 : Hid (k + 1 ≤ 100) := by show _ ≤ _; omega
    obtain ⟨p0, p1, p2, p3, p4⟩ := Qb hX rfl rfl rfl rfl rfl;have p5 := Zc hX 5 _ rfl;have p6 := Zc hX 6 _ rfl;clear g3 h100;go_wp2_with fail;generalize World.alloc wr _ = w4 at *;refine (Zig (fun b => U b ∧ b < w4.heap.size) s x _ ad c w4 (fun b h => h.2) hS3.capd ((hb3.mono hA3.s).caps) HST.out HDL.out).mono ?_;have HAT : Hid ((s.step x).st.At) := Zfl HST.out;have HN2 : Hid (V2 (l.take (k + 1)) = ((s.step x).st, es ++ [(s.step x).e], ns ++ [(s.step x).n])) := by show _ = _; rw [HNX.out, HPL.out]; rfl
    generalize s.step x = B at *;rintro r w5 ⟨v5, rfl, hS5, g5⟩;obtain ⟨b5, e5, l5, m5, i5, j5, hv5, -, -, -⟩ := hS5.form;subst hv5;have hG4 : G < w4.heap.size := Za hY3;obtain ⟨U5, hU5⟩ : ∃ U5 : Nat → Prop, U5 = fun b => U b ∨ (w4.heap.size ≤ b ∧ b < w5.heap.size) := ⟨_, rfl⟩
    have h45 := g5.size;have hS6 : Z8 U5 B.st (.agg #[.slice b5 B.st.dk.blocks.length e5, .slice l5 B.st.dk.late.length m5, .slice i5 B.st.idx.length j5, .int .i64 B.st.next]) w5 := hS5.capd.mono (by
     rw [hU5];rintro b ⟨h | h, hb⟩
     ·exact .inl h.1
     ·exact .inr ⟨h, hb⟩)
    have hA5 : Apt S w.heap.size G U5 (.slice ae es.length ce) (.slice an ns.length cn) w5 := by
     rw [hU5];have hwB : w.heap.size < w4.heap.size := by omega
     refine ⟨fun b h => h.elim (fun x => by have := hA3.lt b x; omega) (fun x => x.2), fun b h => h.elim (hA3.up b) (fun x => .inr (by omega)), fun h => h.elim hA3.z (fun x => by omega), fun h => h.elim hA3.g (fun x => by omega), fun b h => .inl (hA3.s b h), fun b h hu => hu.elim (hA3.e b h) (fun x => ?_), fun b h hu => hu.elim (hA3.n b h) (fun x => ?_)⟩
     ·have := (he3.lt b h).2; omega
     ·have := (hn3.lt b h).2; omega
    have hz5 := (g5.block _ (Za hz3)).trans hz3;have hY5 := (g5.block _ (Za hY3)).trans hY3;have gw5 := gw3.trans g5;have he5 := Yd he3 g5;have hn5 := Yd hn3 g5;clear y0 y1 y2 y3 p0 p1 p2 p3 p4 p5 p6 hX hz3 hY3 hS3 hb3 gw3 hS5 g5 HST HNX HPL he3 hn3 hA3 hU5 q0 q1 q2 q3 q4 q5 q6;have g6 := Zb w5 (.cells #[.slice b5 B.st.dk.blocks.length e5, .slice l5 B.st.dk.late.length m5, .slice i5 B.st.idx.length j5, .int .i64 B.st.next] 29);have hU6 := Zh w5 #[.slice b5 B.st.dk.blocks.length e5, .slice l5 B.st.dk.late.length m5, .slice i5 B.st.idx.length j5, .int .i64 B.st.next] 29;obtain ⟨u0, u1, u2, u3⟩ := Z7 hU6 rfl rfl rfl rfl;have hY6 := (g6.block _ (Za hY5)).trans hY5;have hz6 := (g6.block _ (Za hz5)).trans hz5;obtain ⟨hp1, hp2⟩ := Yg hY6 (.slice b5 B.st.dk.blocks.length e5) (.slice l5 B.st.dk.late.length m5) (.slice i5 B.st.idx.length j5) (.int .i64 B.st.next);obtain ⟨y0, y1, y2, y3⟩ := Z7 hY6 rfl rfl rfl rfl;obtain ⟨f0, f1, f2, f3⟩ := Yr hY6;have cs := Zr;have hz7 := (hp2.block _ (Za hz6) (by intro e; omega)).trans hz6;have hS7 := (hS6.grow g6).but hp2 hA5.g;have gw7 := hp2.grow (gw5.trans g6) (by omega);have he7 := Zcn (Yd he5 g6) hp2 (by omega);have hn7 := Zcn (Yd hn5 g6) hp2 (by omega);have hlt7 := Nat.le_trans g6.size hp2.size;have hA7 := hA5;clear hp2 hz5 hY5 gw5 hS6 he5 hn5 hz6 hY6 hU6 g6 hA5;go_upto_region 10 with fail
    clear y0 y1 y2 y3 f0 f1 f2 f3 cs u0 u1 u2 u3;generalize World.setCell (World.setCell (World.setCell (World.setCell (World.alloc w5 _) _ _) _ _) _ _) _ _ = W7 at *;have q8 := Zp9 W7 B.e 50;have hle : es.length ≤ 100 ∧ ns.length ≤ 100 := by have := HLN.out; omega
    have hEL : Hid ((es ++ [B.e]).length = es.length + 1 ∧ (es ++ [B.e]).map iv = es.map iv ++ [.int .i64 B.e]) := by show _ ∧ _; simp [iv]
    have hNL : Hid ((ns ++ [B.n]).length = ns.length + 1 ∧ (ns ++ [B.n]).map iv = ns.map iv ++ [.int .i64 B.n]) := by show _ ∧ _; simp [iv]
    have hGW : G < W7.heap.size := Za hp1;go_wp2_with (first
     | (at_builtin; refine wpList_append_lies _ rfl (.tmp 31) (.tmp 33) 30 rfl (G + 1) 50 ie (.int .i64 0) 1 8 Tryz.underlying30 hife hze0 hze1 hze2 rfl (by decide) (.slice ae es.length ce) _ _ rfl (he7.alloc _) ⟨W7.heap.size, 0, none⟩ 1 1 [.int .i64 B.e] rfl rfl q8 (by intro u hu; simp at hu; subst hu; rfl) (by omega) (by unfold maxLen; omega) (by omega) (by simp; omega) _ rfl ?_; intro g9 c9 w9 hown9 hgr9 hat9 _hlt9; obtain ⟨hS9, hz9, hY9, hn9, gw9, hug9, hsz9⟩ := Zvr (by omega) (Nat.le_refl _) (by decide) he7 hn7 (fun b h => Nat.lt_of_lt_of_le (hA7.lt b h) hlt7) hA7.e hS7 hz7 hp1 gw7 hgr9 hat9; have he9 : w9.ownsRow (G + 1) 50 1 (.slice (some ⟨g9, 0, none⟩) (es.length + 1) c9) (es ++ [B.e]).length ((es ++ [B.e]).map iv) := (by rw [hEL.out.1, hEL.out.2]; exact hown9); have hGW9 : G < w9.heap.size := Za hY9; have q9 := Zp9 w9 B.n 3; clear hown9 hgr9 hat9 q8 he7 hn7 hS7 hz7 hp1 gw7 hGW)
     | (at_builtin; refine wpList_append_lies _ rfl (.tmp 35) (.tmp 37) 31 rfl (G + 1) 3 ii (.int .i64 0) 1 8 Tryz.underlying31 hifi hzi0 hzi1 hzi2 rfl (by decide) (.slice an ns.length cn) _ _ rfl (hn9.alloc _) ⟨w9.heap.size, 0, none⟩ 1 1 [.int .i64 B.n] rfl rfl q9 (by intro u hu; simp at hu; subst hu; rfl) (by omega) (by unfold maxLen; omega) (by omega) (by simp; omega) _ rfl ?_; intro gA cA wA hownA hgrA hatA _hltA; obtain ⟨hSA, hzA, hYA, heA, gwA, hugA, hszA⟩ := Zvr (by omega) (Nat.le_refl _) (by decide) hn9 he9 (fun b h => Nat.lt_of_lt_of_le (hA7.lt b h) (Nat.le_trans hlt7 hsz9)) hA7.n hS9 hz9 hY9 gw9 hgrA hatA; have hnA : wA.ownsRow (G + 1) 3 1 (.slice (some ⟨gA, 0, none⟩) (ns.length + 1) cA) (ns ++ [B.n]).length ((ns ++ [B.n]).map iv) := (by rw [hNL.out.1, hNL.out.2]; exact hownA); have hAA : Apt S w.heap.size G U5 (.slice (some ⟨g9, 0, none⟩) (es.length + 1) c9) (.slice (some ⟨gA, 0, none⟩) (ns.length + 1) cA) wA := (⟨fun b h => Nat.lt_of_lt_of_le (hA7.lt b h) (Nat.le_trans hlt7 (Nat.le_trans hsz9 hszA)), hA7.up, hA7.z, hA7.g, hA7.s, (fun b h => by have e : g9 = b := Option.some.inj h; rw [← e]; exact hug9), (fun b h => by have e : gA = b := Option.some.inj h; rw [← e]; exact hugA)⟩); clear hownA hgrA hatA q9 he9 hn9 hS9 hz9 hY9 gw9 hGW9))
    go_roundw
    case rel => exact ⟨k + 1, B.st, es ++ [B.e], ns ++ [B.n], U5, b5, e5, l5, m5, i5, j5, HK1.out, by omega, by go_num, HN2, HAT, hzA, hYA, hSA, hAA, heA, hnA, gwA⟩
    case measure => simp [intOf]; omega
  ·obtain rfl : R = (s, es, ns) := by
    have e : l.take 100 = l.take k := by rw [List.take_of_length_le (by omega), List.take_of_length_le (by omega)]
    rw [HR.out, e, HPL.out]
   obtain ⟨ev, hev⟩ : ∃ ev, ev = Value.slice ae es.length ce := ⟨_, rfl⟩;obtain ⟨nv, hnv⟩ : ∃ nv, nv = Value.slice an ns.length cn := ⟨_, rfl⟩;rw [← hev] at he9 hA9 ⊢;rw [← hnv] at hn9 hA9 ⊢;clear HPL HST hY HLN hev hnv;obtain ⟨z0, z1, z2, z3⟩ := Z7 hz9 rfl rfl rfl rfl;obtain ⟨o0, o1, o2, o3⟩ := Yr hz9;obtain ⟨hq1, hq2⟩ := Yg hz9 (.slice b1 s.dk.blocks.length e1) (.slice l1 s.dk.late.length m1) (.slice i1 s.idx.length j1) (.int .i64 s.next);obtain ⟨x0, x1, x2, x3⟩ := Z7 hq1 rfl rfl rfl rfl;have cs := Zr;have gE := hq2.grow gw9 (Nat.le_refl _);have hE := (hS9.but hq2 hA9.z).mono hA9.up;have rE := Yj (Zcn he9 hq2 (by omega)) (show w.heap.size ≤ G + 1 by omega);have rN := Yj (Zcn hn9 hq2 (by omega)) (show w.heap.size ≤ G + 1 by omega);have HRE : Hid _ := rE;have HRN : Hid _ := rN;clear hq1 hq2 hz9 gw9 hS9 hA9 he9 hn9 rE rN;obtain ⟨ae, ce, rfl⟩ : ∃ ae ce, ev = .slice ae es.length ce := Ya HRE.out;obtain ⟨an, cn, rfl⟩ : ∃ an cn, nv = .slice an ns.length cn := Ya HRN.out;go_wp2_with fail;exact bodyPost_ret (v := .tuple #[.agg #[.slice b1 s.dk.blocks.length e1, .slice l1 s.dk.late.length m1, .slice i1 s.idx.length j1, .int .i64 s.next], .slice ae es.length ce, .slice an ns.length cn]) (by simp [results, Tryz.results11, go_sem, x0, x1, x2, x3]) rfl ⟨_, _, _, rfl, hE, HRE.out, HRN.out, gE⟩
variable {S : Nat → Prop} {v : Value} {w : World}
def Zs0 : Prop := ∀ (S : Nat → Prop) (s : St) (v : Value) (w : World), (∀ b, S b → b < w.heap.size) → Z8 S s v w → s.At →
 Calls Tryz.prog 97 #[v] w fun r w' => ∃ v', r = .returned v' ∧ Y2 (Zt S w.heap.size) w' v' s.recs ∧ Zn w w'
theorem Zzr {s : St} (h : s.At) : s.idx.length ≤ 6 := by
 obtain ⟨h1, h2⟩ := (Xv _).1 h.ok.right;have hn : (s.idx.map fun x => x.pair.toNat).Nodup := by
  rw [List.nodup_iff_pairwise_ne, List.pairwise_map];refine List.Pairwise.imp_of_mem ?_ h1;intro a b ha hb hu e;have ha0 := (h2 a ha).2.2.1;have hb0 := (h2 b hb).2.2.1;exact hu.2 (by omega)
 have := Zfk _ (List.range 6) hn (fun x hx => by
  obtain ⟨e, he, rfl⟩ := List.mem_map.1 hx;have := h.ok.six e he;rw [List.mem_range];have := (h2 e he).2.2.1;omega)
 simpa using this
theorem Zx8 {s : St} (h : s.At) : s.recs.length ≤ 6 := by unfold St.recs; rw [List.length_map]; exact Zzr h
theorem Zx0 (l : List Rec) (d : Dd) : (doR l d).l.length ≤ l.length + 1 := by
 unfold doR;split
 ·split
  ·rename_i i hf;simp only [List.length_append, List.length_take, List.length_drop];omega
  ·exact Nat.le_succ _
 ·split
  ·exact Nat.le_succ _
  ·split
   ·exact Nat.le_succ _
   ·simp
theorem Z8.any {s : St} (h : Z8 S s v w) : Z8 (fun _ => True) s v w := h.mono fun _ _ => trivial
theorem Z8.now {s : St} (h : Z8 (fun _ => True) s v w) : Z8 (fun b => b < w.heap.size) s v w := h.capd.mono fun _ h => h.2
theorem Zk9 {l : List Rec} (h : Y2 S w v l) : Y2 (fun _ => True) w v l := Zs.mono h fun _ _ => trivial
theorem Za1 {l : List UInt8} (h : Z2 S w v l) : Z2 (fun b => b < w.heap.size) w v l := h.caps.mono fun _ h => h.2
theorem Zlm {base n : Nat} {e : TypeId} {xs : List Value} (h : w.ownsRow base e 1 v n xs) (hn : 0 < n) : ∃ g c, v = .slice (some ⟨g, 0, none⟩) n c ∧ base ≤ g ∧ g < w.heap.size := by
 rcases h.2 with ⟨_, h0⟩ | ⟨g, c, cur, h1, h2, h3, _⟩
 ·omega
 ·exact ⟨g, c, h1, h2, Za h3⟩
abbrev Sp.goes (l : List Rec) (x : Sp) : Prop := (x.kind = 1 ∨ x.kind = 2) ∧ Yl x.deed = 0 ∧ (doR l x.deed).e = 0
def Qj (l : List Rec) (x : Sp) : List (List Rec) :=
 if x.goes l then (if x.kind = 1 then [(doR l x.deed).l] else [l, (doR l x.deed).l]) else [l]
theorem Zbg {l : List Rec} {x : Sp} (h : x.goes l) (hk : x.kind = 1) : Qj l x = [(doR l x.deed).l] := by unfold Qj; rw [if_pos h, if_pos hk]
theorem Zbf {l : List Rec} {x : Sp} (h : x.goes l) (hk : x.kind ≠ 1) : Qj l x = [l, (doR l x.deed).l] := by unfold Qj; rw [if_pos h, if_neg hk]
theorem Km {l : List Rec} {x : Sp} (h : ¬ x.goes l) : Qj l x = [l] := by unfold Qj; rw [if_neg h]
theorem Zoz {l : List Rec} {d : Dd} (h : (doR l d).e = 0) : (doR l d).l.length ≠ l.length := by
 unfold doR at h ⊢;by_cases hk : d.kind = 3
 ·rw [if_pos hk] at h ⊢;cases hf : l.findIdx? (Q5 d) with
  | none => rw [hf] at h; exact absurd (show (6 : Int) = 0 from h) (by decide)
  | some i =>
   obtain ⟨hi, -⟩ := List.findIdx?_eq_some_iff_getElem.1 hf;show (l.take i ++ l.drop (i + 1)).length ≠ l.length;simp only [List.length_append, List.length_take, List.length_drop];omega
 ·rw [if_neg hk] at h ⊢;by_cases h5 : 5 < l.length
  ·rw [if_pos h5] at h; exact absurd (show (9 : Int) = 0 from h) (by decide)
  ·rw [if_neg h5] at h ⊢;by_cases hn : 60000 < Xt l
   ·rw [if_pos hn] at h; exact absurd (show (4 : Int) = 0 from h) (by decide)
   ·rw [if_neg hn];simp
theorem Zni {a b : List Rec} (h : a.length ≠ b.length) : Qp a b = false := by
 unfold Qp;rw [Bool.and_eq_false_iff];exact .inr (by simp [h])
theorem Zeq (l : List Rec) (x : Sp) : Qj l x = [l] ∨ x.kind = 1 ∧ Qj l x = [(doR l x.deed).l] ∨ x.kind = 2 ∧ Qj l x = [l, (doR l x.deed).l] ∧ Qp (doR l x.deed).l l = false := by
 by_cases h : x.goes l
 ·by_cases hk : x.kind = 1
  ·exact .inr (.inl ⟨hk, Zbg h hk⟩)
  ·exact .inr (.inr ⟨h.1.resolve_left hk, Zbf h hk, Zni (Zoz h.2.2)⟩)
 ·exact .inl (Km h)
theorem Zix (l : List Rec) (x : Sp) : ∀ y ∈ Qj l x, y.length ≤ l.length + 1 := by
 intro y hy;have hd := Zx0 l x.deed;rcases Zeq l x with h | ⟨-, h⟩ | ⟨-, h, -⟩
 ·rw [h] at hy; simp at hy; subst hy; omega
 ·rw [h] at hy; simp at hy; subst hy; exact hd
 ·rw [h] at hy; simp at hy; rcases hy with rfl | rfl
  ·omega
  ·exact hd
def Qv : St → List Sp → Nat
 | _, [] => 0
 | s, x :: l => if Xd s x = true then Qv (s.step x).st l + 1 else 0
def Zq3 : Ql (List Rec) where
 T := 58
 size := 1
 enc S w x cs := ∃ u, cs = [u] ∧ Y2 S w u x
 len := by rintro S w x cs ⟨u, rfl, _⟩; rfl
 keep := by rintro S w w' x cs ⟨u, rfl, h⟩ hk; exact ⟨u, rfl, Zs.keep h hk⟩
 mono := by rintro S S' w x cs ⟨u, rfl, h⟩ hS; exact ⟨u, rfl, Zs.mono h hS⟩
 cap := by rintro S w x cs ⟨u, rfl, h⟩; exact ⟨u, rfl, Zs.caps h (by decide)⟩
 one := by
  rintro S w x cs ⟨u, rfl, h⟩ c hc;simp only [List.mem_cons, List.not_mem_nil, or_false] at hc;subst hc;obtain ⟨ao, cap, rfl⟩ := Zs.form h;rfl
abbrev Kb (S : Nat → Prop) (w : World) (v : Value) (l : List (List Rec)) : Prop := Zs Zq3 S w v l
theorem Zgv {S : Nat → Prop} {w : World} {ao : Option Addr} {n cap : Nat} {l : List (List Rec)} (h : Kb S w (.slice ao n cap) l) (i : Nat) (hi : i < l.length) :
  ∃ b off a c, ao = some ⟨b, off, none⟩ ∧ w.cell? ⟨b, off + i, none⟩ = some (.slice a l[i].length c) ∧ Y2 S w (.slice a l[i].length c) l[i] := by
 obtain ⟨b, off, rfl, _, cs, ⟨u, rfl, hu⟩, hc⟩ := h.at i hi;obtain ⟨a, c, rfl⟩ := Zs.form hu;have h0 : w.cell? ⟨b, off + i * 1 + 0, none⟩ = some (.slice a l[i].length c) := hc 0 _ rfl;exact ⟨b, off, a, c, rfl, by simpa using h0, hu⟩
def Zmx : Prop := ∀ (S : Nat → Prop) (l : List Rec) (x : Sp) (v : Value) (ad : Option Addr) (c : Nat) (w : World), (∀ b, S b → b < w.heap.size) → Q3 l = true → Y2 S w v l → Z2 S w (.slice ad x.deed.data.length c) x.deed.data → x.deed.data.length ≤ 140737488355328 →
 Calls Tryz.prog 33 #[v, .agg #[.int .i64 x.kind, .int .i64 x.n, .int .i64 x.m, .int .i64 x.deed.kind, .int .i64 x.deed.key, .int .i64 x.deed.num, .slice ad x.deed.data.length c]] w fun r w' => ∃ v', r = .returned v' ∧ Kb (Zt S w.heap.size) w' v' (Qj l x) ∧ Zn w w'
def Zjd : Prop := ∀ (S : Nat → Prop) (s : St) (x : Sp) (v : Value) (ad : Option Addr) (c : Nat) (w : World), (∀ b, S b → b < w.heap.size) → Z8 S s v w → Z2 S w (.slice ad x.deed.data.length c) x.deed.data → s.At → x.deed.data.length ≤ 140737488355328 →
 Calls Tryz.prog 29 #[v, .agg #[.int .i64 x.kind, .int .i64 x.n, .int .i64 x.m, .int .i64 x.deed.kind, .int .i64 x.deed.key, .int .i64 x.deed.num, .slice ad x.deed.data.length c]] w fun r w' => r = .returned (.bool (Xd s x)) ∧ Zn w w'
def Zqi : Prop := ∀ (S : Nat → Prop) (l : List Sp) (v : Value) (w : World), (∀ b, S b → b < w.heap.size) → Zak S w v l → l.length ≤ 100 → (∀ x ∈ l, x.deed.data.length ≤ 140737488355328) →
 Calls Tryz.prog 31 #[v] w fun r w' => r = .returned (.tuple #[.int .i64 (Qv X3 l : Int), .bool true]) ∧ Zn w w'
def Zv7 : Prop := ∀ (S : Nat → Prop) (l : List Sp) (v : Value) (w : World), (∀ b, S b → b < w.heap.size) → Zak S w v l → l.length ≤ 140737488355328 → (∀ x ∈ l, x.deed.data.length ≤ 140737488355328) →
 Calls Tryz.prog 31 #[v] w fun r w' => ∃ (n : Int) (b : Bool), r = .returned (.tuple #[.int .i64 n, .bool b]) ∧ Zn w w'
variable {B cap : Nat} {S : Nat → Prop} {w : World}
theorem Zr7 : (Tryz.prog.info? 58).map (fun i => (i.zero, i.size, i.bytes)) = some (some (.slice none 0 0), 1, 24) := by kernel_rfl
theorem Zs.grown {α : Type} {sh : Ql α} {U : Nat → Prop} {w' : World} {v : Value} {xs : List α} {row : Option Nat} (h : Zs sh U w v xs) (hg : w.grownBy w' row) (hn : ∀ b, row = some b → ¬ U b) : Zs sh U w' v xs := by
 cases row with
 | none => exact h.grow (Z6 (Zn.refl _) hg (fun k hk => by cases hk))
 | some q => exact h.but (Zp.grown hg) (hn q rfl)
theorem Kk {off : Nat} {u : Value} {l : List Rec} (hB : S B) (hc : 1 ≤ cap) (h : w.cell? ⟨B, off, none⟩ = some u) (hl : Y2 S w u l) : Kb S w (.slice (some ⟨B, off, none⟩) 1 cap) [l] := by
 refine .inr ⟨B, off, cap, hB, rfl, hc, fun i hi => ?_⟩;have h0 : i < 1 := hi
 match i, h0 with
 | 0, _ =>
  refine ⟨[u], ⟨u, rfl, hl⟩, fun j x hj => ?_⟩
  match j, hj with
  | 0, hj => exact h.trans hj
  | j + 1, hj => simp at hj
theorem Zh9 {u0 u1 : Value} {l0 l1 : List Rec} (hB : S B) (hc : 2 ≤ cap) (h0 : w.cell? ⟨B, 0, none⟩ = some u0) (h1 : w.cell? ⟨B, 1, none⟩ = some u1) (hl0 : Y2 S w u0 l0) (hl1 : Y2 S w u1 l1) : Kb S w (.slice (some ⟨B, 0, none⟩) 2 cap) [l0, l1] := by
 refine .inr ⟨B, 0, cap, hB, rfl, hc, fun i hi => ?_⟩;have h2 : i < 2 := hi
 match i, h2 with
 | 0, _ =>
  refine ⟨[u0], ⟨u0, rfl, hl0⟩, fun j x hj => ?_⟩
  match j, hj with
  | 0, hj => exact h0.trans hj
  | j + 1, hj => simp at hj
 | 1, _ =>
  refine ⟨[u1], ⟨u1, rfl, hl1⟩, fun j x hj => ?_⟩
  match j, hj with
  | 0, hj => exact h1.trans hj
  | j + 1, hj => simp at hj
theorem Zll {base n g : Nat} {e : TypeId} {xs : List Value} (h : w.ownsRow base e 1 (.slice (some ⟨g, 0, none⟩) n cap) n xs) : n ≤ cap := by
 rcases h.2 with ⟨h', _⟩ | ⟨g', cap', cur, h', _, _, hc, _⟩
 ·simp at h'
 ·simp only [Value.slice.injEq, Option.some.injEq, Addr.mk.injEq, and_true, true_and] at h';omega
theorem Znx (S : Nat → Prop) (l : List Rec) (x : Sp) (v : Value) (ad : Option Addr) (c : Nat) (w : World) (hS : ∀ b, S b → b < w.heap.size) (hl : Y2 S w v l) (hd : Z2 S w (.slice ad x.deed.data.length c) x.deed.data) (hm : l.length ≤ 1000) (hv : ∀ r ∈ l, r.ver ≤ 60000) (hdd : x.deed.data.length ≤ 140737488355328) :
  Calls Tryz.prog 34 #[v, .agg #[.int .i64 x.kind, .int .i64 x.n, .int .i64 x.m, .int .i64 x.deed.kind, .int .i64 x.deed.key, .int .i64 x.deed.num, .slice ad x.deed.data.length c]] w fun r w' => ∃ v', r = .returned v' ∧ Kb (Zt S w.heap.size) w' v' (Qj l x) ∧ Zn w w' := by
 obtain ⟨ao, cp, rfl⟩ := Zs.form hl;obtain ⟨i0, hif, hz0, hz1, hz2⟩ := info_parts Zr7;have gw := Zq w (.cells #[.int .i64 x.kind, .int .i64 x.n, .int .i64 x.m, .int .i64 x.deed.kind, .int .i64 x.deed.key, .int .i64 x.deed.num, .slice ad x.deed.data.length c] 49) (.cells #[.slice ao l.length cp] 58);have hX := ((Zb (w.alloc (.cells #[.int .i64 x.kind, .int .i64 x.n, .int .i64 x.m, .int .i64 x.deed.kind, .int .i64 x.deed.key, .int .i64 x.deed.num, .slice ad x.deed.data.length c] 49)) (.cells #[.slice ao l.length cp] 58)).block _ (Za (Zh w #[.int .i64 x.kind, .int .i64 x.n, .int .i64 x.m, .int .i64 x.deed.kind, .int .i64 x.deed.key, .int .i64 x.deed.num, .slice ad x.deed.data.length c] 49))).trans (Zh w #[.int .i64 x.kind, .int .i64 x.n, .int .i64 x.m, .int .i64 x.deed.kind, .int .i64 x.deed.key, .int .i64 x.deed.num, .slice ad x.deed.data.length c] 49);have hB0 := Zh (w.alloc (.cells #[.int .i64 x.kind, .int .i64 x.n, .int .i64 x.m, .int .i64 x.deed.kind, .int .i64 x.deed.key, .int .i64 x.deed.num, .slice ad x.deed.data.length c] 49)) #[.slice ao l.length cp] 58;rw [World.size_alloc] at hB0;have hlw := Zs.grow hl gw;obtain ⟨R, hR⟩ : ∃ R, R = Qj l x := ⟨_, rfl⟩;rw [← hR];have HR : Hid _ := hR;clear hR;go_enter Tryz.func34, Tryz.ntmps34;go_upto_region 2 with fail
 obtain ⟨B, hB⟩ : ∃ B, B = w.heap.size + 1 := ⟨_, rfl⟩;rw [← hB] at hB0 ⊢;generalize World.alloc (World.alloc w _) _ = W at *;have HB : Hid _ := hB;clear hB;have p0 := Zc hX 0 _ rfl;by_cases k1 : x.kind = 1
 ·have d1 : (x.kind == 1) = true := by simp [k1]
  have HK : Hid (x.kind = 1 ∨ x.kind = 2) := .inl k1;have HK1 : Hid (x.kind = 1) := k1;clear k1;have p3 := Zc hX 3 _ rfl;have p4 := Zc hX 4 _ rfl;have p5 := Zc hX 5 _ rfl;have p6 := Zc hX 6 _ rfl;go_wp2_with fail;refine (Zb0 x.deed ad c _ hdd).mono ?_;obtain ⟨E, hE⟩ : ∃ E, E = Yl x.deed := ⟨_, rfl⟩;rw [← hE];rintro r w1 ⟨rfl, g1⟩;replace hX := (g1.block _ (Za hX)).trans hX;replace hB0 := (g1.block _ (Za hB0)).trans hB0;replace hlw := Zs.grow hlw g1;replace gw := gw.trans g1;clear g1 p3 p4 p5 p6;by_cases he : E = 0
  ·have d5 : (E == 0) = true := by simp [he]
   have HW : Hid (Yl x.deed = 0) := by rw [← hE]; exact he
   clear he hE;have p3 := Zc hX 3 _ rfl;have p4 := Zc hX 4 _ rfl;have p5 := Zc hX 5 _ rfl;have p6 := Zc hX 6 _ rfl;go_wp2_with fail;have hw1 : w.heap.size ≤ w1.heap.size := gw.size;refine (Zjq S l x.deed _ ad c w1 (fun b h => by have := hS b h; omega) hlw (hd.grow gw) (by omega) hv (Vy HW.out).1 (Vy HW.out).2.1).mono ?_;obtain ⟨D, hD⟩ : ∃ D, D = doR l x.deed := ⟨_, rfl⟩;rw [← hD];have HDD : Hid _ := hD;clear hD;rintro r w2 ⟨v2, rfl, h2, g2⟩;obtain ⟨a2, c2, rfl⟩ := Zs.form h2;replace hX := (g2.block _ (Za hX)).trans hX;have hB1 : B < w1.heap.size := Za hB0;replace hB0 := (g2.block _ (Za hB0)).trans hB0;replace hlw := Zs.grow hlw g2;replace gw := gw.trans g2;clear g2 p3 p4 p5 p6 d5;by_cases hde : D.e = 0
   ·have HGO : Hid (x.goes l) := ⟨HK.out, HW.out, by rw [← HDD.out]; exact hde⟩;rw [hde];clear hde HK HW;have hBw : w.heap.size < B := by have := HB.out; omega
    have hnB : ¬ Zt S w1.heap.size B := fun h => h.elim (fun h => by have := hS B h; omega) (fun h => by omega)
    have hnS : ¬ S B := fun h => by have := hS B h; omega
    have g3 := Zb w2 (.cells #[.slice a2 D.l.length c2] 58);have hM := Zh w2 #[.slice a2 D.l.length c2] 58;have hnew : ∀ (j : Nat) u, ([.slice a2 D.l.length c2] : List Value)[j]? = some u → (w2.alloc (.cells #[.slice a2 D.l.length c2] 58)).cell? ((⟨w2.heap.size, 0, none⟩ : Addr).add j) = some u := by
     intro j u hj
     match j, hj with
     | 0, hj => exact Zc hM 0 u hj
     | j + 1, hj => simp at hj
    have hown : (w2.alloc (.cells #[.slice a2 D.l.length c2] 58)).ownsRow B 58 1 (.slice (some ⟨B, 0, none⟩) 1 1) 1 [.slice ao l.length cp] := ⟨rfl, .inr ⟨B, 1, #[.slice ao l.length cp], rfl, Nat.le_refl _, (g3.block _ (Za hB0)).trans hB0, Nat.le_refl _, by unfold maxLen; omega, rfl, rfl⟩⟩;replace hX := (g3.block _ (Za hX)).trans hX;have hB3 : B < w2.heap.size := Za hB0;have h23 := Zs.grow h2 g3;replace hlw := Zs.grow hlw g3;have gw3 := gw.trans g3;clear hB0 h2 gw g3 hM;have hXB : w.heap.size ≠ B := by omega
    go_wp2_with (at_builtin; (refine wpList_append_own _ rfl (.tmp 33) (.tmp 35) 70 rfl B 58 i0 (.slice none 0 0) 1 24 Tryz.underlying70 hif hz0 hz1 hz2 rfl (by decide) (.slice (some ⟨B, 0, none⟩) 1 1) _ _ rfl hown ⟨w2.heap.size, 0, none⟩ 1 1 [.slice a2 D.l.length c2] rfl rfl hnew (by intro u hu; simp at hu; subst hu; rfl) (by unfold maxLen; omega) (by omega) (by simp; omega) ?_; intro v4 w4 hown4 hgrow4 _; obtain ⟨g9, c9, hv4, hg9, hg9'⟩ := Zlm hown4 (by omega); subst hv4; have hlw4 := Zs.grown hlw hgrow4 (fun b hb => by have e : B = b := Option.some.inj hb; rw [← e]; exact hnS); have h24 := Zs.grown h23 hgrow4 (fun b hb => by have e : B = b := Option.some.inj hb; rw [← e]; exact hnB); have gw4 := Z6 gw3 hgrow4 (fun k hk => by have e : B = k := Option.some.inj hk; omega); have hX4 := (hgrow4.block _ (Za hX) (by intro e; exact hXB (Option.some.inj e))).trans hX; have y0 := hown4.cellAt 0 (by omega); have y1 := hown4.cellAt 1 (by omega); have hc9 := Zll hown4; have p0 := Zc hX4 0 _ rfl; clear hown4 hgrow4 hnew hown hlw h23 gw3 hX));replace y0 : w4.cell? ⟨g9, 0, none⟩ = some (.slice ao l.length cp) := y0;replace y1 : w4.cell? ⟨g9, 1, none⟩ = some (.slice a2 D.l.length c2) := y1;have hE : Kb (Zt S w.heap.size) w4 (.slice (some ⟨g9, 1, none⟩) 1 (c9 - 1)) R := by
     rw [HR.out, Zbg HGO.out HK1.out, ← HDD.out];exact Kk (.inr (by have := HB.out; omega)) (by omega) y1 (h24.mono (fun b h => h.imp id (fun h => by omega)))
    clear hX4 hlw4 h24 y0 y1 p0;go_ret;exact ⟨_, rfl, hE, gw4⟩
   ·have d6 : (D.e == 0) = false := by simp [hde]
    have HNO : Hid (¬ x.goes l) := fun h => hde (by rw [HDD.out]; exact h.2.2)
    clear hde;have gE := gw;have hE := Kk (S := Zt S w.heap.size) (.inr (by have := HB.out; omega)) (Nat.le_refl _) (Zc hB0 0 _ rfl) (Zs.mono hlw (fun b h => .inl h));rw [← Km HNO.out, ← HR.out] at hE;clear hX hB0 hlw gw;generalize D.e = de at *;go_wp2_with fail;go_ret;exact ⟨_, rfl, hE, gE⟩
  ·have d5 : (E == 0) = false := by simp [he]
   have HNO : Hid (¬ x.goes l) := fun h => he (hE.trans h.2.1)
   clear he hE;have gE := gw;have hE := Kk (S := Zt S w.heap.size) (.inr (by have := HB.out; omega)) (Nat.le_refl _) (Zc hB0 0 _ rfl) (Zs.mono hlw (fun b h => .inl h));rw [← Km HNO.out, ← HR.out] at hE;clear hX hB0 hlw gw;go_wp2_with fail;go_ret;exact ⟨_, rfl, hE, gE⟩
 ·have d1 : (x.kind == 1) = false := by simp [k1]
  by_cases k2 : x.kind = 2
  ·have d2 : (x.kind == 2) = true := by simp [k2]
   have HK : Hid (x.kind = 1 ∨ x.kind = 2) := .inr k2;have HK1 : Hid (x.kind ≠ 1) := k1;clear k1 k2;have p3 := Zc hX 3 _ rfl;have p4 := Zc hX 4 _ rfl;have p5 := Zc hX 5 _ rfl;have p6 := Zc hX 6 _ rfl;go_wp2_with fail;refine (Zb0 x.deed ad c _ hdd).mono ?_;obtain ⟨E, hE⟩ : ∃ E, E = Yl x.deed := ⟨_, rfl⟩;rw [← hE];rintro r w1 ⟨rfl, g1⟩;replace hX := (g1.block _ (Za hX)).trans hX;replace hB0 := (g1.block _ (Za hB0)).trans hB0;replace hlw := Zs.grow hlw g1;replace gw := gw.trans g1;clear g1 p3 p4 p5 p6;by_cases he : E = 0
   ·have d5 : (E == 0) = true := by simp [he]
    have HW : Hid (Yl x.deed = 0) := by rw [← hE]; exact he
    clear he hE;have p3 := Zc hX 3 _ rfl;have p4 := Zc hX 4 _ rfl;have p5 := Zc hX 5 _ rfl;have p6 := Zc hX 6 _ rfl;go_wp2_with fail;have hw1 : w.heap.size ≤ w1.heap.size := gw.size;refine (Zjq S l x.deed _ ad c w1 (fun b h => by have := hS b h; omega) hlw (hd.grow gw) (by omega) hv (Vy HW.out).1 (Vy HW.out).2.1).mono ?_;obtain ⟨D, hD⟩ : ∃ D, D = doR l x.deed := ⟨_, rfl⟩;rw [← hD];have HDD : Hid _ := hD;clear hD;rintro r w2 ⟨v2, rfl, h2, g2⟩;obtain ⟨a2, c2, rfl⟩ := Zs.form h2;replace hX := (g2.block _ (Za hX)).trans hX;have hB1 : B < w1.heap.size := Za hB0;replace hB0 := (g2.block _ (Za hB0)).trans hB0;replace hlw := Zs.grow hlw g2;replace gw := gw.trans g2;clear g2 p3 p4 p5 p6 d5;by_cases hde : D.e = 0
    ·have HGO : Hid (x.goes l) := ⟨HK.out, HW.out, by rw [← HDD.out]; exact hde⟩;rw [hde];clear hde HK HW;have hBw : w.heap.size < B := by have := HB.out; omega
     have hnB : ¬ Zt S w1.heap.size B := fun h => h.elim (fun h => by have := hS B h; omega) (fun h => by omega)
     have hnS : ¬ S B := fun h => by have := hS B h; omega
     have g3 := Zb w2 (.cells #[.slice a2 D.l.length c2] 58);have hM := Zh w2 #[.slice a2 D.l.length c2] 58;have hnew : ∀ (j : Nat) u, ([.slice a2 D.l.length c2] : List Value)[j]? = some u → (w2.alloc (.cells #[.slice a2 D.l.length c2] 58)).cell? ((⟨w2.heap.size, 0, none⟩ : Addr).add j) = some u := by
      intro j u hj
      match j, hj with
      | 0, hj => exact Zc hM 0 u hj
      | j + 1, hj => simp at hj
     have hown : (w2.alloc (.cells #[.slice a2 D.l.length c2] 58)).ownsRow B 58 1 (.slice (some ⟨B, 0, none⟩) 1 1) 1 [.slice ao l.length cp] := ⟨rfl, .inr ⟨B, 1, #[.slice ao l.length cp], rfl, Nat.le_refl _, (g3.block _ (Za hB0)).trans hB0, Nat.le_refl _, by unfold maxLen; omega, rfl, rfl⟩⟩;replace hX := (g3.block _ (Za hX)).trans hX;have hB3 : B < w2.heap.size := Za hB0;have h23 := Zs.grow h2 g3;replace hlw := Zs.grow hlw g3;have gw3 := gw.trans g3;clear hB0 h2 gw g3 hM;have hXB : w.heap.size ≠ B := by omega
     go_wp2_with (at_builtin; (refine wpList_append_own _ rfl (.tmp 33) (.tmp 35) 70 rfl B 58 i0 (.slice none 0 0) 1 24 Tryz.underlying70 hif hz0 hz1 hz2 rfl (by decide) (.slice (some ⟨B, 0, none⟩) 1 1) _ _ rfl hown ⟨w2.heap.size, 0, none⟩ 1 1 [.slice a2 D.l.length c2] rfl rfl hnew (by intro u hu; simp at hu; subst hu; rfl) (by unfold maxLen; omega) (by omega) (by simp; omega) ?_; intro v4 w4 hown4 hgrow4 _; obtain ⟨g9, c9, hv4, hg9, hg9'⟩ := Zlm hown4 (by omega); subst hv4; have hlw4 := Zs.grown hlw hgrow4 (fun b hb => by have e : B = b := Option.some.inj hb; rw [← e]; exact hnS); have h24 := Zs.grown h23 hgrow4 (fun b hb => by have e : B = b := Option.some.inj hb; rw [← e]; exact hnB); have gw4 := Z6 gw3 hgrow4 (fun k hk => by have e : B = k := Option.some.inj hk; omega); have hX4 := (hgrow4.block _ (Za hX) (by intro e; exact hXB (Option.some.inj e))).trans hX; have y0 := hown4.cellAt 0 (by omega); have y1 := hown4.cellAt 1 (by omega); have hc9 := Zll hown4; have p0 := Zc hX4 0 _ rfl; clear hown4 hgrow4 hnew hown hlw h23 gw3 hX));replace y0 : w4.cell? ⟨g9, 0, none⟩ = some (.slice ao l.length cp) := y0;replace y1 : w4.cell? ⟨g9, 1, none⟩ = some (.slice a2 D.l.length c2) := y1;have hE : Kb (Zt S w.heap.size) w4 (.slice (some ⟨g9, 0, none⟩) 2 c9) R := by
      rw [HR.out, Zbf HGO.out HK1.out, ← HDD.out];exact Zh9 (.inr (by have := HB.out; omega)) hc9 y0 y1 (hlw4.mono (fun b h => .inl h)) (h24.mono (fun b h => h.imp id (fun h => by omega)))
     clear hX4 hlw4 h24 y0 y1;go_ret;exact ⟨_, rfl, hE, gw4⟩
    ·have d6 : (D.e == 0) = false := by simp [hde]
     have HNO : Hid (¬ x.goes l) := fun h => hde (by rw [HDD.out]; exact h.2.2)
     clear hde;have gE := gw;have hE := Kk (S := Zt S w.heap.size) (.inr (by have := HB.out; omega)) (Nat.le_refl _) (Zc hB0 0 _ rfl) (Zs.mono hlw (fun b h => .inl h));rw [← Km HNO.out, ← HR.out] at hE;clear hX hB0 hlw gw;generalize D.e = de at *;go_wp2_with fail;go_ret;exact ⟨_, rfl, hE, gE⟩
   ·have d5 : (E == 0) = false := by simp [he]
    have HNO : Hid (¬ x.goes l) := fun h => he (hE.trans h.2.1)
    clear he hE;have gE := gw;have hE := Kk (S := Zt S w.heap.size) (.inr (by have := HB.out; omega)) (Nat.le_refl _) (Zc hB0 0 _ rfl) (Zs.mono hlw (fun b h => .inl h));rw [← Km HNO.out, ← HR.out] at hE;clear hX hB0 hlw gw;go_wp2_with fail;go_ret;exact ⟨_, rfl, hE, gE⟩
  ·have d2 : (x.kind == 2) = false := by simp [k2]
   have HNO : Hid (¬ x.goes l) := fun h => h.1.elim k1 k2
   clear k1 k2;have gE := gw;have hE := Kk (S := Zt S w.heap.size) (.inr (by have := HB.out; omega)) (Nat.le_refl _) (Zc hB0 0 _ rfl) (Zs.mono hlw (fun b h => .inl h));rw [← Km HNO.out, ← HR.out] at hE;clear hX hB0 hlw gw;go_wp2_with fail;go_ret;exact ⟨_, rfl, hE, gE⟩
end Go.Proofs.YtpdnapbchcdhlacGreat
