import Derived.Test.YtpdnapbchcdhlacGreatInv3
import Derived.Deep.AppendLies
set_option maxHeartbeats 8000000
namespace Go.Proofs.YtpdnapbchcdhlacGreat
set_option maxRecDepth 100000
open Go.RowKit
open Plain Reg
variable {U : Nat → Prop} {v : Value} {w w' : World}
def Ke (a : St × List Int × List Int) (x : Sp) : St × List Int × List Int := ((a.1.step x).st, a.2.1 ++ [(a.1.step x).e], a.2.2 ++ [(a.1.step x).n])
def Xc (l : List Sp) : St × List Int × List Int := l.foldl Ke (Y1, [], [])
theorem Ze4 (l : List Sp) (k : Nat) (h : k < l.length) : Xc (l.take (k + 1)) = Ke (Xc (l.take k)) l[k] := by
 unfold Xc;rw [List.take_succ_eq_append_getElem h, List.foldl_append]; rfl
theorem Zc4 (l : List Sp) : ∀ a : St × List Int × List Int, (l.foldl Ke a).2.1.length = a.2.1.length + l.length ∧ (l.foldl Ke a).2.2.length = a.2.2.length + l.length := by
 induction l with
 | nil => intro a; simp
 | cons x l ih =>
  intro a;obtain ⟨h1, h2⟩ := ih (Ke a x);simp only [List.foldl_cons, List.length_cons];rw [h1, h2];simp [Ke];omega
theorem Zpc (l : List Sp) : ∀ a : St × List Int × List Int, a.1.At → (l.foldl Ke a).1.At := by
 induction l with
 | nil => intro a h; exact h
 | cons x l ih => intro a h; exact ih _ (Za5 h)
def iv (x : Int) : Value := .int .i64 x
theorem Zg0 : (Tryz.prog.info? 50).map (fun i => (i.zero, i.size, i.bytes)) = some (some (.int .i64 0), 1, 8) := by kernel_rfl
theorem Yb.grown {s : St} {row : Option Nat} (h : Yb U s v w) (hg : w.grownBy w' row) (hn : ∀ b, row = some b → ¬ U b) : Yb U s v w' := by
 cases row with
 | none => exact h.grow (Yc (Zp.refl _) hg (fun k hk => by cases hk))
 | some q => exact h.but (Zq.grown hg) (hn q rfl)
theorem Zce {base size n q : Nat} {e : TypeId} {xs : List Value} (h : w.ownsRow base e size v n xs) (hg : Zq q w w') (hq : q < base) : w'.ownsRow base e size v n xs :=
 ⟨h.1, Xp h.2 (fun x => x) fun ⟨g, cap, cur, h1, h2, h3, r⟩ => ⟨g, cap, cur, h1, h2, by rw [hg.block _ (Za h3) (by omega)]; exact h3, r⟩⟩
structure Apt (S : Nat → Prop) (B G : Nat) (U : Nat → Prop) (ev nv : Value) (w : World) : Prop where
 lt : ∀ b, U b → b < w.heap.size
 up : ∀ b, U b → Zw S B b
 z : ¬ U B
 g : ¬ U G
 s : ∀ b, S b → U b
 e : ∀ b, ev.ownBlock = some b → ¬ U b
 n : ∀ b, nv.ownBlock = some b → ¬ U b
theorem Zpj (w : World) (x : Int) (T : TypeId) : ∀ (t : Nat) u, ([.int .i64 x] : List Value)[t]? = some u → (w.alloc (.cells #[.int .i64 x] T)).cell? ((⟨w.heap.size, 0, none⟩ : Addr).add t) = some u := by
 intro t u ht
 match t, ht with
 | 0, ht => simp at ht; subst ht; simp [Addr.add]
 | t + 1, ht => simp at ht
theorem Zur {U : Nat → Prop} {B G n1 n2 g9 : Nat} {ev nv v : Value} {w0 w w9 : World} {o : Obj} {T1 T2 TZ TG : TypeId} {s : St} {es ns : List Value} {cz cg : Array Value} {fz fg : Nat × Nat} (hBG : B < G) (hB : w0.heap.size ≤ B) (hT : T2 ≠ T1)
  (he : w.ownsRow (G + 1) T1 1 ev n1 es) (hn : w.ownsRow (G + 1) T2 1 nv n2 ns) (hlt : ∀ b, U b → b < w.heap.size) (hUe : ∀ b, ev.ownBlock = some b → ¬ U b) (hS : Yb U s v w) (hz : w.heap[B]? = some (.cells cz TZ fz)) (hy : w.heap[G]? = some (.cells cg TG fg)) (gw : Zp w0 w)
  (hgr : (w.alloc o).grownBy w9 ev.ownBlock) (hat : ev.ownBlock = some g9 ∨ g9 = (w.alloc o).heap.size) :
  Yb U s v w9 ∧ w9.heap[B]? = some (.cells cz TZ fz) ∧ w9.heap[G]? = some (.cells cg TG fg) ∧ w9.ownsRow (G + 1) T2 1 nv n2 ns ∧ Zp w0 w9 ∧ ¬ U g9 ∧ w.heap.size ≤ w9.heap.size := by
 refine ⟨(hS.grow (Zc w o)).grown hgr hUe, ?_, ?_, Zam he hgr hT hn, ?_, ?_, ?_⟩
 ·exact (X3 he hgr (V5 he (by omega)) (Za hz)).trans hz
 ·exact (X3 he hgr (V5 he (by omega)) (Za hy)).trans hy
 ·exact Yc (gw.trans (Zc w o)) hgr (fun k hk => by have := (he.lt k hk).1; omega)
 ·rcases hat with h | h
  ·exact hUe g9 h
  ·intro hu;have := hlt g9 hu;rw [h, World.size_alloc] at this;omega
 ·have := hgr.size;rw [World.size_alloc] at this;omega
theorem Zqa (S : Nat → Prop) (l : List Sp) (v : Value) (w : World) (hS : ∀ b, S b → b < w.heap.size) (hl : Jp S w v l) (hm : l.length ≤ 140737488355328) (hdl : ∀ x ∈ l, x.deed.data.length ≤ 140737488355328) :
  Calls Tryz.prog 11 #[v] w fun r w' => ∃ v' ev nv, r = .returned (.tuple #[v', ev, nv]) ∧ Yb (Zw S w.heap.size) (Xc (l.take 100)).1 v' w' ∧ w'.ownsRow w.heap.size 50 1 ev (Xc (l.take 100)).2.1.length ((Xc (l.take 100)).2.1.map iv) ∧ w'.ownsRow w.heap.size 3 1 nv (Xc (l.take 100)).2.2.length ((Xc (l.take 100)).2.2.map iv) ∧ Zp w w' := by
 obtain ⟨ao, cp, rfl⟩ := hl.form;have g0 := Zc w Y4;have hz0 := Zj w #[.slice none 0 0, .slice none 0 0, .slice none 0 0, .int .i64 0] 29;obtain ⟨R, hR⟩ : ∃ R, R = Xc (l.take 100) := ⟨_, rfl⟩;rw [← hR];have HR : Hid _ := hR;clear hR;obtain ⟨ie, hife, hze0, hze1, hze2⟩ := info_parts Zg0;obtain ⟨ii, hifi, hzi0, hzi1, hzi2⟩ := info_parts Zcj;go_enter Tryz.func11, Tryz.ntmps11;go_wp2_with fail;refine (Zia S (w.alloc Y4) (fun b h => by have := hS b h; simp; omega)).mono ?_;rintro r w1 ⟨v1, rfl, hS1, g1⟩;obtain ⟨b1, e1, l1, m1, i1, j1, hv1, -, -, -⟩ := hS1.form;subst hv1;rw [World.size_alloc] at hS1;obtain ⟨G, hG⟩ : ∃ G, G = w1.heap.size := ⟨_, rfl⟩;have hz1 := (g1.block _ (Za hz0)).trans hz0;have hGz : w.heap.size < G := by rw [hG]; exact Za hz1
 have g2 := Zc w1 (.cells #[.slice b1 Y1.dk.blocks.length e1, .slice l1 Y1.dk.late.length m1, .slice i1 Y1.idx.length j1, .int .i64 Y1.next] 29);have hY := Zj w1 #[.slice b1 Y1.dk.blocks.length e1, .slice l1 Y1.dk.late.length m1, .slice i1 Y1.idx.length j1, .int .i64 Y1.next] 29;have hz2 := (g2.block _ (Za hz1)).trans hz1;have gw2 := g0.trans (g1.trans g2);rw [← hG] at hY;have hA0 : Apt S w.heap.size G (fun b => Zw S (w.heap.size + 1) b ∧ b < G) (.slice none 0 0) (.slice none 0 0) (w1.alloc (.cells #[.slice b1 Y1.dk.blocks.length e1, .slice l1 Y1.dk.late.length m1, .slice i1 Y1.idx.length j1, .int .i64 Y1.next] 29)) :=
  ⟨fun b h => by have := h.2; rw [World.size_alloc]; omega, fun b h => h.1.elim .inl (fun x => .inr (by omega)), fun h => h.1.elim (fun x => Nat.lt_irrefl _ (hS _ x)) (fun x => by omega), fun h => Nat.lt_irrefl _ h.2, fun b h => ⟨.inl h, by have := hS b h; omega⟩, (fun b h => by cases h), (fun b h => by cases h)⟩
 have hS2 : Yb (fun b => Zw S (w.heap.size + 1) b ∧ b < G) Y1 (.agg #[.slice b1 Y1.dk.blocks.length e1, .slice l1 Y1.dk.late.length m1, .slice i1 Y1.idx.length j1, .int .i64 Y1.next]) (w1.alloc (.cells #[.slice b1 Y1.dk.blocks.length e1, .slice l1 Y1.dk.late.length m1, .slice i1 Y1.idx.length j1, .int .i64 Y1.next] 29)) := by rw [hG]; exact hS1.capd.grow g2
 have HG : Hid _ := hG;have HST : Hid (Y1.At) := Zdo;clear g0 g1 g2 hz0 hz1 hS1 hG;go_wp2_with fail;rw [← HG.out];have HPL : Hid (Xc (l.take 0) = (Y1, [], [])) := by show _ = _; rfl
 generalize Y1 = s0 at *;go_loopw [6, 7, 16] (fun ev nv i wr => ∃ (k : Nat) (s : St) (es ns : List Int) (U : Nat → Prop) (b1 : Option Addr) (e1 : Nat) (l1 : Option Addr) (m1 : Nat) (i1 : Option Addr) (j1 : Nat), k ≤ 100 ∧ k ≤ l.length ∧ i = .int .i64 (k : Int) ∧ Hid (Xc (l.take k) = (s, es, ns)) ∧ Hid s.At ∧ wr.heap[w.heap.size]? = some (.cells #[.slice none 0 0, .slice none 0 0, .slice none 0 0, .int .i64 0] 29 (0, 0)) ∧ wr.heap[G]? = some (.cells #[.slice b1 s.dk.blocks.length e1, .slice l1 s.dk.late.length m1, .slice i1 s.idx.length j1, .int .i64 s.next] 29 (0, 0)) ∧ Yb U s (.agg #[.slice b1 s.dk.blocks.length e1, .slice l1 s.dk.late.length m1, .slice i1 s.idx.length j1, .int .i64 s.next]) wr ∧ Apt S w.heap.size G U ev nv wr ∧ wr.ownsRow (G + 1) 50 1 ev es.length (es.map iv) ∧ wr.ownsRow (G + 1) 3 1 nv ns.length (ns.map iv) ∧ Zp w wr) (fun _ _ i _ => l.length - (intOf i).toNat)
 case atStart => exact ⟨0, s0, [], [], _, b1, e1, l1, m1, i1, j1, by omega, by omega, rfl, HPL, HST, hz2, hY, hS2, hA0, World.ownsRow_nil _ _ _ _, World.ownsRow_nil _ _ _ _, gw2⟩
 case round =>
  clear hz2 hY hS2 gw2 HPL HST hA0;obtain ⟨k, s, es, ns, U, b1, e1, l1, m1, i1, j1, hk1, hkl, rfl, HPL, HST, hz9, hY, hS9, hA9, he9, hn9, gw9⟩ := hrel;have hGr : G < wr.heap.size := Za hY;have HLN : Hid (es.length = k ∧ ns.length = k) := by
   have h := Zc4 (l.take k) (Y1, [], []);have e : (l.take k).foldl Ke (Y1, [], []) = (s, es, ns) := HPL.out;rw [e] at h;simp only [List.length_nil, List.length_take] at h;show _ ∧ _;omega
  obtain ⟨ae, ce, rfl⟩ := Z6 he9;obtain ⟨an, cn, rfl⟩ := Z6 hn9;obtain ⟨y0, y1, y2, y3⟩ := Z4 hY rfl rfl rfl rfl;by_cases hlt : k < l.length
  ·obtain ⟨b, off, ad, c, hao, q0, q1, q2, q3, q4, q5, q6, hbd⟩ := Zfu (hl.grow gw9) k hlt;cases hao;have HNX : Hid (Xc (l.take (k + 1)) = Ke (Xc (l.take k)) l[k]) := Ze4 l k hlt;have HDL : Hid (l[k].deed.data.length ≤ 140737488355328) := hdl _ (List.getElem_mem hlt);generalize l[k] = x at *;have g3 := Zc wr (.cells #[.int .i64 x.kind, .int .i64 x.n, .int .i64 x.m, .int .i64 x.deed.kind, .int .i64 x.deed.key, .int .i64 x.deed.num, .slice ad x.deed.data.length c] 49);have hX := Zj wr #[.int .i64 x.kind, .int .i64 x.n, .int .i64 x.m, .int .i64 x.deed.kind, .int .i64 x.deed.key, .int .i64 x.deed.num, .slice ad x.deed.data.length c] 49;have hz3 := (g3.block _ (Za hz9)).trans hz9;have hY3 := (g3.block _ (Za hY)).trans hY;have hS3 := hS9.grow g3;have hb3 := hbd.grow g3;have gw3 := gw9.trans g3;have he3 := Z2 he9 g3;have hn3 := Z2 hn9 g3;have hA3 : Apt S w.heap.size G U (.slice ae es.length ce) (.slice an ns.length cn) (wr.alloc (.cells #[.int .i64 x.kind, .int .i64 x.n, .int .i64 x.m, .int .i64 x.deed.kind, .int .i64 x.deed.key, .int .i64 x.deed.num, .slice ad x.deed.data.length c] 49)) := ⟨fun b h => Nat.lt_of_lt_of_le (hA9.lt b h) g3.size, hA9.up, hA9.z, hA9.g, hA9.s, hA9.e, hA9.n⟩;clear y0 y1 y2 y3 hz9 hS9 gw9 hY hbd he9 hn9 hA9;obtain ⟨y0, y1, y2, y3⟩ := Z4 hY3 rfl rfl rfl rfl;by_cases h100 : k = 100
   ·have d1 : ((k : Int) == 100) = true := by simp [h100]
    obtain rfl : R = (s, es, ns) := by rw [HR.out, ← HPL.out, h100]
    have hz9 := hz3;have hS9 := hS3;have gw9 := gw3;have he9 := he3;have hn9 := hn3;have hA9 := hA3;obtain ⟨ev, hev⟩ : ∃ ev, ev = Value.slice ae es.length ce := ⟨_, rfl⟩;obtain ⟨nv, hnv⟩ : ∃ nv, nv = Value.slice an ns.length cn := ⟨_, rfl⟩;rw [← hev] at he9 hA9 ⊢;rw [← hnv] at hn9 hA9 ⊢;clear HPL HST hX hz3 hS3 gw3 hY3 hb3 g3 h100 he3 hn3 hA3 HLN HNX hev hnv;obtain ⟨z0, z1, z2, z3⟩ := Z4 hz9 rfl rfl rfl rfl;obtain ⟨o0, o1, o2, o3⟩ := Yq hz9;obtain ⟨hq1, hq2⟩ := Ye hz9 (.slice b1 s.dk.blocks.length e1) (.slice l1 s.dk.late.length m1) (.slice i1 s.idx.length j1) (.int .i64 s.next);obtain ⟨x0, x1, x2, x3⟩ := Z4 hq1 rfl rfl rfl rfl;have cs := Zt;have gE := hq2.grow gw9 (Nat.le_refl _);have hE := (hS9.but hq2 hA9.z).mono hA9.up;have rE := Yi (Zce he9 hq2 (by omega)) (show w.heap.size ≤ G + 1 by omega);have rN := Yi (Zce hn9 hq2 (by omega)) (show w.heap.size ≤ G + 1 by omega);have HRE : Hid _ := rE;have HRN : Hid _ := rN;clear hq1 hq2 hz9 gw9 hS9 hA9 he9 hn9 rE rN;obtain ⟨ae, ce, rfl⟩ : ∃ ae ce, ev = .slice ae es.length ce := Z6 HRE.out;obtain ⟨an, cn, rfl⟩ : ∃ an cn, nv = .slice an ns.length cn := Z6 HRN.out;go_wp2_with fail;exact bodyPost_ret (v := .tuple #[.agg #[.slice b1 s.dk.blocks.length e1, .slice l1 s.dk.late.length m1, .slice i1 s.idx.length j1, .int .i64 s.next], .slice ae es.length ce, .slice an ns.length cn]) (by simp [results, Tryz.results11, go_sem, x0, x1, x2, x3]) rfl ⟨_, _, _, rfl, hE, HRE.out, HRN.out, gE⟩
   ·have d1 : ((k : Int) == 100) = false := by simp; omega
    have HK1 : Hid (k + 1 ≤ 100) := by show _ ≤ _; omega
    obtain ⟨p0, p1, p2, p3, p4⟩ := Qb hX rfl rfl rfl rfl rfl;have p5 := Zd hX 5 _ rfl;have p6 := Zd hX 6 _ rfl;clear g3 h100;go_wp2_with fail;generalize World.alloc wr _ = w4 at *;refine (Zd9 (fun b => U b ∧ b < w4.heap.size) s x _ ad c w4 (fun b h => h.2) hS3.capd ((hb3.mono hA3.s).caps) HST.out HDL.out).mono ?_;have HAT : Hid ((s.step x).st.At) := Za5 HST.out;have HN2 : Hid (Xc (l.take (k + 1)) = ((s.step x).st, es ++ [(s.step x).e], ns ++ [(s.step x).n])) := by show _ = _; rw [HNX.out, HPL.out]; rfl
    generalize s.step x = B at *;rintro r w5 ⟨v5, rfl, hS5, g5⟩;obtain ⟨b5, e5, l5, m5, i5, j5, hv5, -, -, -⟩ := hS5.form;subst hv5;have hG4 : G < w4.heap.size := Za hY3;obtain ⟨U5, hU5⟩ : ∃ U5 : Nat → Prop, U5 = fun b => U b ∨ (w4.heap.size ≤ b ∧ b < w5.heap.size) := ⟨_, rfl⟩
    have h45 := g5.size;have hS6 : Yb U5 B.st (.agg #[.slice b5 B.st.dk.blocks.length e5, .slice l5 B.st.dk.late.length m5, .slice i5 B.st.idx.length j5, .int .i64 B.st.next]) w5 := hS5.capd.mono (by
     rw [hU5];rintro b ⟨h | h, hb⟩
     ·exact .inl h.1
     ·exact .inr ⟨h, hb⟩)
    have hA5 : Apt S w.heap.size G U5 (.slice ae es.length ce) (.slice an ns.length cn) w5 := by
     rw [hU5];have hwB : w.heap.size < w4.heap.size := by omega
     refine ⟨fun b h => h.elim (fun x => by have := hA3.lt b x; omega) (fun x => x.2), fun b h => h.elim (hA3.up b) (fun x => .inr (by omega)), fun h => h.elim hA3.z (fun x => by omega), fun h => h.elim hA3.g (fun x => by omega), fun b h => .inl (hA3.s b h), fun b h hu => hu.elim (hA3.e b h) (fun x => ?_), fun b h hu => hu.elim (hA3.n b h) (fun x => ?_)⟩
     ·have := (he3.lt b h).2; omega
     ·have := (hn3.lt b h).2; omega
    have hz5 := (g5.block _ (Za hz3)).trans hz3;have hY5 := (g5.block _ (Za hY3)).trans hY3;have gw5 := gw3.trans g5;have he5 := Z2 he3 g5;have hn5 := Z2 hn3 g5;clear y0 y1 y2 y3 p0 p1 p2 p3 p4 p5 p6 hX hz3 hY3 hS3 hb3 gw3 hS5 g5 HST HNX HPL he3 hn3 hA3 hU5 q0 q1 q2 q3 q4 q5 q6;have g6 := Zc w5 (.cells #[.slice b5 B.st.dk.blocks.length e5, .slice l5 B.st.dk.late.length m5, .slice i5 B.st.idx.length j5, .int .i64 B.st.next] 29);have hU6 := Zj w5 #[.slice b5 B.st.dk.blocks.length e5, .slice l5 B.st.dk.late.length m5, .slice i5 B.st.idx.length j5, .int .i64 B.st.next] 29;obtain ⟨u0, u1, u2, u3⟩ := Z4 hU6 rfl rfl rfl rfl;have hY6 := (g6.block _ (Za hY5)).trans hY5;have hz6 := (g6.block _ (Za hz5)).trans hz5;obtain ⟨hp1, hp2⟩ := Ye hY6 (.slice b5 B.st.dk.blocks.length e5) (.slice l5 B.st.dk.late.length m5) (.slice i5 B.st.idx.length j5) (.int .i64 B.st.next);obtain ⟨y0, y1, y2, y3⟩ := Z4 hY6 rfl rfl rfl rfl;obtain ⟨f0, f1, f2, f3⟩ := Yq hY6;have cs := Zt;have hz7 := (hp2.block _ (Za hz6) (by intro e; omega)).trans hz6;have hS7 := (hS6.grow g6).but hp2 hA5.g;have gw7 := hp2.grow (gw5.trans g6) (by omega);have he7 := Zce (Z2 he5 g6) hp2 (by omega);have hn7 := Zce (Z2 hn5 g6) hp2 (by omega);have hlt7 := Nat.le_trans g6.size hp2.size;have hA7 := hA5;clear hp2 hz5 hY5 gw5 hS6 he5 hn5 hz6 hY6 hU6 g6 hA5;go_upto_region 10 with fail
    clear y0 y1 y2 y3 f0 f1 f2 f3 cs u0 u1 u2 u3;generalize World.setCell (World.setCell (World.setCell (World.setCell (World.alloc w5 _) _ _) _ _) _ _) _ _ = W7 at *;have q8 := Zpj W7 B.e 50;have hle : es.length ≤ 100 ∧ ns.length ≤ 100 := by have := HLN.out; omega
    have hEL : Hid ((es ++ [B.e]).length = es.length + 1 ∧ (es ++ [B.e]).map iv = es.map iv ++ [.int .i64 B.e]) := by show _ ∧ _; simp [iv]
    have hNL : Hid ((ns ++ [B.n]).length = ns.length + 1 ∧ (ns ++ [B.n]).map iv = ns.map iv ++ [.int .i64 B.n]) := by show _ ∧ _; simp [iv]
    have hGW : G < W7.heap.size := Za hp1;go_wp2_with (first
     | (at_builtin; refine wpList_append_lies _ rfl (.tmp 31) (.tmp 33) 30 rfl (G + 1) 50 ie (.int .i64 0) 1 8 Tryz.underlying30 hife hze0 hze1 hze2 rfl (by decide) (.slice ae es.length ce) _ _ rfl (he7.alloc _) ⟨W7.heap.size, 0, none⟩ 1 1 [.int .i64 B.e] rfl rfl q8 (by intro u hu; simp at hu; subst hu; rfl) (by omega) (by unfold maxLen; omega) (by omega) (by simp; omega) _ rfl ?_; intro g9 c9 w9 hown9 hgr9 hat9 _hlt9; obtain ⟨hS9, hz9, hY9, hn9, gw9, hug9, hsz9⟩ := Zur (by omega) (Nat.le_refl _) (by decide) he7 hn7 (fun b h => Nat.lt_of_lt_of_le (hA7.lt b h) hlt7) hA7.e hS7 hz7 hp1 gw7 hgr9 hat9; have he9 : w9.ownsRow (G + 1) 50 1 (.slice (some ⟨g9, 0, none⟩) (es.length + 1) c9) (es ++ [B.e]).length ((es ++ [B.e]).map iv) := (by rw [hEL.out.1, hEL.out.2]; exact hown9); have hGW9 : G < w9.heap.size := Za hY9; have q9 := Zpj w9 B.n 3; clear hown9 hgr9 hat9 q8 he7 hn7 hS7 hz7 hp1 gw7 hGW)
     | (at_builtin; refine wpList_append_lies _ rfl (.tmp 35) (.tmp 37) 31 rfl (G + 1) 3 ii (.int .i64 0) 1 8 Tryz.underlying31 hifi hzi0 hzi1 hzi2 rfl (by decide) (.slice an ns.length cn) _ _ rfl (hn9.alloc _) ⟨w9.heap.size, 0, none⟩ 1 1 [.int .i64 B.n] rfl rfl q9 (by intro u hu; simp at hu; subst hu; rfl) (by omega) (by unfold maxLen; omega) (by omega) (by simp; omega) _ rfl ?_; intro gA cA wA hownA hgrA hatA _hltA; obtain ⟨hSA, hzA, hYA, heA, gwA, hugA, hszA⟩ := Zur (by omega) (Nat.le_refl _) (by decide) hn9 he9 (fun b h => Nat.lt_of_lt_of_le (hA7.lt b h) (Nat.le_trans hlt7 hsz9)) hA7.n hS9 hz9 hY9 gw9 hgrA hatA; have hnA : wA.ownsRow (G + 1) 3 1 (.slice (some ⟨gA, 0, none⟩) (ns.length + 1) cA) (ns ++ [B.n]).length ((ns ++ [B.n]).map iv) := (by rw [hNL.out.1, hNL.out.2]; exact hownA); have hAA : Apt S w.heap.size G U5 (.slice (some ⟨g9, 0, none⟩) (es.length + 1) c9) (.slice (some ⟨gA, 0, none⟩) (ns.length + 1) cA) wA := (⟨fun b h => Nat.lt_of_lt_of_le (hA7.lt b h) (Nat.le_trans hlt7 (Nat.le_trans hsz9 hszA)), hA7.up, hA7.z, hA7.g, hA7.s, (fun b h => by have e : g9 = b := Option.some.inj h; rw [← e]; exact hug9), (fun b h => by have e : gA = b := Option.some.inj h; rw [← e]; exact hugA)⟩); clear hownA hgrA hatA q9 he9 hn9 hS9 hz9 hY9 gw9 hGW9))
    go_roundw
    case rel => exact ⟨k + 1, B.st, es ++ [B.e], ns ++ [B.n], U5, b5, e5, l5, m5, i5, j5, HK1.out, by omega, by go_num, HN2, HAT, hzA, hYA, hSA, hAA, heA, hnA, gwA⟩
    case measure => simp [intOf]; omega
  ·obtain rfl : R = (s, es, ns) := by
    have e : l.take 100 = l.take k := by rw [List.take_of_length_le (by omega), List.take_of_length_le (by omega)]
    rw [HR.out, e, HPL.out]
   obtain ⟨ev, hev⟩ : ∃ ev, ev = Value.slice ae es.length ce := ⟨_, rfl⟩;obtain ⟨nv, hnv⟩ : ∃ nv, nv = Value.slice an ns.length cn := ⟨_, rfl⟩;rw [← hev] at he9 hA9 ⊢;rw [← hnv] at hn9 hA9 ⊢;clear HPL HST hY HLN hev hnv;obtain ⟨z0, z1, z2, z3⟩ := Z4 hz9 rfl rfl rfl rfl;obtain ⟨o0, o1, o2, o3⟩ := Yq hz9;obtain ⟨hq1, hq2⟩ := Ye hz9 (.slice b1 s.dk.blocks.length e1) (.slice l1 s.dk.late.length m1) (.slice i1 s.idx.length j1) (.int .i64 s.next);obtain ⟨x0, x1, x2, x3⟩ := Z4 hq1 rfl rfl rfl rfl;have cs := Zt;have gE := hq2.grow gw9 (Nat.le_refl _);have hE := (hS9.but hq2 hA9.z).mono hA9.up;have rE := Yi (Zce he9 hq2 (by omega)) (show w.heap.size ≤ G + 1 by omega);have rN := Yi (Zce hn9 hq2 (by omega)) (show w.heap.size ≤ G + 1 by omega);have HRE : Hid _ := rE;have HRN : Hid _ := rN;clear hq1 hq2 hz9 gw9 hS9 hA9 he9 hn9 rE rN;obtain ⟨ae, ce, rfl⟩ : ∃ ae ce, ev = .slice ae es.length ce := Z6 HRE.out;obtain ⟨an, cn, rfl⟩ : ∃ an cn, nv = .slice an ns.length cn := Z6 HRN.out;go_wp2_with fail;exact bodyPost_ret (v := .tuple #[.agg #[.slice b1 s.dk.blocks.length e1, .slice l1 s.dk.late.length m1, .slice i1 s.idx.length j1, .int .i64 s.next], .slice ae es.length ce, .slice an ns.length cn]) (by simp [results, Tryz.results11, go_sem, x0, x1, x2, x3]) rfl ⟨_, _, _, rfl, hE, HRE.out, HRN.out, gE⟩
variable {S : Nat → Prop} {v : Value} {w : World}
theorem Zg5 : ∀ (n : Nat) (s : St) (l : List Sp), s.Inv → (K6 n s l).Inv
 | 0, s, _, h => h
 | n + 1, s, [], h => h
 | n + 1, s, x :: l, h => by
  unfold K6;split
  ·rename_i hg; exact Zg5 n _ l (Zkf h hg)
  ·exact h
theorem Zup {s : St} (h : s.At) : s.idx.length ≤ 6 := by
 obtain ⟨h1, h2⟩ := (Xv _).1 h.ok.right;have hn : (s.idx.map fun x => x.pair.toNat).Nodup := by
  rw [List.nodup_iff_pairwise_ne, List.pairwise_map];refine List.Pairwise.imp_of_mem ?_ h1;intro a b ha hb hu e;have ha0 := (h2 a ha).2.2.1;have hb0 := (h2 b hb).2.2.1;exact hu.2 (by omega)
 have := Zff _ (List.range 6) hn (fun x hx => by
  obtain ⟨e, he, rfl⟩ := List.mem_map.1 hx;have := h.ok.six e he;rw [List.mem_range];have := (h2 e he).2.2.1;omega)
 simpa using this
theorem Yb.any {s : St} (h : Yb S s v w) : Yb (fun _ => True) s v w := h.mono fun _ _ => trivial
theorem Yb.now {s : St} (h : Yb (fun _ => True) s v w) : Yb (fun b => b < w.heap.size) s v w := h.capd.mono fun _ h => h.2
theorem Zes {l : List UInt8} (h : Z3 S w v l) : Z3 (fun b => b < w.heap.size) w v l := h.caps.mono fun _ h => h.2
theorem Zy2 {l : List Int} {i : Nat} (h : i < l.length) : (l.map iv)[i]? = some (.int .i64 l[i]) := by simp [iv, h]
theorem Zan {base n : Nat} {e : TypeId} {xs : List Value} (h : w.ownsRow base e 1 v n xs) (hn : 0 < n) : ∃ g c, v = .slice (some ⟨g, 0, none⟩) n c ∧ base ≤ g ∧ g < w.heap.size := by
 rcases h.2 with ⟨_, h0⟩ | ⟨g, c, cur, h1, h2, h3, _⟩
 ·omega
 ·exact ⟨g, c, h1, h2, Za h3⟩
def Zpt : Prop := ∀ (S : Nat → Prop) (s : St) (x : Sp) (v : Value) (ad : Option Addr) (c : Nat) (w : World), (∀ b, S b → b < w.heap.size) → Yb S s v w → Z3 S w (.slice ad x.deed.data.length c) x.deed.data → s.At → x.deed.data.length ≤ 140737488355328 →
 Calls Tryz.prog 20 #[v, .agg #[.int .i64 x.kind, .int .i64 x.n, .int .i64 x.m, .int .i64 x.deed.kind, .int .i64 x.deed.key, .int .i64 x.deed.num, .slice ad x.deed.data.length c]] w fun r w' => ∃ v', r = .returned (.tuple #[v', .int .i64 (s.step x).n, .int .i64 (s.step x).e]) ∧ Yb (Zw S w.heap.size) (s.step x).st v' w' ∧ Zp w w'
def Zj3 : Prop := ∀ (S : Nat → Prop) (l : List Sp) (v : Value) (w : World), (∀ b, S b → b < w.heap.size) → Jp S w v l → l.length ≤ 100 → (∀ x ∈ l, x.deed.data.length ≤ 140737488355328) →
 Calls Tryz.prog 19 #[v] w fun r w' => ∃ v' ev nv, r = .returned (.tuple #[v', ev, nv, .int .i64 0]) ∧ Yb (Zw S w.heap.size) (Xc l).1 v' w' ∧ w'.ownsRow w.heap.size 50 1 ev (Xc l).2.1.length ((Xc l).2.1.map iv) ∧ w'.ownsRow w.heap.size 3 1 nv (Xc l).2.2.length ((Xc l).2.2.map iv) ∧ Zp w w'
def Zps : Prop := ∀ (l : List Sp) (v : Value) (w : World), Jp (fun _ => True) w v l → 100 < l.length → l.length ≤ 140737488355328 →
 Calls Tryz.prog 19 #[v] w fun r w' => r = .returned (.tuple #[.agg #[.slice none 0 0, .slice none 0 0, .slice none 0 0, .int .i64 0], .slice none 0 0, .slice none 0 0, .int .i64 5]) ∧ Zp w w'
def Zhl : Prop := ∀ w : World, Calls Tryz.prog 22 #[] w fun r w' => r = .returned (.bool true) ∧ Zp w w'
def Zij : Sp := ⟨6, 0, 0, ⟨0, 0, 0, []⟩⟩
theorem Zgq (s : St) : (s.step Zij).st = X2 s.dk ∧ (s.step Zij).n = 0 ∧ (s.step Zij).e = 0 := ⟨rfl, rfl, rfl⟩
theorem Zqx (S : Nat → Prop) (w : World) : Z3 S w (.slice none Zij.deed.data.length 0) Zij.deed.data := .inl ⟨none, 0, rfl, rfl, fun _ => rfl⟩
theorem Zwm {s : St} (h : s.Inv) : (X2 s.dk).idx = s.idx := by rw [h.good.mounted, h.idx]
theorem Zix {s : St} (h : s.At) : s.dk.blocks.length ≤ 1000000 ∧ s.dk.late.length ≤ 1000000 ∧ s.idx.length ≤ 1000000 := ⟨by rw [h.ok.disk.len]; omega, by have := h.ok.disk.few; omega, by have := Zup h; omega⟩
theorem Ztg (l : List Sp) : (Xc l).2.1.length = l.length ∧ (Xc l).2.2.length = l.length := by
 obtain ⟨h1, h2⟩ := Zc4 l (Y1, [], []);exact ⟨h1.trans (by simp), h2.trans (by simp)⟩
theorem Zdm {w : World} {base n : Nat} {e : TypeId} {g c : Nat} {xs : List Int} (h : w.ownsRow base e 1 (.slice (some ⟨g, 0, none⟩) n c) n (xs.map iv)) {k : Nat} (hk : k < xs.length) (hn : n = xs.length) : w.cell? ⟨g, k, none⟩ = some (.int .i64 xs[k]) := by
 rw [h.cellAt k (by omega)]; exact Zy2 hk
theorem Zjf (PD : Zpt) (PP : Zj3) (PM : Zps) (l : List Sp) (x : Sp) (v : Value) (ad : Option Addr) (c : Nat) (w : World) (hl : Jp (fun b => b < w.heap.size) w v l) (hd : Z3 (fun b => b < w.heap.size) w (.slice ad x.deed.data.length c) x.deed.data) (hm : l.length ≤ 140737488355328) (hdl : ∀ x ∈ l, x.deed.data.length ≤ 140737488355328) (hdd : x.deed.data.length ≤ 140737488355328) :
  Calls Tryz.prog 5 #[v, .agg #[.int .i64 x.kind, .int .i64 x.n, .int .i64 x.m, .int .i64 x.deed.kind, .int .i64 x.deed.key, .int .i64 x.deed.num, .slice ad x.deed.data.length c]] w fun r w' => r = .returned (.bool true) ∧ Zp w w' := by
 obtain ⟨ao, cp, rfl⟩ := hl.form;have g0 := Zc w (.cells #[.int .i64 x.kind, .int .i64 x.n, .int .i64 x.m, .int .i64 x.deed.kind, .int .i64 x.deed.key, .int .i64 x.deed.num, .slice ad x.deed.data.length c] 49);have hX0 := Zj w #[.int .i64 x.kind, .int .i64 x.n, .int .i64 x.m, .int .i64 x.deed.kind, .int .i64 x.deed.key, .int .i64 x.deed.num, .slice ad x.deed.data.length c] 49;go_enter Tryz.func5, Tryz.ntmps5;go_wp2_with fail;generalize World.alloc w _ = W0 at *;by_cases hlen : l.length ≤ 100
 ·refine (PP (fun b => b < w.heap.size) l _ W0 (fun b h => Nat.lt_of_lt_of_le h g0.size) (hl.grow g0) hlen hdl).mono ?_;have HAT : Hid ((Xc l).1.At) := Zpc _ _ Zdo;have HLN : Hid ((Xc l).2.1.length = l.length ∧ (Xc l).2.2.length = l.length) := Ztg l;have HTK : Hid (l.take 100 = l) := List.take_of_length_le hlen;obtain ⟨P, hP⟩ : ∃ P, P = Xc l := ⟨_, rfl⟩;rw [← hP] at HAT HLN ⊢;have HP : Hid _ := hP;clear hP;obtain ⟨s, es, ns⟩ := P;simp only at HAT HLN ⊢;rintro r w1 ⟨v1, ev, nv, rfl, hS1, he1, hn1, g1⟩;obtain ⟨b1, e1, l1, m1, i1, j1, hv1, -, -, -⟩ := hS1.form;subst hv1;obtain ⟨ae, ce, rfl⟩ := Z6 he1;obtain ⟨an, cn, rfl⟩ := Z6 hn1;have g2 := Zc w1 (.cells #[.slice b1 s.dk.blocks.length e1, .slice l1 s.dk.late.length m1, .slice i1 s.idx.length j1, .int .i64 s.next] 29);have hY2 := Zj w1 #[.slice b1 s.dk.blocks.length e1, .slice l1 s.dk.late.length m1, .slice i1 s.idx.length j1, .int .i64 s.next] 29;have hs2 := (hS1.grow g2).any;have hX2 := ((g1.trans g2).block _ (Za hX0)).trans hX0;have he2 := Z2 he1 g2;have hn2 := Z2 hn1 g2;have gw2 := g0.trans (g1.trans g2);clear hS1 he1 hn1 g1 g2 g0 hX0;go_wp2_with fail;obtain ⟨G, hG⟩ : ∃ G, G = w1.heap.size := ⟨_, rfl⟩;rw [← hG] at hY2 ⊢;clear hG;generalize World.alloc w1 _ = w2 at *;refine (Zqa (fun b => b < w.heap.size) l _ w2 (fun b h => Nat.lt_of_lt_of_le h gw2.size) (hl.grow gw2) hm hdl).mono ?_;rw [HTK.out, ← HP.out];simp only;rintro r w3 ⟨v3, fv, mv, rfl, hS3, hf3, hm3, g3⟩;obtain ⟨b3, e3, l3, m3, i3, j3, hv3, -, -, -⟩ := hS3.form
  subst hv3;obtain ⟨af, cf, rfl⟩ := Z6 hf3;obtain ⟨am, cm, rfl⟩ := Z6 hm3;have g4 := Zc w3 (.cells #[.slice b3 s.dk.blocks.length e3, .slice l3 s.dk.late.length m3, .slice i3 s.idx.length j3, .int .i64 s.next] 29);have hZ4 := Zj w3 #[.slice b3 s.dk.blocks.length e3, .slice l3 s.dk.late.length m3, .slice i3 s.idx.length j3, .int .i64 s.next] 29;have gg := g3.trans g4;have hz4 := (hS3.grow g4).any;have hf4 := Z2 hf3 g4;have hm4 := Z2 hm3 g4;have hY4 := (gg.block _ (Za hY2)).trans hY2;have hX4 := (gg.block _ (Za hX2)).trans hX2;have hs4 := hs2.grow gg;have he4 := Z2 he2 gg;have hn4 := Z2 hn2 gg;have gw4 := gw2.trans gg;clear hS3 hf3 hm3 g3 g4 gg hY2 hX2 hs2 he2 hn2 gw2 HP HTK;obtain ⟨y0, y1, y2, y3⟩ := Z4 hY4 rfl rfl rfl rfl;obtain ⟨z0, z1, z2, z3⟩ := Z4 hZ4 rfl rfl rfl rfl;have d1 : ((es.length : Int) == (es.length : Int)) = true := by simp
  have d2 : ((ns.length : Int) == (ns.length : Int)) = true := by simp
  go_wp2_with fail;clear d1 d2;obtain ⟨Z, hZ⟩ : ∃ Z, Z = w3.heap.size := ⟨_, rfl⟩;rw [← hZ] at hZ4 ⊢;clear hZ y0 y1 y2 y3 z0 z1 z2 z3;generalize World.alloc w3 _ = w4 at *;obtain ⟨q1, q2, q3⟩ := Zix HAT.out;refine (Zf7 s s _ _ _ _ w4 hs4 hz4 q1 q2 q3).mono ?_;rw [St.same_refl];rintro r W5 ⟨rfl, g5⟩;have hY5 := (g5.block _ (Za hY4)).trans hY4;have hZ5 := (g5.block _ (Za hZ4)).trans hZ4;have hX5 := (g5.block _ (Za hX4)).trans hX4;have hz5 := hz4.grow g5;have he5 := Z2 he4 g5;have hn5 := Z2 hn4 g5;have hf5 := Z2 hf4 g5;have hm5 := Z2 hm4 g5;have gw5 := gw4.trans g5;clear q1 q2 q3 hY4 hZ4 hX4 hs4 hz4 he4 hn4 hf4 hm4 gw4 g5;go_wp2_with fail;have hes : es.length ≤ 100 := by have := HLN.out; omega
  go_loopw [73] (fun i wr => ∃ k : Nat, k ≤ es.length ∧ i = .int .i64 (k : Int) ∧ Zp W5 wr) (fun i _ => es.length - (intOf i).toNat)
  case atStart => exact ⟨0, by omega, rfl, Zp.refl _⟩
  case round =>
   obtain ⟨k, hk, rfl, hgq⟩ := hrel;by_cases hlt : k < es.length
   ·have hkn : k < ns.length := by have := HLN.out; omega
    obtain ⟨ge, ke, ho, -, -⟩ := Zan he5 (by omega);cases ho;obtain ⟨gf, kf, ho, -, -⟩ := Zan hf5 (by omega);cases ho;obtain ⟨gn, kn, ho, -, -⟩ := Zan hn5 (by omega);cases ho;obtain ⟨gm, km, ho, -, -⟩ := Zan hm5 (by omega);cases ho;have o0 := Zdm (Z2 he5 hgq) hlt rfl;have o1 := Zdm (Z2 hf5 hgq) hlt rfl;have o2 := Zdm (Z2 hn5 hgq) hkn rfl;have o3 := Zdm (Z2 hm5 hgq) hkn rfl;generalize es[k] = xe at *;generalize ns[k] = xn at *;go_wp2_with fail;refine Ya [ex (.slice (some ⟨ge, 0, none⟩) es.length ce), ex (.int .i64 (k : Int)), ex (.pointer (some ⟨ge, k, none⟩)), ex (.int .i64 xe), ex (.slice (some ⟨gf, 0, none⟩) es.length cf), ex (.int .i64 (k : Int)), ex (.pointer (some ⟨gf, k, none⟩)), ex (.int .i64 xe), ex (.bool false), ex (.bool false), ex (.slice (some ⟨gn, 0, none⟩) ns.length cn), ex (.int .i64 (k : Int)), ex (.pointer (some ⟨gn, k, none⟩)), ex (.int .i64 xn), ex (.slice (some ⟨gm, 0, none⟩) ns.length cm), ex (.int .i64 (k : Int)), ex (.pointer (some ⟨gm, k, none⟩)), ex (.int .i64 xn), ex (.bool false), ex (.bool false)] (by kernel_rfl) (by kernel_rfl) ⟨Zh _, Zh _, Zh _, Zh _, Zh _, Zh _, Zh _, Zh _, Zh _, Zh _, Zh _, Zh _, Zh _, Zh _, Zh _, Zh _, Zh _, Zh _, Zh _, Zh _, trivial⟩ ?_ ?_
    ·refine ⟨?_, ?_, ?_, ?_, ?_, ?_, ?_, ?_, ?_, ?_, ?_, ?_, ?_, ?_, ?_, ?_, ?_, ?_, ?_, ?_, trivial⟩
     ·exact Zb rfl fun a _ _ _ _ A => Zs rfl (Zv A 6 rfl)
     ·exact Zb rfl fun a _ _ _ _ A => Zs rfl (Zv A 12 rfl)
     ·refine Zb rfl fun a _ _ _ B A => ?_;have e76 : a (.tmp 76) = _ := Zf A 0 rfl;have e77 : a (.tmp 77) = _ := Zf A 1 rfl;refine Zi ?_ rfl;clear A B;go_simp;all_goals go_arith
     ·refine Zb rfl fun a _ _ _ B A => ?_;have e78 : a (.tmp 78) = _ := Zf A 2 rfl;have z0 := (Below.cell B (Zu o0)).trans o0;refine Zi ?_ rfl;clear A B;go_simp;all_goals go_arith
     ·exact Zb rfl fun a _ _ _ _ A => Zs rfl (Zv A 10 rfl)
     ·exact Zb rfl fun a _ _ _ _ A => Zs rfl (Zv A 12 rfl)
     ·refine Zb rfl fun a _ _ _ B A => ?_;have e80 : a (.tmp 80) = _ := Zf A 4 rfl;have e81 : a (.tmp 81) = _ := Zf A 5 rfl;refine Zi ?_ rfl;clear A B;go_simp;all_goals go_arith
     ·refine Zb rfl fun a _ _ _ B A => ?_;have e82 : a (.tmp 82) = _ := Zf A 6 rfl;have z0 := (Below.cell B (Zu o1)).trans o1;refine Zi ?_ rfl;clear A B;go_simp;all_goals go_arith
     ·refine Zb rfl fun a _ _ _ B A => ?_;have e79 : a (.tmp 79) = _ := Zf A 3 rfl;have e83 : a (.tmp 83) = _ := Zf A 7 rfl;refine Zi ?_ rfl;clear A B;go_simp;all_goals go_arith
     ·exact Zb rfl fun a _ _ _ _ A => Zs rfl (Zf A 8 rfl)
     ·exact Zo 9 false rfl rfl rfl fun a _ _ _ _ A => Zs rfl (Zv A 7 rfl)
     ·exact Zo 9 false rfl rfl rfl fun a _ _ _ _ A => Zs rfl (Zv A 12 rfl)
     ·refine Zo 9 false rfl rfl rfl fun a _ _ _ B A => ?_;have e86 : a (.tmp 86) = _ := Zf A 10 rfl;have e87 : a (.tmp 87) = _ := Zf A 11 rfl;refine Zi ?_ rfl;clear A B;go_simp;all_goals go_arith
     ·refine Zo 9 false rfl rfl rfl fun a _ _ _ B A => ?_;have e88 : a (.tmp 88) = _ := Zf A 12 rfl;have z0 := (Below.cell B (Zu o2)).trans o2;refine Zi ?_ rfl;clear A B;go_simp;all_goals go_arith
     ·exact Zo 9 false rfl rfl rfl fun a _ _ _ _ A => Zs rfl (Zv A 11 rfl)
     ·exact Zo 9 false rfl rfl rfl fun a _ _ _ _ A => Zs rfl (Zv A 12 rfl)
     ·refine Zo 9 false rfl rfl rfl fun a _ _ _ B A => ?_;have e90 : a (.tmp 90) = _ := Zf A 14 rfl;have e91 : a (.tmp 91) = _ := Zf A 15 rfl;refine Zi ?_ rfl;clear A B;go_simp;all_goals go_arith
     ·refine Zo 9 false rfl rfl rfl fun a _ _ _ B A => ?_;have e92 : a (.tmp 92) = _ := Zf A 16 rfl;have z0 := (Below.cell B (Zu o3)).trans o3;refine Zi ?_ rfl;clear A B;go_simp;all_goals go_arith
     ·refine Zo 9 false rfl rfl rfl fun a _ _ _ B A => ?_;have e89 : a (.tmp 89) = _ := Zf A 13 rfl;have e93 : a (.tmp 93) = _ := Zf A 17 rfl;refine Zi ?_ rfl;clear A B;go_simp;all_goals go_arith
     ·refine Zb rfl fun a _ _ _ _ A => ?_;have ec : a (.tmp 85) = _ := Zf A 9 rfl;have e : a (.tmp 94) = _ := Zf A 18 rfl;exact Y3 rfl ec e
    ·intro vs w' hg ht;obtain ⟨(r76 : vs 0 = _), (r77 : vs 1 = _), (r78 : vs 2 = _), (r79 : vs 3 = _), (r80 : vs 4 = _), (r81 : vs 5 = _), (r82 : vs 6 = _), (r83 : vs 7 = _), (r84 : vs 8 = _), (r85 : vs 9 = _), (r86 : vs 10 = _), (r87 : vs 11 = _), (r88 : vs 12 = _), (r89 : vs 13 = _), (r90 : vs 14 = _), (r91 : vs 15 = _), (r92 : vs 16 = _), (r93 : vs 17 = _), (r94 : vs 18 = _), (r95 : vs 19 = _), -⟩ := ht;simp only [Yf, Act.put, List.setIfInBounds_toArray, List.set_cons_zero, List.set_cons_succ, r76, r77, r78, r79, r80, r81, r82, r83, r84, r85, r86, r87, r88, r89, r90, r91, r92, r93, r94, r95];clear r76 r77 r78 r79 r80 r81 r82 r83 r84 r85 r86 r87 r88 r89 r90 r91 r92 r93 r94 r95;have hgE := hgq.trans hg;clear hg hgq o0 o1 o2 o3;go_wp2_with fail;go_roundw
     case rel => exact ⟨k + 1, by omega, by go_num, hgE⟩
     case measure => simp [intOf]; omega
   ·have hZ6 := (hgq.block _ (Za hZ5)).trans hZ5;have hX6 := (hgq.block _ (Za hX5)).trans hX5;have hz6 := hz5.grow hgq;have gw6 := gw5.trans hgq;clear hY5 hZ5 hX5 hz5 he5 hn5 hf5 hm5 gw5 hgq;obtain ⟨z0, z1, z2, z3⟩ := Z4 hZ6 rfl rfl rfl rfl;obtain ⟨p0, p1, p2, p3, p4⟩ := Qb hX6 rfl rfl rfl rfl rfl;have p5 := Zd hX6 5 _ rfl;have p6 := Zd hX6 6 _ rfl;go_wp2_with fail;refine (PD (fun b => b < wr.heap.size) s x _ ad c wr (fun b h => h) hz6.now (Zes (hd.grow gw6)) HAT.out hdd).mono ?_;have HBA : Hid ((s.step x).st.At) := Za5 HAT.out;obtain ⟨B, hB⟩ : ∃ B, B = s.step x := ⟨_, rfl⟩;rw [← hB] at HBA ⊢;have HB : Hid _ := hB;clear hB;rintro r w7 ⟨v7, rfl, h7, g7⟩;obtain ⟨b7, e7, l7, m7, i7, j7, hv7, -, -, -⟩ := h7.form;subst hv7;have g8 := Zc w7 (.cells #[.slice b7 B.st.dk.blocks.length e7, .slice l7 B.st.dk.late.length m7, .slice i7 B.st.idx.length j7, .int .i64 B.st.next] 29);have hA8 := Zj w7 #[.slice b7 B.st.dk.blocks.length e7, .slice l7 B.st.dk.late.length m7, .slice i7 B.st.idx.length j7, .int .i64 B.st.next] 29;have gg := g7.trans g8;have ha8 := (h7.grow g8).any;have hZ8 := (gg.block _ (Za hZ6)).trans hZ6;have hX8 := (gg.block _ (Za hX6)).trans hX6;have hz8 := hz6.grow gg;have gw8 := gw6.trans gg;clear z0 z1 z2 z3 p0 p1 p2 p3 p4 p5 p6 hZ6 hX6 hz6 gw6 h7 g7 g8 gg;obtain ⟨z0, z1, z2, z3⟩ := Z4 hZ8 rfl rfl rfl rfl;obtain ⟨p0, p1, p2, p3, p4⟩ := Qb hX8 rfl rfl rfl rfl rfl;have p5 := Zd hX8 5 _ rfl;have p6 := Zd hX8 6 _ rfl;go_wp2_with fail
    obtain ⟨A, hA⟩ : ∃ A, A = w7.heap.size := ⟨_, rfl⟩;rw [← hA] at hA8 ⊢;clear hA z0 z1 z2 z3 p0 p1 p2 p3 p4 p5 p6;generalize World.alloc w7 _ = w8 at *;refine (Zd9 (fun b => b < w8.heap.size) s x _ ad c w8 (fun b h => h) hz8.now (Zes (hd.grow gw8)) HAT.out hdd).mono ?_;rw [← HB.out];rintro r w9 ⟨v9, rfl, h9, g9⟩;obtain ⟨b9, e9, l9, m9, i9, j9, hv9, -, -, -⟩ := h9.form;subst hv9;have gA := Zc w9 (.cells #[.slice b9 B.st.dk.blocks.length e9, .slice l9 B.st.dk.late.length m9, .slice i9 B.st.idx.length j9, .int .i64 B.st.next] 29);have hBA := Zj w9 #[.slice b9 B.st.dk.blocks.length e9, .slice l9 B.st.dk.late.length m9, .slice i9 B.st.idx.length j9, .int .i64 B.st.next] 29;have gg := g9.trans gA;have hb9 := (h9.grow gA).any;have hA9 := (gg.block _ (Za hA8)).trans hA8;have ha9 := ha8.grow gg;have gw9 := gw8.trans gg;clear hA8 hZ8 hX8 hz8 ha8 gw8 h9 g9 gA gg;obtain ⟨z0, z1, z2, z3⟩ := Z4 hA9 rfl rfl rfl rfl;obtain ⟨y0, y1, y2, y3⟩ := Z4 hBA rfl rfl rfl rfl;have d1 : (B.e == B.e) = true := by simp
    have d2 : (B.n == B.n) = true := by simp
    go_wp2_with fail;clear d1 d2 z0 z1 z2 z3 y0 y1 y2 y3;generalize World.alloc w9 _ = wA at *;obtain ⟨q1, q2, q3⟩ := Zix HBA.out;refine (Zf7 B.st B.st _ _ _ _ wA ha9 hb9 q1 q2 q3).mono ?_;rw [St.same_refl];rintro r wE ⟨rfl, gE0⟩;have gE := gw9.trans gE0;clear q1 q2 q3 hA9 hBA ha9 hb9 gw9 gE0;go_wp2_with fail;go_ret;exact ⟨rfl, gE⟩
 ·refine (PM l _ W0 (Z9.mono (hl.grow g0) fun _ _ => trivial) (by omega) hm).mono ?_;rintro r w1 ⟨rfl, g1⟩;have g2 := Zc w1 Y4;have hY2 := Zj w1 #[.slice none 0 0, .slice none 0 0, .slice none 0 0, .int .i64 0] 29;have gE := g0.trans (g1.trans g2);have y0 := Zd hY2 0 _ rfl;clear g0 g1 g2 hX0 hl hd hdl;go_wp2_with fail;go_ret;exact ⟨rfl, gE⟩
end Go.Proofs.YtpdnapbchcdhlacGreat
