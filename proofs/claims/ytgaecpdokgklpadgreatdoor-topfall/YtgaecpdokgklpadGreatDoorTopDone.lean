import Derived.Test.YtgaecpdokgklpadGreatDoorTxtC
set_option maxHeartbeats 8000000
namespace Go.Proofs.YtgaecpdokgklpadGreatDoor
set_option maxRecDepth 100000
open Go.RowKit
open Plain Reg
def Zco : Xz (List UInt8) where
 T := 9
 size := 1
 enc _ _ x cs := cs = [.string ⟨x.toArray⟩]
 len := by rintro S w x cs rfl; rfl
 keep := by rintro S w w' x cs rfl _; rfl
 mono := by rintro S S' w x cs rfl _; rfl
 cap := by rintro S w x cs rfl; rfl
 one := by
  rintro S w x cs rfl c hc;simp only [List.mem_cons, List.not_mem_nil, or_false] at hc;subst hc; rfl
theorem Zuw {S : Nat → Prop} {w : World} {ao : Option Addr} {n cap : Nat} {l : List (List UInt8)} (h : Z4 Zco S w (.slice ao n cap) l) (i : Nat) (hi : i < l.length) : ∃ b off, ao = some ⟨b, off, none⟩ ∧ w.cell? ⟨b, off + i, none⟩ = some (.string ⟨l[i].toArray⟩) := by
 obtain ⟨b, off, rfl, _, cs, hcs, hc⟩ := h.at i hi;have hcs' : cs = [.string ⟨l[i].toArray⟩] := hcs;subst hcs';have h0 : w.cell? ⟨b, off + i * 1 + 0, none⟩ = some (.string ⟨l[i].toArray⟩) := hc 0 _ rfl;exact ⟨b, off, rfl, by simpa using h0⟩
def Xk (ds : List Dd) : St := ds.foldl (fun s d => (s.doS d).st) Vv
theorem Zla (ds : List Dd) {k : Nat} (h : k < ds.length) : Xk (ds.take (k + 1)) = ((Xk (ds.take k)).doS ds[k]).st := by
 unfold Xk;rw [List.take_succ_eq_append_getElem h, List.foldl_append]; rfl
theorem Zf9 : ∀ (ds : List Dd) (s : St), s.Inv → (ds.foldl (fun s d => (s.doS d).st) s).Inv
 | [], _, h => h
 | d :: ds, _, h => Zf9 ds _ (Zd3 h d)
structure Zgk (ts : List (List UInt8)) (ds : List Dd) : Prop where
 len : ts.length = ds.length
 short : ∀ t ∈ ts, t.length ≤ 1000
 small : ∀ d ∈ ds, d.data.length ≤ 1000
 parse : ∀ (k : Nat) (t : List UInt8) (d : Dd), ts[k]? = some t → ds[k]? = some d → Kw t = (d, 0)
 e : ∀ (k : Nat) (d : Dd), ds[k]? = some d → ((Xk (ds.take k)).doS d).e = 0
theorem Znn {w : World} {v : Value} {l : List UInt8} {P : Nat → Prop} (h : Bytes w v l) (hP : ∀ b off x, w.cell? ⟨b, off, none⟩ = some (.int .u8 x) → P b) : Z3 P w v l := by
 rcases h with h | ⟨b, off, cap, h1, h2, hc⟩
 ·exact .inl h
 ·by_cases h0 : l = []
  ·subst h0;exact .inl ⟨_, cap, h1, rfl, fun h => by cases h⟩
  ·exact .inr ⟨b, off, cap, hP b _ _ (hc 0 (List.length_pos_iff.2 h0)), h1, h2, hc⟩
theorem Zg9 {w : World} {G : Nat} {a0 a1 a2 : Option Addr} {n0 n1 n2 c0 c1 c2 : Nat} {x : Int} {T : TypeId} {f : Nat × Nat} (h : w.heap[G]? = some (.cells #[.slice a0 n0 c0, .slice a1 n1 c1, .slice a2 n2 c2, .int .i64 x] T f)) {b off : Nat} {y : Int} (hb : w.cell? ⟨b, off, none⟩ = some (.int .u8 y)) : b ≠ G := by
 rintro rfl;have e : w.cell? ⟨b, off, none⟩ = (#[.slice a0 n0 c0, .slice a1 n1 c1, .slice a2 n2 c2, .int .i64 x] : Array Value)[off]? := by
  cases hx : (#[.slice a0 n0 c0, .slice a1 n1 c1, .slice a2 n2 c2, .int .i64 x] : Array Value)[off]? with
  | some u => exact Zh h off u hx
  | none =>
   exfalso;simp only [World.cell?, h] at hb;rw [hx] at hb;cases hb
 rw [e] at hb
 match off, hb with
 | 0, hb => cases hb
 | 1, hb => cases hb
 | 2, hb => cases hb
 | 3, hb => simp at hb
 | k + 4, hb => simp at hb
def Za8 (V : World → Prop) : Prop := ∀ (ts : List (List UInt8)) (ds : List Dd) (v : Value) (w : World), V w → Z4 Zco (fun _ => True) w v ts → Zgk ts ds → ts.length ≤ 100 →
 Calls Tryz.prog 7 #[v] w fun r w' => ∃ v', r = .returned (.tuple #[v', .bool true]) ∧ Zw (fun _ => True) (Xk ds) v' w' ∧ Zj w w'
theorem Zl4 (V : World → Prop) (hV : ∀ w w', V w → Zj w w' → V w') (SN : Zuf) (PD : Zgi [1]) (TR : Zi8 V) : Za8 V := by
 intro ts ds v w hVw hts hOk hm;have HOK : Hid (Zgk ts ds) := hOk;have HLD : Hid (ts.length = ds.length) := hOk.len;clear hOk;obtain ⟨ao, cp, rfl⟩ := Z4.form hts;have g0 := Zd w Y0;have hR0 := Zk w #[.slice none 0 0, .slice none 0 0, .slice none 0 0, .int .i64 0] 30;obtain ⟨D, hD⟩ : ∃ D, D = Xk ds := ⟨_, rfl⟩;rw [← hD];have HD : Hid _ := hD;clear hD;go_enter Tryz.func7, Tryz.ntmps7;go_wp2_with fail;refine (SN (fun _ => False) (w.alloc Y0) (fun b h => h.elim)).mono ?_;have H0 : Hid (Xk (ds.take 0) = Vv) := rfl;have HA0 : Hid ((Xk (ds.take 0)).Inv) := Zbm;rw [← H0.out];clear H0;obtain ⟨s0, hs0⟩ : ∃ s0, s0 = Xk (ds.take 0) := ⟨_, rfl⟩;rw [← hs0] at HA0 ⊢;have HS0 : Hid (Xk (ds.take 0) = s0) := hs0.symm;clear hs0;rintro r w1 ⟨v1, rfl, h1, g1⟩;obtain ⟨b1, e1, l1, m1, i1, j1, hv1, -, -, -⟩ := h1.form;subst hv1;rw [World.size_alloc] at h1;obtain ⟨G, hG⟩ : ∃ G, G = w1.heap.size := ⟨_, rfl⟩;have g2 := Zd w1 (.cells #[.slice b1 s0.dk.blocks.length e1, .slice l1 s0.dk.late.length m1, .slice i1 s0.idx.length j1, .int .i64 s0.next] 30);have hY2 := Zk w1 #[.slice b1 s0.dk.blocks.length e1, .slice l1 s0.dk.late.length m1, .slice i1 s0.idx.length j1, .int .i64 s0.next] 30;have hR2 := ((g1.trans g2).block _ (Zb hR0)).trans hR0;have gw2 := g0.trans (g1.trans g2);have hwG : w.heap.size < G := by have := g1.size; rw [World.size_alloc] at this; omega
 have hS2 : Zw (fun b => b ≠ G ∧ b ≠ w.heap.size) s0 (.agg #[.slice b1 s0.dk.blocks.length e1, .slice l1 s0.dk.late.length m1, .slice i1 s0.idx.length j1, .int .i64 s0.next]) (w1.alloc (.cells #[.slice b1 s0.dk.blocks.length e1, .slice l1 s0.dk.late.length m1, .slice i1 s0.idx.length j1, .int .i64 s0.next] 30)) := (h1.capd.grow g2).mono (by
  rintro b ⟨h | h, hb⟩
  ·exact h.elim
  ·show b ≠ G ∧ b ≠ w.heap.size; omega)
 rw [← hG] at hY2;have HG : Hid _ := hG;clear h1 g0 g1 g2 hR0 hG;go_wp2_with fail;rw [← HG.out];clear HG;generalize World.alloc w1 _ = w2 at *;go_loopw [15] (fun i wr => ∃ (k : Nat) (s : St) (b1 : Option Addr) (e1 : Nat) (l1 : Option Addr) (m1 : Nat) (i1 : Option Addr) (j1 : Nat), k ≤ ts.length ∧ i = .int .i64 (k : Int) ∧ Hid (Xk (ds.take k) = s) ∧ Hid s.Inv ∧ wr.heap[w.heap.size]? = some Y0 ∧ wr.heap[G]? = some (.cells #[.slice b1 s.dk.blocks.length e1, .slice l1 s.dk.late.length m1, .slice i1 s.idx.length j1, .int .i64 s.next] 30 (0, 0)) ∧ Zw (fun b => b ≠ G ∧ b ≠ w.heap.size) s (.agg #[.slice b1 s.dk.blocks.length e1, .slice l1 s.dk.late.length m1, .slice i1 s.idx.length j1, .int .i64 s.next]) wr ∧ Zj w wr) (fun i _ => ts.length - (intOf i).toNat)
 case atStart => exact ⟨0, s0, b1, e1, l1, m1, i1, j1, by omega, rfl, HS0, HA0, hR2, hY2, hS2, gw2⟩
 case round =>
  clear hR2 hY2 hS2 gw2 HS0 HA0;obtain ⟨k, s, b1, e1, l1, m1, i1, j1, hk, rfl, HS, HA, hR, hY, hS, gw⟩ := hrel;by_cases hlt : k < ts.length
  ·obtain ⟨bt, ot, hao, q0⟩ := Zuw (Z4.grow hts gw) k hlt;cases hao;have hkd : k < ds.length := by rw [← HLD.out]; exact hlt
   have HPA : Hid (Kw ts[k] = (ds[k], 0)) := HOK.out.parse k _ _ (List.getElem?_eq_getElem hlt) (List.getElem?_eq_getElem hkd);have HEE : Hid ((s.doS ds[k]).e = 0) := by rw [← HS.out]; exact HOK.out.e k _ (List.getElem?_eq_getElem hkd)
   have HNX : Hid (Xk (ds.take (k + 1)) = (s.doS ds[k]).st) := by show _ = _; rw [Zla ds hkd, HS.out]
   have HTL : Hid (ts[k].length ≤ 1000) := HOK.out.short _ (List.getElem_mem hlt);have HDL : Hid (ds[k].data.length ≤ 1000) := HOK.out.small _ (List.getElem_mem hkd);generalize ts[k] = t at *;generalize ds[k] = d at *;clear hkd;go_wp2_with fail;refine (TR t wr (hV _ _ hVw gw) (by have := HTL.out; omega)).mono ?_;rw [HPA.out];rintro r w4 ⟨v4, rfl, ⟨ad, cd, hv4, hbd⟩, g4⟩;simp only at hv4 hbd;subst hv4;have g5 := Zd w4 (.cells #[.int .i64 d.kind, .int .i64 d.key, .int .i64 d.num, .slice ad d.data.length cd] 40);have hD5 := Zk w4 #[.int .i64 d.kind, .int .i64 d.key, .int .i64 d.num, .slice ad d.data.length cd] 40;have gg := g4.trans g5;have hR5 := (gg.block _ (Zb hR)).trans hR;have hY5 := (gg.block _ (Zb hY)).trans hY;have hS5 := hS.grow gg;have hb5 := Z0 hbd g5;have gw5 := gw.trans gg;clear hR hY hS gw hbd g4 g5 gg q0;obtain ⟨y0, y1, y2, y3⟩ := Z8 hY5 rfl rfl rfl rfl;obtain ⟨p0, p1, p2, p3⟩ := Z8 hD5 rfl rfl rfl rfl;go_wp2_with fail;clear y0 y1 y2 y3 p0 p1 p2 p3 hD5;generalize World.alloc w4 _ = w5 at *;have hG5 : G < w5.heap.size := Zb hY5;refine (PD (fun b => (b ≠ G ∧ b ≠ w.heap.size) ∧ b < w5.heap.size) s ⟨1, 0, 0, d⟩ _ ad cd w5 (show (1 : Int) ∈ ([1] : List Int) by decide) (fun b h => h.2) hS5.capd (Znn hb5 (fun b off x hx => ⟨⟨Zg9 hY5 hx, Zg9 hR5 hx⟩, Zs hx⟩)) HA.out.at' (by have := HDL.out; show d.data.length ≤ _; omega)).mono ?_;rw [show s.step ⟨1, 0, 0, d⟩ = s.doS d from if_pos rfl];have HBI : Hid ((s.doS d).st.Inv) := Zd3 HA.out d;rw [HEE.out];clear HEE
   generalize s.doS d = B at *;rintro r w6 ⟨v6, rfl, h6, g6⟩;obtain ⟨b6, e6, l6, m6, i6, j6, hv6, -, -, -⟩ := h6.form;subst hv6;have h6' : Zw (fun b => b ≠ G ∧ b ≠ w.heap.size) B.st (.agg #[.slice b6 B.st.dk.blocks.length e6, .slice l6 B.st.dk.late.length m6, .slice i6 B.st.idx.length j6, .int .i64 B.st.next]) w6 := h6.mono (by
    rintro b (h | h)
    ·exact h.1
    ·show b ≠ G ∧ b ≠ w.heap.size; omega)
   have g7 := Zd w6 (.cells #[.slice b6 B.st.dk.blocks.length e6, .slice l6 B.st.dk.late.length m6, .slice i6 B.st.idx.length j6, .int .i64 B.st.next] 30);have hZ7 := Zk w6 #[.slice b6 B.st.dk.blocks.length e6, .slice l6 B.st.dk.late.length m6, .slice i6 B.st.idx.length j6, .int .i64 B.st.next] 30;have gg := g6.trans g7;have hR7 := (gg.block _ (Zb hR5)).trans hR5;have hY7 := (gg.block _ (Zb hY5)).trans hY5;have hS7 := h6'.grow g7;have gw7 := gw5.trans gg;have hG6 : G < w6.heap.size := Nat.lt_of_lt_of_le hG5 g6.size;clear h6 h6' g6 g7 gg hR5 hY5 hS5 gw5 hb5 hG5;go_upto_region 11 with fail
   obtain ⟨Z, hZ⟩ : ∃ Z, Z = w6.heap.size := ⟨_, rfl⟩;rw [← hZ] at hZ7 ⊢;clear hZ hG6;generalize World.alloc w6 _ = w7 at *;obtain ⟨hp1, hp2⟩ := Yg hY7 (.slice b6 B.st.dk.blocks.length e6) (.slice l6 B.st.dk.late.length m6) (.slice i6 B.st.idx.length j6) (.int .i64 B.st.next);have hR8 := (hp2.block _ (Zb hR7) (by omega)).trans hR7;have hS8 := hS7.but hp2 (fun h => h.1 rfl);have gw8 := hp2.grow gw7 (by omega);obtain ⟨z0, z1, z2, z3⟩ := Z8 hZ7 rfl rfl rfl rfl;obtain ⟨y0, y1, y2, y3⟩ := Z8 hY7 rfl rfl rfl rfl;obtain ⟨f0, f1, f2, f3⟩ := Yw hY7;have cs := Zv;clear hp2 hR7 hY7 hZ7 hS7 gw7;go_wp2_with fail;go_roundw
   case rel => exact ⟨k + 1, B.st, b6, e6, l6, m6, i6, j6, by omega, by go_num, HNX, HBI, hR8, hp1, hS8, gw8⟩
   case measure => simp [intOf]; omega
  ·have HE : Hid (Xk ds = s) := by
    show _ = _;rw [← HS.out, List.take_of_length_le (by rw [← HLD.out]; omega)]
   obtain rfl : D = s := by rw [HD.out, HE.out]
   clear HE HS;obtain ⟨hq1, hq2⟩ := Yg hR (.slice b1 D.dk.blocks.length e1) (.slice l1 D.dk.late.length m1) (.slice i1 D.idx.length j1) (.int .i64 D.next);obtain ⟨x0, x1, x2, x3⟩ := Z8 hq1 rfl rfl rfl rfl;obtain ⟨z0, z1, z2, z3⟩ := Z8 hR rfl rfl rfl rfl;obtain ⟨o0, o1, o2, o3⟩ := Yw hR;obtain ⟨y0, y1, y2, y3⟩ := Z8 hY rfl rfl rfl rfl;have cs := Zv;have gE := hq2.grow gw (Nat.le_refl _);have hE := (hS.but hq2 (fun h => h.2 rfl)).any;clear hq1 hq2 hR hY hS gw;go_wp2_with fail;exact bodyPost_ret (v := .tuple #[.agg #[.slice b1 D.dk.blocks.length e1, .slice l1 D.dk.late.length m1, .slice i1 D.idx.length j1, .int .i64 D.next], .bool true]) (by simp [results, Tryz.results7, go_sem, x0, x1, x2, x3]) rfl ⟨_, rfl, hE, gE⟩
end Go.Proofs.YtgaecpdokgklpadGreatDoor
