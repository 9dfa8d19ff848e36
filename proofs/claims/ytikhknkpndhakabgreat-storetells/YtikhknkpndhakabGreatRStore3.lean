import Derived.Test.YtikhknkpndhakabGreatRBegin
set_option maxHeartbeats 8000000
namespace Go.Proofs.YtikhknkpndhakabGreat
set_option maxRecDepth 100000
open Go.RowKit
open Plain Reg
def St.doS (s : St) (d : Dd) : Zs3 := if (s.begin d).e = 0 then ⟨⟨(s.begin d).st.dk.flush, (s.begin d).st.idx, (s.begin d).st.next⟩, (s.begin d).n, 0⟩ else s.begin d
theorem Zd4 : ∀ (l m : List Nat), l.Nodup → (∀ x ∈ l, x ∈ m) → l.length ≤ m.length
 | [], _, _, _ => Nat.zero_le _
 | x :: l, m, hn, h => by
  obtain ⟨h1, h2⟩ := List.nodup_cons.1 hn;have hx := h x (by simp);have := Zd4 l (m.erase x) h2 fun y hy => (List.mem_erase_of_ne (by rintro rfl; exact h1 hy)).2 (h y (by simp [hy]))
  have := List.length_erase_of_mem hx;have := List.length_pos_of_mem hx;simp; omega
theorem Zpf {l : List Ent} {f : Nat} (h : Je l f) : f ≤ l.length := by
 have := Zd4 (List.range f) (l.map fun x => x.pair.toNat) List.nodup_range fun x hx => by
  obtain ⟨e, he, hp⟩ := h.1 x (by simpa using hx);exact List.mem_map.2 ⟨e, he, by rw [hp]; simp⟩
 simpa using this
theorem Zdv {l : List Ent} : ∀ (k p : Nat), (∀ m : Nat, m < p → Kz l (m : Int) = true) → l.length < p + k → Je l (Zao l k p) ∧ Zao l k p ≤ l.length
 | 0, p, h, hk => by
  exfalso;have := Zd4 (List.range p) (l.map fun x => x.pair.toNat) List.nodup_range fun x hx => by
   obtain ⟨e, he, hp⟩ := (Kg l _).1 (h x (by simpa using hx));exact List.mem_map.2 ⟨e, he, by rw [hp]; simp⟩
  simp at this;omega
 | k + 1, p, h, hk => by
  unfold Zao;by_cases hu : Kz l (p : Int) = true
  ·rw [if_pos hu];refine Zdv k (p + 1) (fun m hm => ?_) (by omega);by_cases e : m = p
   ·rw [e]; exact hu
   ·exact h m (by omega)
  ·rw [if_neg hu];have hL : Je l p := ⟨fun m hm => (Kg l _).1 (h m hm), fun x hx hp => hu ((Kg l _).2 ⟨x, hx, hp⟩)⟩;exact ⟨hL, Zpf hL⟩
theorem Zcd {l : List Ent} (h : l.length ≤ 6) : Je l (Qf l) ∧ Qf l ≤ l.length := Zdv 7 0 (fun m hm => by omega) (by omega)
theorem Zmo {l : List Ent} (h : Qc l = true) (p : Int) : Qc (Vk l p) = true := by
 obtain ⟨h1, h2⟩ := (Xr l).1 h;exact (Xr _).2 ⟨h1.filter _, fun x hx => h2 x ((List.mem_filter.1 hx).1)⟩
theorem Zfx {l : List Rec} {d : Dd} (hk : d.kind ≠ 3) (he : (doR l d).e = 0) : l.length ≤ 5 ∧ (doR l d).n = Ql l ∧ Ql l ≤ 60000 := by
 unfold doR at he ⊢;rw [if_neg hk] at he ⊢;by_cases h5 : 5 < l.length
 ·rw [if_pos h5] at he; cases he
 ·rw [if_neg h5] at he ⊢;by_cases h6 : 60000 < Ql l
  ·rw [if_pos h6] at he; cases he
  ·rw [if_neg h6]; exact ⟨by omega, rfl, by omega⟩
theorem St.Ok.mono {n m : Nat} {s : St} (h : s.Ok n) (hm : n ≤ m) : s.Ok m := ⟨h.disk.mono hm, h.right, h.six⟩
theorem Zae {n : Nat} {s : St} {d : Dd} (h : s.Ok n) : (s.begin d).st.Ok (n + 2) := by
 unfold St.begin;by_cases hw : Yq d = 0
 ·rw [if_neg (by simpa using hw)];by_cases he : (doR s.recs d).e = 0
  ·rw [if_neg (by simpa using he)];by_cases hk : d.kind = 3
   ·rw [if_pos hk];exact ⟨h.disk.pair _ _, Zmo h.right _, fun x hx => h.six x ((List.mem_filter.1 hx).1)⟩
   ·rw [if_neg hk];obtain ⟨h5, hn, h6⟩ := Zfx hk he;have hl5 : s.idx.length ≤ 5 := by simpa [St.recs] using h5
    obtain ⟨hL, hL5⟩ := Zcd (l := s.idx) (by omega);have hm := Zfd (n := (doR s.recs d).n) hw hk (by rw [hn]; exact Znn.1) (by rw [hn]; exact h6);refine ⟨h.disk.pair _ _, Zb4 h.right ⟨hm.1, hm.2, ?_, ?_⟩ hL.2, fun x hx => ?_⟩
    ·show (0 : Int) ≤ ((Qf s.idx : Nat) : Int); omega
    ·show ((Qf s.idx : Nat) : Int) ≤ 1000; omega
    ·rcases (Zdw _ _ _).1 hx with rfl | h1
     ·show ((Qf s.idx : Nat) : Int) < 6; omega
     ·exact h.six x h1
  ·rw [if_pos (by simpa using he)]; exact h.mono (by omega)
 ·rw [if_pos (by simpa using hw)]; exact h.mono (by omega)
theorem Zun {s : St} {d : Dd} (h : s.Ok 0) : (s.doS d).st.Ok 0 := by
 have hb := Zae (d := d) h;unfold St.doS;by_cases he : (s.begin d).e = 0
 ·rw [if_pos he]; exact ⟨hb.disk.flush, hb.right, hb.six⟩
 ·rw [if_neg he];unfold St.begin at he ⊢;by_cases hw : Yq d = 0
  ·rw [if_neg (by simpa using hw)] at he ⊢;by_cases hr : (doR s.recs d).e = 0
   ·rw [if_neg (by simpa using hr)] at he;exfalso;revert he;by_cases hk : d.kind = 3
    ·rw [if_pos hk]; exact fun h => h rfl
    ·rw [if_neg hk]; exact fun h => h rfl
   ·rw [if_pos (by simpa using hr)]; exact h
  ·rw [if_pos (by simpa using hw)]; exact h
theorem Zrw {n : Nat} {d : Dk} (h : d.Fine n) : (Qe d).Ok 0 :=
 ⟨h.kept 0, Zaj _ 6 (by omega), fun x hx => by
  obtain ⟨p, hp, _, rfl⟩ := (Za5 _ _ 6).1 hx;show ((p : Nat) : Int) < 6; omega⟩
theorem Zjj (S : Nat → Prop) (n : Nat) (s : St) (d : Dd) (v : Value) (ad : Option Addr) (c : Nat) (w : World) (hS : ∀ b, S b → b < w.heap.size) (hs : Z4 S s v w) (hd : Z0 S w (.slice ad d.data.length c) d.data) (hO : s.Ok n) (hn : n ≤ 900) (hdl : d.data.length ≤ 140737488355328) :
  Calls Tryz.prog 17 #[v, .agg #[.int .i64 d.kind, .int .i64 d.key, .int .i64 d.num, .slice ad d.data.length c]] w fun r w' => ∃ v', r = .returned (.tuple #[v', .int .i64 (s.doS d).n, .int .i64 (s.doS d).e]) ∧ Z4 (Zx S w.heap.size) (s.doS d).st v' w' ∧ Zp w w' := by
 obtain ⟨ab, cb, al, cl, ai, ci, rfl, -, -, -⟩ := hs.form;have g0 := (Zv w (.cells #[.slice ab s.dk.blocks.length cb, .slice al s.dk.late.length cl, .slice ai s.idx.length ci, .int .i64 s.next] 33) (.cells #[.int .i64 d.kind, .int .i64 d.key, .int .i64 d.num, .slice ad d.data.length c] 25)).trans (Zd _ Xc);have hs0 := Zn w #[.slice ab s.dk.blocks.length cb, .slice al s.dk.late.length cl, .slice ai s.idx.length ci, .int .i64 s.next] 33;have hd0 := Zn (w.alloc (.cells #[.slice ab s.dk.blocks.length cb, .slice al s.dk.late.length cl, .slice ai s.idx.length ci, .int .i64 s.next] 33)) #[.int .i64 d.kind, .int .i64 d.key, .int .i64 d.num, .slice ad d.data.length c] 25;have hz0 := Zn ((w.alloc (.cells #[.slice ab s.dk.blocks.length cb, .slice al s.dk.late.length cl, .slice ai s.idx.length ci, .int .i64 s.next] 33)).alloc (.cells #[.int .i64 d.kind, .int .i64 d.key, .int .i64 d.num, .slice ad d.data.length c] 25)) #[.slice none 0 0, .slice none 0 0, .slice none 0 0, .int .i64 0] 33;have hs1 := ((Zv (w.alloc (.cells #[.slice ab s.dk.blocks.length cb, .slice al s.dk.late.length cl, .slice ai s.idx.length ci, .int .i64 s.next] 33)) (.cells #[.int .i64 d.kind, .int .i64 d.key, .int .i64 d.num, .slice ad d.data.length c] 25) Xc).block _ (Zb hs0)).trans hs0
 have hd1 := ((Zd ((w.alloc (.cells #[.slice ab s.dk.blocks.length cb, .slice al s.dk.late.length cl, .slice ai s.idx.length ci, .int .i64 s.next] 33)).alloc (.cells #[.int .i64 d.kind, .int .i64 d.key, .int .i64 d.num, .slice ad d.data.length c] 25)) Xc).block _ (Zb hd0)).trans hd0;rw [World.size_alloc] at hd1;rw [World.size_alloc, World.size_alloc] at hz0;clear hs0 hd0;obtain ⟨B, hB⟩ : ∃ B, B = s.begin d := ⟨_, rfl⟩;obtain ⟨R, hR⟩ : ∃ R, R = s.doS d := ⟨_, rfl⟩;rw [← hR];have HR : Hid (R = if B.e = 0 then ⟨⟨B.st.dk.flush, B.st.idx, B.st.next⟩, B.n, 0⟩ else B) := by show R = _; rw [hR, hB]; rfl
 have HOB : Hid (B.st.Ok (n + 2)) := by rw [hB]; exact Zae hO
 have HB : Hid _ := hB;clear hR hB;go_enter Tryz.func17, Tryz.ntmps17;obtain ⟨d0, d1, d2, d3⟩ := Yb hd1 rfl rfl rfl rfl;obtain ⟨s0, s1, s2, s3⟩ := Yb hs1 rfl rfl rfl rfl;go_wp2_with fail;obtain ⟨W, hW⟩ : ∃ W, W = ((w.alloc (.cells #[.slice ab s.dk.blocks.length cb, .slice al s.dk.late.length cl, .slice ai s.idx.length ci, .int .i64 s.next] 33)).alloc (.cells #[.int .i64 d.kind, .int .i64 d.key, .int .i64 d.num, .slice ad d.data.length c] 25)).alloc Xc := ⟨_, rfl⟩;rw [← hW] at g0 hs1 hd1 hz0 d0 d1 d2 d3 s0 s1 s2 s3 ⊢;clear hW;have HWZ : Hid (w.heap.size + 2 < W.heap.size) := Zb hz0;refine (Zb9 S n s d _ ad c W (fun b h => Nat.lt_of_lt_of_le (hS b h) g0.size) (hs.grow g0) (hd.grow g0) hO hn hdl).mono ?_;rw [← HB.out];rintro r w1 ⟨v1, rfl, h1, g1⟩;have hs2 := (g1.block _ (Zb hs1)).trans hs1;have hz2 := (g1.block _ (Zb hz0)).trans hz0;have gw := g0.trans g1;obtain ⟨b1, e1, l1, m1, i1, j1, hv, k1, k2, k3⟩ := h1.form;subst hv;clear hs1 hd1 hz0 g0 g1 d0 d1 d2 d3 s0 s1 s2 s3 h1 hs;have hns : ¬ Zx S W.heap.size w.heap.size := Yl hS (by have := HWZ.out; omega);obtain ⟨hp1, hp2⟩ := Yn hs2 (.slice b1 B.st.dk.blocks.length e1) (.slice l1 B.st.dk.late.length m1) (.slice i1 B.st.idx.length j1) (.int .i64 B.st.next);obtain ⟨y0, y1, y2, y3⟩ := Yb hs2 rfl rfl rfl rfl;obtain ⟨f0, f1, f2, f3⟩ := Yu hs2;have cs := Zy;have hz3 := (hp2.block _ (Zb hz2) (by omega)).trans hz2;have gw3 := hp2.grow gw (Nat.le_refl _);have u1 := k1.but hp2 hns;have u2 := k2.but hp2 hns;have u3 := k3.but hp2 hns
 obtain ⟨x0, x1, x2, x3⟩ := Yb hp1 rfl rfl rfl rfl;clear hp2 hz2 gw k1 k2 k3 hs2;by_cases he : B.e = 0
 ·have dE : (B.e == 0) = true := by simp [he]
  obtain ⟨FD, hFD⟩ : ∃ FD, FD = B.st.dk.flush := ⟨_, rfl⟩;obtain rfl : R = ⟨⟨FD, B.st.idx, B.st.next⟩, B.n, 0⟩ := by rw [HR.out, if_pos he, hFD]
  have HFD : Hid _ := hFD;have HE0 : Hid (B.e = 0) := he;clear HR he hFD;go_wp2_with fail;clear y0 y1 y2 y3 f0 f1 f2 f3 dE;generalize (((w1.setCell ⟨w.heap.size, 0, none⟩ (.slice b1 B.st.dk.blocks.length e1)).setCell ⟨w.heap.size, 1, none⟩ (.slice l1 B.st.dk.late.length m1)).setCell ⟨w.heap.size, 2, none⟩ (.slice i1 B.st.idx.length j1)).setCell ⟨w.heap.size, 3, none⟩ (.int .i64 B.st.next) = W3 at *;have HW3 : Hid (w.heap.size + 2 < W3.heap.size) := Zb hz3;refine (Zey (fun b => Zx S W.heap.size b ∧ b < W3.heap.size) (n + 2) B.st.dk _ W3 (fun b h => h.2) ⟨_, _, rfl, u1.capd, u2.capd⟩ HOB.out.disk (by omega)).mono ?_;rw [← HFD.out];rintro r w4 ⟨v4, rfl, h4, g4⟩;obtain ⟨b4, e4, l4, m4, rfl, h4b, h4l⟩ := h4.form;have hs4 := (g4.block _ (Zb hp1)).trans hp1;have hz4 := (g4.block _ (Zb hz3)).trans hz3;have gw4 := gw3.trans g4;have u34 := u3.grow g4;clear x0 x1 x2 x3 hp1 hz3 gw3 g4 u1 u2 u3 h4;have hmx : ∀ b, Zx (fun b => Zx S W.heap.size b ∧ b < W3.heap.size) W3.heap.size b → Zx S (w.heap.size + 3) b := fun b h => h.elim (fun x => Ya HWZ.out _ x.1) (fun x => .inr (Nat.le_trans HW3.out x))
  have hns3 : ¬ Zx S (w.heap.size + 3) w.heap.size := Yl hS (by omega);have hnz3 : ¬ Zx S (w.heap.size + 3) (w.heap.size + 2) := Yl (fun b h => by have := hS b h; omega) (by omega);obtain ⟨ht1, ht2⟩ := Zbx hs4 (.slice b4 FD.blocks.length e4) (.slice l4 FD.late.length m4);have hz5 := (ht2.block _ (Zb hz4) (by omega)).trans hz4;have gw5 := ht2.grow gw4 (Nat.le_refl _);have p1 := (h4b.mono hmx).but ht2 hns3;have p2 := (h4l.mono hmx).but ht2 hns3;have p3 := (u34.mono (Ya HWZ.out)).but ht2 hns3;obtain ⟨y0, y1, y2, y3⟩ := Yb hs4 rfl rfl rfl rfl;have f0 := Zr hs4 0;have f1 := Zr hs4 1;obtain ⟨t0, t1, t2, t3⟩ := Yb ht1 rfl rfl rfl rfl;obtain ⟨hq1, hq2⟩ := Yn hz5 (.slice b4 FD.blocks.length e4) (.slice l4 FD.late.length m4) (.slice i1 B.st.idx.length j1) (.int .i64 B.st.next);obtain ⟨z0, z1, z2, z3⟩ := Yb hz5 rfl rfl rfl rfl;obtain ⟨o0, o1, o2, o3⟩ := Yu hz5;obtain ⟨x0, x1, x2, x3⟩ := Yb hq1 rfl rfl rfl rfl;have gE := hq2.grow gw5 (by omega);have hE : Z4 (Zx S w.heap.size) ⟨FD, B.st.idx, B.st.next⟩ (.agg #[.slice b4 FD.blocks.length e4, .slice l4 FD.late.length m4, .slice i1 B.st.idx.length j1, .int .i64 B.st.next]) _ := ⟨_, _, _, rfl, (p1.but hq2 hnz3).mono (Ya (by omega)), (p2.but hq2 hnz3).mono (Ya (by omega)), (p3.but hq2 hnz3).mono (Ya (by omega))⟩;clear hq1 hq2 hz5 gw5 p1 p2 p3 ht1 ht2 hs4 hz4 gw4 h4b h4l u34;go_wp2_with fail
  exact bodyPost_ret (v := .tuple #[.agg #[.slice b4 FD.blocks.length e4, .slice l4 FD.late.length m4, .slice i1 B.st.idx.length j1, .int .i64 B.st.next], .int .i64 B.n, .int .i64 B.e]) (by simp [results, Tryz.results17, go_sem, x0, x1, x2, x3]) rfl ⟨_, by rw [HE0.out], hE, gE⟩
 ·have dE : (B.e == 0) = false := by simp [he]
  obtain rfl : R = B := by rw [HR.out, if_neg he]
  clear HR he HB;have hnz : ¬ Zx S W.heap.size (w.heap.size + 2) := Yl (fun b h => by have := hS b h; omega) HWZ.out;obtain ⟨hq1, hq2⟩ := Yn hz3 (.slice b1 R.st.dk.blocks.length e1) (.slice l1 R.st.dk.late.length m1) (.slice i1 R.st.idx.length j1) (.int .i64 R.st.next);obtain ⟨z0, z1, z2, z3⟩ := Yb hz3 rfl rfl rfl rfl;obtain ⟨o0, o1, o2, o3⟩ := Yu hz3;obtain ⟨t0, t1, t2, t3⟩ := Yb hq1 rfl rfl rfl rfl;have gE := hq2.grow gw3 (by omega);have hE : Z4 (Zx S w.heap.size) R.st (.agg #[.slice b1 R.st.dk.blocks.length e1, .slice l1 R.st.dk.late.length m1, .slice i1 R.st.idx.length j1, .int .i64 R.st.next]) _ := ⟨_, _, _, rfl, (u1.but hq2 hnz).mono (Ya (by have := HWZ.out; omega)), (u2.but hq2 hnz).mono (Ya (by have := HWZ.out; omega)), (u3.but hq2 hnz).mono (Ya (by have := HWZ.out; omega))⟩;clear hq1 hq2 hz3 gw3 u1 u2 u3 hp1;go_wp2_with fail;exact bodyPost_ret (v := .tuple #[.agg #[.slice b1 R.st.dk.blocks.length e1, .slice l1 R.st.dk.late.length m1, .slice i1 R.st.idx.length j1, .int .i64 R.st.next], .int .i64 R.n, .int .i64 R.e]) (by simp [results, Tryz.results17, go_sem, t0, t1, t2, t3]) rfl ⟨_, rfl, hE, gE⟩
def Xt : Qn Int where
 T := 3
 size := 1
 enc _ _ x cs := cs = [.int .i64 x]
 len := by rintro S w x cs rfl; rfl
 keep := by rintro S w w' x cs rfl _; rfl
 mono := by rintro S S' w x cs rfl _; rfl
 cap := by rintro S w x cs rfl; rfl
 one := by
  rintro S w x cs rfl c hc;rw [List.mem_singleton.1 hc]; rfl
theorem Zdh : (Tryz.prog.info? 3).map (fun i => (i.zero, i.size, i.bytes)) = some (some (.int .i64 0), 1, 8) := by kernel_rfl
def Xs (l : List Rec) (fr most : Int) : Nat → List Int
 | 0 => []
 | k + 1 => if (Ve l ((k : Int) + 1)).e = 0 ∧ fr ≤ (k : Int) + 1 ∧ ((Xs l fr most k).length : Int) < most then Xs l fr most k ++ [(k : Int) + 1] else Xs l fr most k
theorem Zcb (l : List Rec) (fr most : Int) : ∀ k, (Xs l fr most k).length ≤ k
 | 0 => Nat.le_refl _
 | k + 1 => by
  have := Zcb l fr most k;unfold Xs;split
  ·simp; omega
  ·omega
theorem Zok (S : Nat → Prop) (s : St) (fr most : Int) (v : Value) (w : World) (hS : ∀ b, S b → b < w.heap.size) (hs : Z4 S s v w) (hn : s.idx.length ≤ 1000) :
  Calls Tryz.prog 22 #[v, .int .i64 fr, .int .i64 most] w fun r w' => ∃ v' css, r = .returned v' ∧ Yr Xt (fun _ => False) w.heap.size v' (Xs s.recs fr most 255) css w' ∧ Zp w w' := by
 obtain ⟨i0, hif, hz0, hz1, hz2⟩ := info_parts Zdh;obtain ⟨ab, cb, al, cl, ai, ci, rfl, -, -, -⟩ := hs.form;have g0 := Zd w (.cells #[.slice ab s.dk.blocks.length cb, .slice al s.dk.late.length cl, .slice ai s.idx.length ci, .int .i64 s.next] 33);have hx := Zn w #[.slice ab s.dk.blocks.length cb, .slice al s.dk.late.length cl, .slice ai s.idx.length ci, .int .i64 s.next] 33;have hrl : s.recs.length ≤ 1000 := by unfold St.recs; rw [List.length_map]; exact hn
 go_enter Tryz.func22, Tryz.ntmps22;go_wp2_with fail;generalize World.alloc w _ = W at *;go_loopw [7, 8] (fun o i wr => ∃ (k : Nat) (css : List (List Value)), k ≤ 255 ∧ i = .int .i64 ((k : Int) + 1) ∧ Yr Xt (fun _ => False) (w.heap.size + 1) o (Xs s.recs fr most k) css wr ∧ Zp w wr ∧ wr.heap[w.heap.size]? = some (.cells #[.slice ab s.dk.blocks.length cb, .slice al s.dk.late.length cl, .slice ai s.idx.length ci, .int .i64 s.next] 33 (0, 0))) (fun _ i _ => 256 - (intOf i).toNat)
 case atStart => exact ⟨0, [], by omega, rfl, Yr.nil _ _ _ _, g0, hx⟩
 case round =>
  clear g0 hx;obtain ⟨k, css, hk, rfl, hR, hg, hx⟩ := hrel;by_cases hlt : k < 255
  ·have HL : Hid (Xs s.recs fr most (k + 1) = if (Ve s.recs ((k : Int) + 1)).e = 0 ∧ fr ≤ (k : Int) + 1 ∧ ((Xs s.recs fr most k).length : Int) < most then Xs s.recs fr most k ++ [(k : Int) + 1] else Xs s.recs fr most k) := rfl;have hll := Zcb s.recs fr most k;generalize Xs s.recs fr most k = xs at *;obtain ⟨a0, c0, rfl⟩ := hR.form;obtain ⟨s0, s1, s2, s3⟩ := Yb hx rfl rfl rfl rfl;go_wp2_with fail;refine (Kt S s _ wr (fun b h => Nat.lt_of_lt_of_le (hS b h) hg.size) (hs.grow hg) hn).mono ?_;rintro r w1 ⟨v1, rfl, h1, g1⟩;obtain ⟨a1, c1, rfl⟩ := h1.form;clear s0 s1 s2 s3;go_wp2_with fail;refine (Zg6 (Zx S wr.heap.size) s.recs ((k : Int) + 1) _ w1 h1 (by omega)).mono ?_;rintro r w2 ⟨u2, rfl, hu2, g2⟩;obtain ⟨a2, c2, rfl⟩ := hu2.form;have hR3 := (hR.grow g1).grow g2;have gw3 := (hg.trans g1).trans g2;have hs3 := (g2.block _ (Zb ((g1.block _ (Zb hx)).trans hx))).trans ((g1.block _ (Zb hx)).trans hx);obtain ⟨G, hG⟩ : ∃ G, G = Ve s.recs ((k : Int) + 1) := ⟨_, rfl⟩;rw [← hG] at HL ⊢;clear h1 hu2 hR hg hx g1 g2 hG;by_cases he : G.e = 0
   ·have dE : (G.e == 0) = true := by simp [he]
    by_cases hf : fr ≤ (k : Int) + 1
    ·by_cases hm : (xs.length : Int) < most
     ·have HL2 : Hid (Xs s.recs fr most (k + 1) = xs ++ [(k : Int) + 1]) := by show _ = _; rw [HL.out, if_pos ⟨he, hf, hm⟩]
      have HSZ : Hid (w.heap.size + 1 ≤ w2.heap.size) := Zb hs3;have hnew : ∀ (t : Nat) u, ([.int .i64 ((k : Int) + 1)] : List Value)[t]? = some u → (w2.alloc (.cells #[.int .i64 ((k : Int) + 1)] 3)).cell? ((⟨w2.heap.size, 0, none⟩ : Addr).add t) = some u := by
       intro t u ht
       match t, ht with
       | 0, ht => simp at ht; subst ht; simp [Addr.add]
       | t + 1, ht => simp at ht
      clear HL he;go_wp2_with (at_builtin; refine wpList_append_own _ rfl (.tmp 35) (.tmp 37) 36 rfl (w.heap.size + 1) 3 i0 (.int .i64 0) 1 8 Tryz.underlying36 hif hz0 hz1 hz2 rfl (by decide) (.slice a0 xs.length c0) _ _ rfl (hR3.row.alloc _) ⟨w2.heap.size, 0, none⟩ 1 1 [.int .i64 ((k : Int) + 1)] rfl rfl hnew (by intro u hu; simp at hu; subst hu; rfl) (by unfold maxLen; omega) (by omega) (by have := HSZ.out; simp; omega) ?_; intro v4 w4 hown4 hgrow4 _; have hR6 := hR3.step (x := (k : Int) + 1) (by decide) (fun b h => h.elim) rfl hgrow4 hown4; have g6 : Zp w w4 := Z7 (gw3.trans (Zd _ _)) hgrow4 (fun k hk => by have := (hR3.row.lt k hk).1; omega); have hs6 := (Xx hR3.row hgrow4 (V6 hR3.row (by omega)) (Zb hs3)).trans hs3; have hsl := Z8 hown4; obtain ⟨a4, c4, hv4⟩ := hsl; subst hv4; clear hgrow4 hown4 hR3 hnew gw3 hs3);go_roundw
      case rel => exact ⟨k + 1, _, by omega, by go_num, by rw [HL2.out]; exact hR6, g6, hs6⟩
      case measure => simp [intOf]; omega
     ·have HL2 : Hid (Xs s.recs fr most (k + 1) = xs) := by show _ = _; rw [HL.out, if_neg (fun h => hm h.2.2)]
      clear HL he;go_wp2_with fail;go_roundw
      case rel => exact ⟨k + 1, css, by omega, by go_num, by rw [HL2.out]; exact hR3, gw3, hs3⟩
      case measure => simp [intOf]; omega
    ·have HL2 : Hid (Xs s.recs fr most (k + 1) = xs) := by show _ = _; rw [HL.out, if_neg (fun h => hf h.2.1)]
     clear HL he;go_wp2_with fail;go_roundw
     case rel => exact ⟨k + 1, css, by omega, by go_num, by rw [HL2.out]; exact hR3, gw3, hs3⟩
     case measure => simp [intOf]; omega
   ·have dE : (G.e == 0) = false := by simp [he]
    have HL2 : Hid (Xs s.recs fr most (k + 1) = xs) := by show _ = _; rw [HL.out, if_neg (fun h => he h.1)]
    clear HL he;go_wp2_with fail;go_roundw
    case rel => exact ⟨k + 1, css, by omega, by go_num, by rw [HL2.out]; exact hR3, gw3, hs3⟩
    case measure => simp [intOf]; omega
  ·have hRE : ∃ css, Yr Xt (fun _ => False) w.heap.size _ (Xs s.recs fr most 255) css wr := ⟨css, by
    have e : k = 255 := by omega
    subst e;exact ⟨hR.len, fun i hi => (hR.each i hi).imp fun _ x => ⟨x.1, x.2⟩, Ye hR.row (by omega)⟩⟩
   obtain ⟨css2, hE⟩ := hRE;clear hR;obtain ⟨a4, c4, rfl⟩ := hE.form;go_wp2_with fail;go_ret;exact ⟨_, _, rfl, hE, hg⟩
end Go.Proofs.YtikhknkpndhakabGreat
