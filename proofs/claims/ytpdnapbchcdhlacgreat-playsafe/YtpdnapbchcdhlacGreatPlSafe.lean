import Derived.Test.YtpdnapbchcdhlacGreatRStepA
import Derived.Deep.CutBlock
set_option maxHeartbeats 8000000
namespace Go.Proofs.YtpdnapbchcdhlacGreat
set_option maxRecDepth 100000
open Go.RowKit
open Plain Reg
theorem Zpk (s : St) (d : Dd) : s.step ⟨1, 0, 0, d⟩ = s.doS d := if_pos rfl
theorem Zwf {s : St} {d : Dd} (h : (s.doS d).e ≠ 0) : (s.doS d).n = 0 := by
 by_cases he : (s.begin d).e = 0
 ·unfold St.doS at h;rw [if_pos he] at h;exact absurd rfl h
 ·unfold St.doS;rw [if_neg he];exact (Zeh he).2.1
theorem Zth {α : Type} {l : List α} {x : α} {k : Nat} (h : x ∈ l.drop k) (hk : k < l.length) : l[k] = x ∨ x ∈ l.drop (k + 1) := by
 rw [List.drop_eq_getElem_cons hk] at h;rcases List.mem_cons.1 h with h | h
 ·exact .inl h.symm
 ·exact .inr h
theorem Zkj (AL : Zg6) (PD : Zuh) (l : List Sp) (d : Dd) (more : List Sp) (v : Value) (ad : Option Addr) (c : Nat) (u : Value) (w : World) (hl : Zbf (fun b => b < w.heap.size) w v l) (hd : Z0 (fun b => b < w.heap.size) w (.slice ad d.data.length c) d.data) (hmr : Zbf (fun b => b < w.heap.size) w u more) (hm : l.length ≤ 140737488355328) (hdl : ∀ x ∈ l, x.deed.data.length ≤ 140737488355328) (hdd : d.data.length ≤ 140737488355328) (hdm : ∀ x ∈ more, x.deed.data.length ≤ 140737488355328) :
  Calls Tryz.prog 6 #[v, .agg #[.int .i64 d.kind, .int .i64 d.key, .int .i64 d.num, .slice ad d.data.length c], u] w fun r w' => r = .returned (.bool true) ∧ Zn w w' := by
 obtain ⟨ao, cp, rfl⟩ := hl.form;obtain ⟨am, cm, rfl⟩ := hmr.form;have g0 := Zb w (.cells #[.int .i64 d.kind, .int .i64 d.key, .int .i64 d.num, .slice ad d.data.length c] 47);have hD0 := Zg w #[.int .i64 d.kind, .int .i64 d.key, .int .i64 d.num, .slice ad d.data.length c] 47;go_enter Tryz.func6, Tryz.ntmps6;go_wp2_with fail;refine (AL _).mono ?_;rintro r w1 ⟨rfl, g1⟩;have hD1 := (g1.block _ (Za hD0)).trans hD0;have gw1 := g0.trans g1;clear g0 g1 hD0;have p0 := Zc hD1 0 _ rfl;by_cases hmo : more.length ≤ 60
 ·by_cases hk : d.kind = 3
  ·have d3 : (d.kind == 3) = true := by simp [hk]
   clear hk;go_wp2_with fail;go_ret;exact ⟨rfl, gw1⟩
  ·have d3 : (d.kind == 3) = false := by simp [hk]
   have HK : Hid (d.kind ≠ 3) := hk;clear hk;go_wp2_with fail;clear d3 p0;refine (Zj9 (fun b => b < w.heap.size) l _ w1 (fun b h => Nat.lt_of_lt_of_le h gw1.size) (hl.grow gw1) hm hdl).mono ?_;have HIV : Hid ((K1 100 Xg l).Inv) := Zgq 100 Xg l Zvy;generalize K1 100 Xg l = s at *;rintro r w2 ⟨v2, rfl, hS2, g2⟩;obtain ⟨b1, e1, l1, m1, i1, j1, hv2, -, -, -⟩ := hS2.form;subst hv2;have g3 := Zb w2 (.cells #[.slice b1 s.dk.blocks.length e1, .slice l1 s.dk.late.length m1, .slice i1 s.idx.length j1, .int .i64 s.next] 29);have hY3 := Zg w2 #[.slice b1 s.dk.blocks.length e1, .slice l1 s.dk.late.length m1, .slice i1 s.idx.length j1, .int .i64 s.next] 29;obtain ⟨G, hG⟩ : ∃ G, G = w2.heap.size := ⟨_, rfl⟩;have hS3 : Z8 (fun b => b ≠ G) s (.agg #[.slice b1 s.dk.blocks.length e1, .slice l1 s.dk.late.length m1, .slice i1 s.idx.length j1, .int .i64 s.next]) (w2.alloc (.cells #[.slice b1 s.dk.blocks.length e1, .slice l1 s.dk.late.length m1, .slice i1 s.idx.length j1, .int .i64 s.next] 29)) := (hS2.any.now.grow g3).mono (fun b h => by omega);have hD3 := ((g2.trans g3).block _ (Za hD1)).trans hD1;have gw3 := gw1.trans (g2.trans g3);have hwG : w.heap.size < G := by have := Za hD1; have := g2.size; omega
   clear hS2 g2 hD1 gw1 g3;obtain ⟨y0, y1, y2, y3⟩ := Z4 hY3 rfl rfl rfl rfl;obtain ⟨p0, p1, p2, p3⟩ := Z4 hD3 rfl rfl rfl rfl;have HG : Hid _ := hG;clear hG;go_wp2_with fail;rw [← HG.out] at hY3 ⊢;clear y0 y1 y2 y3 p0 p1 p2 p3 HG;generalize World.alloc w2 _ = w3 at *;have hG3 : G < w3.heap.size := Za hY3;refine (PD (fun b => b ≠ G ∧ b < w3.heap.size) s ⟨1, 0, 0, d⟩ _ ad c w3 (fun b h => h.2) hS3.capd (((hd.grow gw3).mono (fun b h => show b ≠ G by omega)).caps) HIV.out.at' hdd).mono ?_;rw [Zpk];have HBI : Hid ((s.doS d).st.Inv) := Zt1 HIV.out d;have HBN : Hid ((s.doS d).e ≠ 0 → (s.doS d).n = 0) := Zwf;have HBM : Hid ((s.doS d).e = 0 → Y1 d (s.doS d).n ∈ (s.doS d).st.recs) := Zwe HK.out;generalize s.doS d = B at *;rintro r w5 ⟨v5, rfl, h5, g5⟩;obtain ⟨b5, e5, l5, m5, i5, j5, hv5, -, -, -⟩ := h5.form;subst hv5;have hY5 := (g5.block _ (Za hY3)).trans hY3;have hD5 := (g5.block _ (Za hD3)).trans hD3;have gw5 := gw3.trans g5;have h5' : Z8 (fun b => b ≠ G) B.st (.agg #[.slice b5 B.st.dk.blocks.length e5, .slice l5 B.st.dk.late.length m5, .slice i5 B.st.idx.length j5, .int .i64 B.st.next]) w5 := h5.mono (by
    rintro b (h | h)
    ·exact h.1
    ·omega)
   clear h5 hY3 hD3 hS3 gw3 g5 hG3;obtain ⟨hpA, hbA⟩ := Yd hY5 (.slice b5 B.st.dk.blocks.length e5) (.slice l5 B.st.dk.late.length m5) (.slice i5 B.st.idx.length j5) (.int .i64 B.st.next);have hD6 := (hbA.block _ (Za hD5) (by omega)).trans hD5;have hS6 := h5'.but hbA (fun h => h rfl);have gw6 := hbA.grow gw5 (by omega);obtain ⟨y0, y1, y2, y3⟩ := Z4 hY5 rfl rfl rfl rfl;obtain ⟨f0, f1, f2, f3⟩ := Yr hY5;have cs := Zr;obtain ⟨n, hn⟩ : ∃ n, n = B.n := ⟨_, rfl⟩;rw [← hn] at HBN HBM ⊢;clear hbA hY5 hD5 gw5 h5' hn;by_cases he : B.e = 0
   ·rw [he] at HBM ⊢;have HMR : Hid (Y1 d n ∈ B.st.recs) := HBM.out rfl;clear HBM HBN he;generalize B.st = T0 at *
    go_upto_block 0 with fail
    clear y0 y1 y2 y3 f0 f1 f2 f3 cs;generalize World.setCell (World.setCell (World.setCell (World.setCell w5 _ _) _ _) _ _) _ _ = W6 at *;go_cut [] (fun wx => ∃ (T : St) (b1 : Option Addr) (e1 : Nat) (l1 : Option Addr) (m1 : Nat) (i1 : Option Addr) (j1 : Nat), wx.heap[G]? = some (.cells #[.slice b1 T.dk.blocks.length e1, .slice l1 T.dk.late.length m1, .slice i1 T.idx.length j1, .int .i64 T.next] 29 (0, 0)) ∧ Z8 (fun b => b ≠ G) T (.agg #[.slice b1 T.dk.blocks.length e1, .slice l1 T.dk.late.length m1, .slice i1 T.idx.length j1, .int .i64 T.next]) wx ∧ Hid T.Inv ∧ Hid (Y1 d n ∈ T.recs) ∧ wx.heap[w.heap.size]? = some (.cells #[.int .i64 d.kind, .int .i64 d.key, .int .i64 d.num, .slice ad d.data.length c] 47 (0, 0)) ∧ Zn w wx)
    case first =>
     go_wp2_with fail;go_loopw [41] (fun i wr => ∃ (k : Nat) (T : St) (b1 : Option Addr) (e1 : Nat) (l1 : Option Addr) (m1 : Nat) (i1 : Option Addr) (j1 : Nat), k ≤ more.length ∧ i = .int .i64 (k : Int) ∧ wr.heap[G]? = some (.cells #[.slice b1 T.dk.blocks.length e1, .slice l1 T.dk.late.length m1, .slice i1 T.idx.length j1, .int .i64 T.next] 29 (0, 0)) ∧ Z8 (fun b => b ≠ G) T (.agg #[.slice b1 T.dk.blocks.length e1, .slice l1 T.dk.late.length m1, .slice i1 T.idx.length j1, .int .i64 T.next]) wr ∧ Hid T.Inv ∧ Hid (Y1 d n ∈ T.recs) ∧ wr.heap[w.heap.size]? = some (.cells #[.int .i64 d.kind, .int .i64 d.key, .int .i64 d.num, .slice ad d.data.length c] 47 (0, 0)) ∧ Zn w wr) (fun i _ => more.length - (intOf i).toNat)
     case atStart => exact ⟨0, T0, b5, e5, l5, m5, i5, j5, by omega, rfl, hpA, hS6, HBI, HMR, hD6, gw6⟩
     case round =>
      clear hpA hS6 HBI HMR hD6 gw6;obtain ⟨k, T, b1, e1, l1, m1, i1, j1, hk, rfl, hY, hS, HTI, HTR, hD, gw⟩ := hrel;by_cases hlt : k < more.length
      ·obtain ⟨bb, off, ax, cx, hao, q0, q1, q2, q3, q4, q5, q6, hbd⟩ := Zfi (hmr.grow gw) k hlt;cases hao;have HDL : Hid (more[k].deed.data.length ≤ 140737488355328) := hdm _ (List.getElem_mem hlt);generalize more[k] = x at *;have g3 := Zb wr (.cells #[.int .i64 x.kind, .int .i64 x.n, .int .i64 x.m, .int .i64 x.deed.kind, .int .i64 x.deed.key, .int .i64 x.deed.num, .slice ax x.deed.data.length cx] 49);have hX3 := Zg wr #[.int .i64 x.kind, .int .i64 x.n, .int .i64 x.m, .int .i64 x.deed.kind, .int .i64 x.deed.key, .int .i64 x.deed.num, .slice ax x.deed.data.length cx] 49;have hY3 := (g3.block _ (Za hY)).trans hY;have hD3 := (g3.block _ (Za hD)).trans hD;have hS3 := hS.grow g3;have hb3 := hbd.grow g3;have gw3 := gw.trans g3;clear hY hD hS hbd gw g3;obtain ⟨y0, y1, y2, y3⟩ := Z4 hY3 rfl rfl rfl rfl;obtain ⟨p0, p1, p2, p3, p4⟩ := Qh hX3 rfl rfl rfl rfl rfl;have p5 := Zc hX3 5 _ rfl;have p6 := Zc hX3 6 _ rfl;go_wp2_with fail;obtain ⟨N, hN⟩ : ∃ N, N = wr.heap.size := ⟨_, rfl⟩;rw [← hN] at hX3 ⊢;clear hN y0 y1 y2 y3 p0 p1 p2 p3 p4 p5 p6 q0 q1 q2 q3 q4 q5 q6;generalize World.alloc wr _ = w4 at *;refine (Zeq _ 0 T x _ ax cx w4 hS3 HTI.out.at'.ok.disk (by omega)).mono ?_;obtain ⟨gb, hgb⟩ : ∃ gb, gb = Vf T x := ⟨_, rfl⟩;rw [← hgb];rintro r w7 ⟨rfl, g7⟩;have hY7 := (g7.block _ (Za hY3)).trans hY3;have hD7 := (g7.block _ (Za hD3)).trans hD3;have hX7 := (g7.block _ (Za hX3)).trans hX3;have hS7 := hS3.grow g7;have hb7 := hb3.grow g7;have gw7 := gw3.trans g7;clear hY3 hD3 hX3 hS3 hb3 gw3 g7
       cases gb with
       | false =>
        clear hgb hX7 hb7;go_wp2_with fail;go_meet;exact ⟨T, b1, e1, l1, m1, i1, j1, hY7, hS7, HTI, HTR, hD7, gw7⟩
       | true =>
        have HGT : Hid (Vf T x = true) := hgb.symm;clear hgb;go_upto_region 13 with fail
        go_cut [77] (fun c wx => ∃ C : Bool, c = .bool C ∧ (C = false → ¬ ((x.kind = 1 ∨ x.kind = 2) ∧ x.deed.kind = 3 ∧ x.deed.key = d.key ∧ x.deed.num = n)) ∧ wx = w7)
        case first =>
         have p0 := Zc hX7 0 _ rfl;have p3 := Zc hX7 3 _ rfl;have p4 := Zc hX7 4 _ rfl;have p5 := Zc hX7 5 _ rfl;have e1' := Zc hD7 1 _ rfl;clear hY7 hD7 hX7 hS7 hb7 gw7 HTI HTR;by_cases a1 : x.kind = 1
         ·have d1 : (x.kind == 1) = true := by simp [a1]
          clear a1;by_cases a3 : x.deed.kind = 3
          ·have d3 : (x.deed.kind == 3) = true := by simp [a3]
           by_cases a4 : x.deed.key = d.key
           ·have d4 : (x.deed.key == d.key) = true := by simp [a4]
            by_cases a5 : x.deed.num = n
            ·have d5 : (x.deed.num == n) = true := by simp [a5]
             clear a3 a4 a5;go_wp2_with fail;go_meet;exact ⟨true, rfl, fun h => (by cases h), rfl⟩
            ·have d5 : (x.deed.num == n) = false := by simp [a5]
             have HN : Hid (¬ ((x.kind = 1 ∨ x.kind = 2) ∧ x.deed.kind = 3 ∧ x.deed.key = d.key ∧ x.deed.num = n)) := fun h => a5 h.2.2.2
             clear a3 a4 a5;go_wp2_with fail;go_meet;exact ⟨false, rfl, fun _ => HN.out, rfl⟩
           ·have d4 : (x.deed.key == d.key) = false := by simp [a4]
            have HN : Hid (¬ ((x.kind = 1 ∨ x.kind = 2) ∧ x.deed.kind = 3 ∧ x.deed.key = d.key ∧ x.deed.num = n)) := fun h => a4 h.2.2.1
            clear a3 a4;go_wp2_with fail;go_meet;exact ⟨false, rfl, fun _ => HN.out, rfl⟩
          ·have d3 : (x.deed.kind == 3) = false := by simp [a3]
           have HN : Hid (¬ ((x.kind = 1 ∨ x.kind = 2) ∧ x.deed.kind = 3 ∧ x.deed.key = d.key ∧ x.deed.num = n)) := fun h => a3 h.2.1
           clear a3;go_wp2_with fail;go_meet;exact ⟨false, rfl, fun _ => HN.out, rfl⟩
         ·have d1 : (x.kind == 1) = false := by simp [a1]
          by_cases a2 : x.kind = 2
          ·have d2 : (x.kind == 2) = true := by simp [a2]
           clear a1 a2;by_cases a3 : x.deed.kind = 3
           ·have d3 : (x.deed.kind == 3) = true := by simp [a3]
            by_cases a4 : x.deed.key = d.key
            ·have d4 : (x.deed.key == d.key) = true := by simp [a4]
             by_cases a5 : x.deed.num = n
             ·have d5 : (x.deed.num == n) = true := by simp [a5]
              clear a3 a4 a5;go_wp2_with fail;go_meet;exact ⟨true, rfl, fun h => (by cases h), rfl⟩
             ·have d5 : (x.deed.num == n) = false := by simp [a5]
              have HN : Hid (¬ ((x.kind = 1 ∨ x.kind = 2) ∧ x.deed.kind = 3 ∧ x.deed.key = d.key ∧ x.deed.num = n)) := fun h => a5 h.2.2.2
              clear a3 a4 a5;go_wp2_with fail;go_meet;exact ⟨false, rfl, fun _ => HN.out, rfl⟩
            ·have d4 : (x.deed.key == d.key) = false := by simp [a4]
             have HN : Hid (¬ ((x.kind = 1 ∨ x.kind = 2) ∧ x.deed.kind = 3 ∧ x.deed.key = d.key ∧ x.deed.num = n)) := fun h => a4 h.2.2.1
             clear a3 a4;go_wp2_with fail;go_meet;exact ⟨false, rfl, fun _ => HN.out, rfl⟩
           ·have d3 : (x.deed.kind == 3) = false := by simp [a3]
            have HN : Hid (¬ ((x.kind = 1 ∨ x.kind = 2) ∧ x.deed.kind = 3 ∧ x.deed.key = d.key ∧ x.deed.num = n)) := fun h => a3 h.2.1
            clear a3;go_wp2_with fail;go_meet;exact ⟨false, rfl, fun _ => HN.out, rfl⟩
          ·have d2 : (x.kind == 2) = false := by simp [a2]
           have HN : Hid (¬ ((x.kind = 1 ∨ x.kind = 2) ∧ x.deed.kind = 3 ∧ x.deed.key = d.key ∧ x.deed.num = n)) := fun h => h.1.elim a1 a2
           clear a1 a2;go_wp2_with fail;go_meet;exact ⟨false, rfl, fun _ => HN.out, rfl⟩
        case rest =>
         obtain ⟨C, rfl, HC, hwc⟩ := hcut;subst hwc;cases C with
         | true =>
          clear HC hX7 hb7;go_wp2_with fail;go_meet;exact ⟨T, b1, e1, l1, m1, i1, j1, hY7, hS7, HTI, HTR, hD7, gw7⟩
         | false =>
          have HN : Hid _ := HC rfl;clear HC;obtain ⟨y0, y1, y2, y3⟩ := Z4 hY7 rfl rfl rfl rfl;obtain ⟨p0, p1, p2, p3, p4⟩ := Qh hX7 rfl rfl rfl rfl rfl;have p5 := Zc hX7 5 _ rfl;have p6 := Zc hX7 6 _ rfl;go_wp2_with fail;clear y0 y1 y2 y3 p0 p1 p2 p3 p4 p5 p6;have hG7 : G < wc.heap.size := Za hY7;refine (PD (fun b => b ≠ G ∧ b < wc.heap.size) T x _ ax cx wc (fun b h => h.2) hS7.capd ((hb7.mono (fun b h => show b ≠ G by omega)).caps) HTI.out.at' HDL.out).mono ?_;have HBI9 : Hid ((T.step x).st.Inv) := Zfj HTI.out HGT.out;have HBR9 : Hid (Y1 d n ∈ (T.step x).st.recs) := Zl6 HTI.out HGT.out HTR.out HN.out;generalize T.step x = B9 at *;rintro r w9 ⟨v9, rfl, h9, g9⟩;obtain ⟨b9, e9, l9, m9, i9, j9, hv9, -, -, -⟩ := h9.form;subst hv9;have hY9 := (g9.block _ (Za hY7)).trans hY7;have hD9 := (g9.block _ (Za hD7)).trans hD7;have gw9 := gw7.trans g9;have h9' : Z8 (fun b => b ≠ G) B9.st (.agg #[.slice b9 B9.st.dk.blocks.length e9, .slice l9 B9.st.dk.late.length m9, .slice i9 B9.st.idx.length j9, .int .i64 B9.st.next]) w9 := h9.mono (by
           rintro b (h | h)
           ·exact h.1
           ·omega)
          clear h9 hY7 hD7 hX7 hS7 hb7 gw7 g9 hG7 HN HGT HTI HTR;obtain ⟨hpB, hbB⟩ := Yd hY9 (.slice b9 B9.st.dk.blocks.length e9) (.slice l9 B9.st.dk.late.length m9) (.slice i9 B9.st.idx.length j9) (.int .i64 B9.st.next);have hDA := (hbB.block _ (Za hD9) (by omega)).trans hD9;have hSA := h9'.but hbB (fun h => h rfl);have gwA := hbB.grow gw9 (by omega);obtain ⟨y0, y1, y2, y3⟩ := Z4 hY9 rfl rfl rfl rfl;obtain ⟨f0, f1, f2, f3⟩ := Yr hY9;have cs := Zr;clear hbB hY9 hD9 gw9 h9';go_wp2_with fail;go_roundw
          case rel => exact ⟨k + 1, B9.st, b9, e9, l9, m9, i9, j9, by omega, by go_num, hpB, hSA, HBI9, HBR9, hDA, gwA⟩
          case measure => simp [intOf]; omega
      ·go_wp2_with fail;go_meet;exact ⟨T, b1, e1, l1, m1, i1, j1, hY, hS, HTI, HTR, hD, gw⟩
    case rest =>
     clear hpA hS6 HBI HMR hD6 gw6;obtain ⟨T, b1, e1, l1, m1, i1, j1, hY, hS, HTI, HTR, hD, gw⟩ := hcut;obtain ⟨y0, y1, y2, y3⟩ := Z4 hY rfl rfl rfl rfl;go_wp2_with fail;clear y0 y1 y2 y3;refine (Zc9 (fun b => b < wc.heap.size) T _ wc (fun b h => h) hS.any.now (by have := Zt6 HTI.out.at'; omega)).mono ?_;have HR6 : T.recs.length ≤ 6 := Zwm HTI.out.at';generalize T.recs = R at *;rintro r w6 ⟨v6, rfl, hR, g6⟩;obtain ⟨ar, cr, rfl⟩ := Z7.form hR;have hD6 := (g6.block _ (Za hD)).trans hD;have gw6 := gw.trans g6;clear hY hS hD gw g6 HTI;have HC0 : Hid (false = true ∨ Y1 d n ∈ R.drop 0) := .inr HTR.out;clear HTR;go_wp2_with fail;go_loopw [12, 89] (fun cb i wr => ∃ (k : Nat) (C : Bool), k ≤ R.length ∧ cb = .bool C ∧ i = .int .i64 (k : Int) ∧ Hid (C = true ∨ Y1 d n ∈ R.drop k) ∧ Zn w6 wr) (fun _ i _ => R.length - (intOf i).toNat)
     case atStart => exact ⟨0, false, by omega, rfl, rfl, HC0, Zn.refl _⟩
     case round =>
      clear HC0;obtain ⟨k, C, hk, rfl, rfl, HC, hgq⟩ := hrel;by_cases hlt : k < R.length
      ·obtain ⟨bb, off, a1, c1, hv1, u0, u1, u2, u3, hu⟩ := Jx (Z7.grow hR hgq) k hlt;cases hv1;have HE : Hid (C = true ∨ R[k] = Y1 d n ∨ Y1 d n ∈ R.drop (k + 1)) := HC.out.imp id (fun h => Zth h hlt);generalize R[k] = x at *;have g1 := Zb wr (.cells #[.int .i64 x.kind, .int .i64 x.key, .int .i64 x.ver, .slice a1 x.data.length c1] 61);have hX5 := Zg wr #[.int .i64 x.kind, .int .i64 x.key, .int .i64 x.ver, .slice a1 x.data.length c1] 61;have hD5 := ((hgq.trans g1).block _ (Za hD6)).trans hD6;have ra := Zj4 _ _ _ (hu.grow g1).p;have rb := Zj4 _ _ _ (hd.grow (gw6.trans (hgq.trans g1))).p;have hgq1 := hgq.trans g1;clear hu g1 hgq HC;go_upto_region 20 with fail
       clear u0 u1 u2 u3;obtain ⟨x0, x1, x2, x3⟩ := Z4 hX5 rfl rfl rfl rfl;obtain ⟨p0, p1⟩ := Y9 hD5 rfl rfl;have p3 := Zc hD5 3 _ rfl;obtain ⟨N, hN⟩ : ∃ N, N = wr.heap.size := ⟨_, rfl⟩;rw [← hN] at x0 x1 x2 x3 ⊢;clear hN hX5 hD5;generalize World.alloc wr _ = W at *;cases C with
       | true =>
        clear ra rb x0 x1 x2 x3 p0 p1 p3;go_wp2_with fail;go_roundw
        case rel => exact ⟨k + 1, true, by omega, rfl, by go_num, .inl rfl, hgq1⟩
        case measure => simp [intOf]; omega
       | false =>
        have HE2 : Hid (x = Y1 d n ∨ Y1 d n ∈ R.drop (k + 1)) := HE.out.resolve_left (by decide);clear HE;have HXX : Hid (x = Y1 d n → x.kind = 1 + d.kind ∧ x.key = d.key ∧ x.ver = n ∧ x.data = d.data) := fun h => by rw [h]; exact ⟨rfl, rfl, rfl, rfl⟩
        by_cases a1' : x.key = d.key
        ·have d1 : (x.key == d.key) = true := by simp [a1']
         by_cases a2' : x.ver = n
         ·have d2 : (x.ver == n) = true := by simp [a2']
          by_cases a3' : x.data = d.data
          ·have d3 : (x.data == d.data) = true := by simp [a3']
           by_cases a4' : x.kind = 2
           ·have d4 : (x.kind == 2) = true := by simp [a4']
            by_cases a5' : d.kind = 1
            ·have d5 : (d.kind == 1) = true := by simp [a5']
             clear a1' a2' a3' a4' a5' HE2 HXX;go_wp2_with fail;go_roundw
             case rel => exact ⟨k + 1, true, by omega, rfl, by go_num, .inl rfl, hgq1⟩
             case measure => simp [intOf]; omega
            ·have d5 : (d.kind == 1) = false := by simp [a5']
             have HM : Hid (false = true ∨ Y1 d n ∈ R.drop (k + 1)) := .inr (HE2.out.resolve_left (fun h => a5' (by have := (HXX.out h).1; omega)));clear a1' a2' a3' a4' a5' HE2 HXX;go_wp2_with fail;go_roundw
             case rel => exact ⟨k + 1, false, by omega, rfl, by go_num, HM, hgq1⟩
             case measure => simp [intOf]; omega
           ·have d4 : (x.kind == 2) = false := by simp [a4']
            by_cases a5' : d.kind = 1
            ·have d5 : (d.kind == 1) = true := by simp [a5']
             have HM : Hid (false = true ∨ Y1 d n ∈ R.drop (k + 1)) := .inr (HE2.out.resolve_left (fun h => a4' (by have := (HXX.out h).1; omega)));clear a1' a2' a3' a4' a5' HE2 HXX;go_wp2_with fail;go_roundw
             case rel => exact ⟨k + 1, false, by omega, rfl, by go_num, HM, hgq1⟩
             case measure => simp [intOf]; omega
            ·have d5 : (d.kind == 1) = false := by simp [a5']
             clear a1' a2' a3' a4' a5' HE2 HXX;go_wp2_with fail;go_roundw
             case rel => exact ⟨k + 1, true, by omega, rfl, by go_num, .inl rfl, hgq1⟩
             case measure => simp [intOf]; omega
          ·have d3 : (x.data == d.data) = false := by simp [a3']
           have HM : Hid (false = true ∨ Y1 d n ∈ R.drop (k + 1)) := .inr (HE2.out.resolve_left (fun h => a3' (HXX.out h).2.2.2));clear a1' a2' a3' HE2 HXX;go_wp2_with fail;go_roundw
           case rel => exact ⟨k + 1, false, by omega, rfl, by go_num, HM, hgq1⟩
           case measure => simp [intOf]; omega
         ·have d2 : (x.ver == n) = false := by simp [a2']
          have HM : Hid (false = true ∨ Y1 d n ∈ R.drop (k + 1)) := .inr (HE2.out.resolve_left (fun h => a2' (HXX.out h).2.2.1));clear a1' a2' HE2 HXX;go_wp2_with fail;go_roundw
          case rel => exact ⟨k + 1, false, by omega, rfl, by go_num, HM, hgq1⟩
          case measure => simp [intOf]; omega
        ·have d1 : (x.key == d.key) = false := by simp [a1']
         have HM : Hid (false = true ∨ Y1 d n ∈ R.drop (k + 1)) := .inr (HE2.out.resolve_left (fun h => a1' (HXX.out h).2.1));clear a1' HE2 HXX;go_wp2_with fail;go_roundw
         case rel => exact ⟨k + 1, false, by omega, rfl, by go_num, HM, hgq1⟩
         case measure => simp [intOf]; omega
      ·have hC : C = true := HC.out.resolve_right (fun h => by rw [List.drop_eq_nil_of_le (by omega)] at h; cases h);have gE := gw6.trans hgq;clear HC;subst hC;go_wp2_with fail;go_ret;exact ⟨rfl, gE⟩
   ·have d1 : (B.e != 0) = true := by simp [he]
    have HN0 : Hid (n = 0) := HBN.out he;rw [HN0.out];clear HBN HBM he;generalize B.e = be at *;go_wp2_with fail;go_ret;exact ⟨rfl, gw6⟩
 ·clear hD1 hl hd hmr hdl hdm;go_wp2_with fail;go_ret;exact ⟨rfl, gw1⟩
def Vo (x y : Int) : Int := if x < y then -1 else if y < x then 1 else 0
def Zd8 (x y : Ent) : Int := if Vo x.rc.key y.rc.key ≠ 0 then Vo x.rc.key y.rc.key else if Vo x.rc.ver y.rc.ver ≠ 0 then Vo x.rc.ver y.rc.ver else Vo x.pair y.pair
theorem J2 (x y : Int) : Vo x y = 0 ↔ x = y := by unfold Vo; split <;> (try split) <;> omega
theorem Zjb (x y : Int) : Vo x y < 0 ↔ x < y := by unfold Vo; split <;> (try split) <;> omega
theorem Zjc (x y : Int) : 0 < Vo x y ↔ y < x := by unfold Vo; split <;> (try split) <;> omega
theorem Zo0 (x y : Ent) : (decide (Zd8 x y < 0)) = Y2 x y := by
 rw [Bool.eq_iff_iff, decide_eq_true_eq];unfold Zd8 Y2;by_cases hk : x.rc.key = y.rc.key
 ·rw [if_neg (by simpa using (J2 _ _).2 hk), if_pos hk];by_cases hv : x.rc.ver = y.rc.ver
  ·rw [if_neg (by simpa using (J2 _ _).2 hv), if_pos hv, Zjb, decide_eq_true_eq]
  ·rw [if_pos (fun h => hv ((J2 _ _).1 h)), if_neg hv, Zjb, decide_eq_true_eq]
 ·rw [if_pos (fun h => hk ((J2 _ _).1 h)), if_neg hk, Zjb, decide_eq_true_eq]
theorem Zvv (x y : Ent) : (decide (0 < Zd8 x y)) = Y2 y x := by
 rw [Bool.eq_iff_iff, decide_eq_true_eq];unfold Zd8 Y2;by_cases hk : x.rc.key = y.rc.key
 ·rw [if_neg (by simpa using (J2 _ _).2 hk), if_pos hk.symm];by_cases hv : x.rc.ver = y.rc.ver
  ·rw [if_neg (by simpa using (J2 _ _).2 hv), if_pos hv.symm, Zjc, decide_eq_true_eq]
  ·rw [if_pos (fun h => hv ((J2 _ _).1 h)), if_neg (fun h => hv h.symm), Zjc, decide_eq_true_eq]
 ·rw [if_pos (fun h => hk ((J2 _ _).1 h)), if_neg (fun h => hk h.symm), Zjc, decide_eq_true_eq]
theorem Zpf {P : Program} {w w' : World} {R : Value → World → Prop} {o : Oper} {ev : Operand → Value} {v : Value} (h : (execOp ev o).run P w = .ok (.value v) w') (hg : Zn w w') (hv : R v w') : upon P w R ((execOp ev o).run P w) := by
 rw [h]; exact ⟨hg, hv⟩
theorem Zcc (x : Int) (w : World) : Calls Tryz.prog 150 #[.int .i64 x] w fun e w' => e = .returned (.bool false) ∧ w' = w := by
 have d0 : (x != x) = false := by simp
 go_enter Tryz.func150, Tryz.ntmps150;go_wp2_with fail;go_ret;exact ⟨rfl, rfl⟩
theorem Zja (x y : Int) (w : World) : Calls Tryz.prog 113 #[.int .i64 x, .int .i64 y] w fun e w' => e = .returned (.int .i64 (Vo x y)) ∧ w' = w := by
 by_cases h1 : x < y
 ·have HC : Hid (Vo x y = -1) := by show _ = _; unfold Vo; rw [if_pos h1]
  rw [HC.out];go_enter Tryz.func113, Tryz.ntmps113;go_wp2_with fail;refine (Zcc _ _).mono ?_;rintro e w1 ⟨rfl, rfl⟩;go_wp2_with fail;refine (Zcc _ _).mono ?_;rintro e w1 ⟨rfl, rfl⟩;go_wp2_with fail;go_ret;exact ⟨rfl, rfl⟩
 ·by_cases h2 : y < x
  ·have HC : Hid (Vo x y = 1) := by show _ = _; unfold Vo; rw [if_neg h1, if_pos h2]
   rw [HC.out];go_enter Tryz.func113, Tryz.ntmps113;go_wp2_with fail;refine (Zcc _ _).mono ?_;rintro e w1 ⟨rfl, rfl⟩;go_wp2_with fail;refine (Zcc _ _).mono ?_;rintro e w1 ⟨rfl, rfl⟩;go_wp2_with fail;go_ret;exact ⟨rfl, rfl⟩
  ·have HC : Hid (Vo x y = 0) := by show _ = _; unfold Vo; rw [if_neg h1, if_neg h2]
   rw [HC.out];go_enter Tryz.func113, Tryz.ntmps113;go_wp2_with fail;refine (Zcc _ _).mono ?_;rintro e w1 ⟨rfl, rfl⟩;go_wp2_with fail;refine (Zcc _ _).mono ?_;rintro e w1 ⟨rfl, rfl⟩;go_wp2_with fail;go_ret;exact ⟨rfl, rfl⟩
def orN : List Int → Int
 | [] => 0
 | v :: l => if v ≠ 0 then v else orN l
theorem Zxq (vs : List Int) (b cap : Nat) (w : World) (hn : vs.length ≤ 1000) (hc : ∀ (j : Nat) (h : j < vs.length), w.cell? ⟨b, j, none⟩ = some (.int .i64 vs[j])) :
  Calls Tryz.prog 112 #[.slice (some ⟨b, 0, none⟩) vs.length cap] w fun e w' => e = .returned (.int .i64 (orN vs)) ∧ Zn w w' := by
 obtain ⟨R, hR⟩ : ∃ R, R = orN vs := ⟨_, rfl⟩;rw [← hR];have HR : Hid _ := hR;clear hR;go_enter Tryz.func112, Tryz.ntmps112;go_wp2_with fail;go_loopw [8] (fun i wr => ∃ k : Nat, k ≤ vs.length ∧ i = .int .i64 k ∧ R = orN (vs.drop k) ∧ Zn w wr) (fun i _ => vs.length - (intOf i).toNat)
 case atStart => exact ⟨0, Nat.zero_le _, rfl, HR.out, Zn.refl _⟩
 case round =>
  obtain ⟨k, hk, rfl, hRk, hg⟩ := hrel;have HK : Hid (R = orN (vs.drop k)) := hRk;clear hRk;by_cases hlt : k < vs.length
  ·have q0 := (Below.cell hg (Zv (hc k hlt))).trans (hc k hlt);have HX : Hid (R = if vs[k] ≠ 0 then vs[k] else orN (vs.drop (k + 1))) := by show R = _; rw [HK.out, List.drop_eq_getElem_cons hlt]; rfl
   generalize vs[k] = x at *;clear HK;by_cases hx : x = 0
   ·have HY : Hid (R = orN (vs.drop (k + 1))) := by show R = _; rw [HX.out, if_neg (by simpa using hx)]
    have d0 : (x != 0) = false := by simp [hx]
    clear HX hx;go_wp2_with fail;go_roundw
    case rel => exact ⟨k + 1, by omega, by go_num, HY.out, hg⟩
    case measure => simp [intOf]; omega
   ·have HY : Hid (R = x) := by show R = _; rw [HX.out, if_pos hx]
    have d0 : (x != 0) = true := by simp [hx]
    clear HX hx;go_wp2_with fail;go_ret;exact ⟨by rw [HY.out]; rfl, hg⟩
  ·have HY : Hid (R = 0) := by show R = _; rw [HK.out, List.drop_eq_nil_of_le (by omega)]; rfl
   clear HK;go_wp2_with fail;go_ret;exact ⟨by rw [HY.out]; rfl, hg⟩
theorem Zs9 (x y : Ent) : orN [Vo x.rc.key y.rc.key, Vo x.rc.ver y.rc.ver, Vo x.pair y.pair] = Zd8 x y := by
 unfold Zd8;simp only [orN];split
 ·rfl
 ·split
  ·rfl
  ·split
   ·rfl
   ·rename_i h; exact (Decidable.of_not_not h).symm
def Zn8 (n0 n1 n2 : Int) (v : Value) (w : World) : Prop := ∃ g, v = .slice (some ⟨g, 0, none⟩) 3 3 ∧ w.heap[g]? = some (.cells #[.int .i64 n0, .int .i64 n1, .int .i64 n2] 3 (0, 0))
theorem Zpm (n0 n1 n2 : Int) : Xv (Zn8 n0 n1 n2) := by
 rintro v w w' hg ⟨g, h1, h2⟩; exact ⟨g, h1, (hg.block _ (Za h2)).trans h2⟩
theorem Zcb (x y : Ent) (a0 a1 : Option Addr) (c0 c1 : Nat) (w : World) :
  Calls Tryz.prog 74 #[.agg #[.int .i64 x.rc.kind, .int .i64 x.rc.key, .int .i64 x.rc.ver, .slice a0 x.rc.data.length c0, .int .i64 x.pair], .agg #[.int .i64 y.rc.kind, .int .i64 y.rc.key, .int .i64 y.rc.ver, .slice a1 y.rc.data.length c1, .int .i64 y.pair]] w fun e w' => e = .returned (.int .i64 (Zd8 x y)) ∧ Zn w w' := by
 have g0 := Zp w (.cells #[.int .i64 x.rc.kind, .int .i64 x.rc.key, .int .i64 x.rc.ver, .slice a0 x.rc.data.length c0, .int .i64 x.pair] 92) (.cells #[.int .i64 y.rc.kind, .int .i64 y.rc.key, .int .i64 y.rc.ver, .slice a1 y.rc.data.length c1, .int .i64 y.pair] 92);have hx0 := Zg w #[.int .i64 x.rc.kind, .int .i64 x.rc.key, .int .i64 x.rc.ver, .slice a0 x.rc.data.length c0, .int .i64 x.pair] 92;have hy0 := Zg (w.alloc (.cells #[.int .i64 x.rc.kind, .int .i64 x.rc.key, .int .i64 x.rc.ver, .slice a0 x.rc.data.length c0, .int .i64 x.pair] 92)) #[.int .i64 y.rc.kind, .int .i64 y.rc.key, .int .i64 y.rc.ver, .slice a1 y.rc.data.length c1, .int .i64 y.pair] 92;have hx1 := ((Zb (w.alloc (.cells #[.int .i64 x.rc.kind, .int .i64 x.rc.key, .int .i64 x.rc.ver, .slice a0 x.rc.data.length c0, .int .i64 x.pair] 92)) (.cells #[.int .i64 y.rc.kind, .int .i64 y.rc.key, .int .i64 y.rc.ver, .slice a1 y.rc.data.length c1, .int .i64 y.pair] 92)).block _ (Za hx0)).trans hx0;rw [World.size_alloc] at hy0;clear hx0;obtain ⟨R, hR⟩ : ∃ R, R = Zd8 x y := ⟨_, rfl⟩;rw [← hR];have HR : Hid _ := hR;clear hR;go_enter Tryz.func74, Tryz.ntmps74;go_wp2_with fail;generalize World.alloc (World.alloc w _) _ = W at *
 refine Yh [ex (.pointer (some ⟨w.heap.size, 0, none⟩)), ex (.pointer (some ⟨w.heap.size, 1, none⟩)), ex (.int .i64 x.rc.key), ex (.pointer (some ⟨w.heap.size + 1, 0, none⟩)), ex (.pointer (some ⟨w.heap.size + 1, 1, none⟩)), ex (.int .i64 y.rc.key), ex (.int .i64 (Vo x.rc.key y.rc.key)), ex (.pointer (some ⟨w.heap.size, 0, none⟩)), ex (.pointer (some ⟨w.heap.size, 2, none⟩)), ex (.int .i64 x.rc.ver), ex (.pointer (some ⟨w.heap.size + 1, 0, none⟩)), ex (.pointer (some ⟨w.heap.size + 1, 2, none⟩)), ex (.int .i64 y.rc.ver), ex (.int .i64 (Vo x.rc.ver y.rc.ver)), ex (.pointer (some ⟨w.heap.size, 4, none⟩)), ex (.int .i64 x.pair), ex (.pointer (some ⟨w.heap.size + 1, 4, none⟩)), ex (.int .i64 y.pair), ex (.int .i64 (Vo x.pair y.pair)), ((Zn8 (Vo x.rc.key y.rc.key) (Vo x.rc.ver y.rc.ver) (Vo x.pair y.pair))), ex (.int .i64 R), ex (.int .i64 R)] (by kernel_rfl) (by kernel_rfl) ⟨Zm _, Zm _, Zm _, Zm _, Zm _, Zm _, Zm _, Zm _, Zm _, Zm _, Zm _, Zm _, Zm _, Zm _, Zm _, Zm _, Zm _, Zm _, Zm _, Zpm _ _ _, Zm _, Zm _, trivial⟩ ?_ ?_
 ·refine ⟨?_, ?_, ?_, ?_, ?_, ?_, ?_, ?_, ?_, ?_, ?_, ?_, ?_, ?_, ?_, ?_, ?_, ?_, ?_, ?_, ?_, ?_, trivial⟩
  ·refine Zf rfl fun a _ _ _ B A => ?_;have e2 : a (.tmp 2) = .pointer (some ⟨w.heap.size, 0, none⟩) := Z2 A 2 rfl;refine Zq ?_ rfl;clear A B;go_simp;all_goals go_arith
  ·refine Zf rfl fun a _ _ _ B A => ?_;have e5 : a (.tmp 5) = _ := Zj A 0 rfl;refine Zq ?_ rfl;clear A B;go_simp;all_goals go_arith
  ·refine Zf rfl fun a _ _ _ B A => ?_;have e6 : a (.tmp 6) = _ := Zj A 1 rfl;have h1 := Zc ((B.block _ (Za hx1)).trans hx1) 1 _ rfl;refine Zq ?_ rfl;clear A B;go_simp;all_goals go_arith
  ·refine Zf rfl fun a _ _ _ B A => ?_;have e3 : a (.tmp 3) = .pointer (some ⟨w.heap.size + 1, 0, none⟩) := Z2 A 3 rfl;refine Zq ?_ rfl;clear A B;go_simp;all_goals go_arith
  ·refine Zf rfl fun a _ _ _ B A => ?_;have e8 : a (.tmp 8) = _ := Zj A 3 rfl;refine Zq ?_ rfl;clear A B;go_simp;all_goals go_arith
  ·refine Zf rfl fun a _ _ _ B A => ?_;have e9 : a (.tmp 9) = _ := Zj A 4 rfl;have h1 := Zc ((B.block _ (Za hy0)).trans hy0) 1 _ rfl;refine Zq ?_ rfl;clear A B;go_simp;all_goals go_arith
  ·refine Zf rfl fun a B _ _ C A => ?_;have e7 : a (.tmp 7) = _ := Zj A 2 rfl;have e10 : a (.tmp 10) = _ := Zj A 5 rfl;refine Xa (f := 113) (args := #[.int .i64 x.rc.key, .int .i64 y.rc.key]) ?_ ((Zja _ _ B).mono ?_)
   ·clear A C;go_simp;all_goals go_arith
   ·rintro e w2 ⟨rfl, rfl⟩;exact ⟨_, rfl, Zn.refl _, rfl⟩
  ·refine Zf rfl fun a _ _ _ B A => ?_;have e2 : a (.tmp 2) = .pointer (some ⟨w.heap.size, 0, none⟩) := Z2 A 2 rfl;refine Zq ?_ rfl;clear A B;go_simp;all_goals go_arith
  ·refine Zf rfl fun a _ _ _ B A => ?_;have e12 : a (.tmp 12) = _ := Zj A 7 rfl;refine Zq ?_ rfl;clear A B;go_simp;all_goals go_arith
  ·refine Zf rfl fun a _ _ _ B A => ?_;have e13 : a (.tmp 13) = _ := Zj A 8 rfl;have h1 := Zc ((B.block _ (Za hx1)).trans hx1) 2 _ rfl;refine Zq ?_ rfl;clear A B;go_simp;all_goals go_arith
  ·refine Zf rfl fun a _ _ _ B A => ?_;have e3 : a (.tmp 3) = .pointer (some ⟨w.heap.size + 1, 0, none⟩) := Z2 A 3 rfl;refine Zq ?_ rfl;clear A B;go_simp;all_goals go_arith
  ·refine Zf rfl fun a _ _ _ B A => ?_;have e15 : a (.tmp 15) = _ := Zj A 10 rfl;refine Zq ?_ rfl;clear A B;go_simp;all_goals go_arith
  ·refine Zf rfl fun a _ _ _ B A => ?_;have e16 : a (.tmp 16) = _ := Zj A 11 rfl;have h1 := Zc ((B.block _ (Za hy0)).trans hy0) 2 _ rfl;refine Zq ?_ rfl;clear A B;go_simp;all_goals go_arith
  ·refine Zf rfl fun a B _ _ C A => ?_;have e14 : a (.tmp 14) = _ := Zj A 9 rfl;have e17 : a (.tmp 17) = _ := Zj A 12 rfl;refine Xa (f := 113) (args := #[.int .i64 x.rc.ver, .int .i64 y.rc.ver]) ?_ ((Zja _ _ B).mono ?_)
   ·clear A C;go_simp;all_goals go_arith
   ·rintro e w2 ⟨rfl, rfl⟩;exact ⟨_, rfl, Zn.refl _, rfl⟩
  ·refine Zf rfl fun a _ _ _ B A => ?_;have e2 : a (.tmp 2) = .pointer (some ⟨w.heap.size, 0, none⟩) := Z2 A 2 rfl;refine Zq ?_ rfl;clear A B;go_simp;all_goals go_arith
  ·refine Zf rfl fun a _ _ _ B A => ?_;have e19 : a (.tmp 19) = _ := Zj A 14 rfl;have h1 := Zc ((B.block _ (Za hx1)).trans hx1) 4 _ rfl;refine Zq ?_ rfl;clear A B;go_simp;all_goals go_arith
  ·refine Zf rfl fun a _ _ _ B A => ?_;have e3 : a (.tmp 3) = .pointer (some ⟨w.heap.size + 1, 0, none⟩) := Z2 A 3 rfl;refine Zq ?_ rfl;clear A B;go_simp;all_goals go_arith
  ·refine Zf rfl fun a _ _ _ B A => ?_;have e21 : a (.tmp 21) = _ := Zj A 16 rfl;have h1 := Zc ((B.block _ (Za hy0)).trans hy0) 4 _ rfl;refine Zq ?_ rfl;clear A B;go_simp;all_goals go_arith
  ·refine Zf rfl fun a B _ _ C A => ?_;have e20 : a (.tmp 20) = _ := Zj A 15 rfl;have e22 : a (.tmp 22) = _ := Zj A 17 rfl;refine Xa (f := 113) (args := #[.int .i64 x.pair, .int .i64 y.pair]) ?_ ((Zja _ _ B).mono ?_)
   ·clear A C;go_simp;all_goals go_arith
   ·rintro e w2 ⟨rfl, rfl⟩;exact ⟨_, rfl, Zn.refl _, rfl⟩
  ·refine Zf rfl fun a w' _ _ B A => ?_;have e11 : a (.tmp 11) = _ := Zj A 6 rfl;have e18 : a (.tmp 18) = _ := Zj A 13 rfl;have e23 : a (.tmp 23) = _ := Zj A 18 rfl;refine Zpf (v := .slice (some ⟨w'.heap.size, 0, none⟩) 3 3) (w' := w'.alloc (.cells #[.int .i64 (Vo x.rc.key y.rc.key), .int .i64 (Vo x.rc.ver y.rc.ver), .int .i64 (Vo x.pair y.pair)] 3)) ?_ (Zb _ _) ⟨_, rfl, Zg _ _ _⟩;clear A B;go_simp;all_goals go_arith
  ·refine Zf rfl fun a B _ _ C A => ?_;have e24 : ((Zn8 (Vo x.rc.key y.rc.key) (Vo x.rc.ver y.rc.ver) (Vo x.pair y.pair))) (a (.tmp 24)) B := Zj A 19 rfl;obtain ⟨g, h24, h3⟩ := e24;refine Xa (f := 112) (args := #[.slice (some ⟨g, 0, none⟩) 3 3]) ?_ ((Zxq [Vo x.rc.key y.rc.key, Vo x.rc.ver y.rc.ver, Vo x.pair y.pair] g 3 B (by simp) (fun j hj => by
    have hj3 : j < 3 := hj
    match j, hj3 with
    | 0, _ => exact Zc h3 0 _ rfl
    | 1, _ => exact Zc h3 1 _ rfl
    | 2, _ => exact Zc h3 2 _ rfl)).mono ?_)
   ·clear A C h3;go_simp;all_goals go_arith
   ·rw [Zs9, ← HR.out];rintro e w2 ⟨rfl, g2⟩;exact ⟨_, rfl, g2, rfl⟩
  ·exact Zf rfl fun a _ _ _ _ A => Yy rfl (Zj A 20 rfl)
 ·intro vs w' hg ht;obtain ⟨(r5 : vs 0 = _), (r6 : vs 1 = _), (r7 : vs 2 = _), (r8 : vs 3 = _), (r9 : vs 4 = _), (r10 : vs 5 = _), (r11 : vs 6 = _), (r12 : vs 7 = _), (r13 : vs 8 = _), (r14 : vs 9 = _), (r15 : vs 10 = _), (r16 : vs 11 = _), (r17 : vs 12 = _), (r18 : vs 13 = _), (r19 : vs 14 = _), (r20 : vs 15 = _), (r21 : vs 16 = _), (r22 : vs 17 = _), (r23 : vs 18 = _), q24, (r25 : vs 20 = _), (r4 : vs 21 = _), -⟩ := ht;simp only [Yi, Act.put, List.setIfInBounds_toArray, List.set_cons_zero, List.set_cons_succ, r5, r6, r7, r8, r9, r10, r11, r12, r13, r14, r15, r16, r17, r18, r19, r20, r21, r22, r23, r25, r4];clear r5 r6 r7 r8 r9 r10 r11 r12 r13 r14 r15 r16 r17 r18 r19 r20 r21 r22 r23 r25 r4;have gE := g0.trans hg;clear q24 hg hx1 hy0 g0;go_wp2_with fail;go_ret;exact ⟨rfl, gE⟩
end Go.Proofs.YtpdnapbchcdhlacGreat
