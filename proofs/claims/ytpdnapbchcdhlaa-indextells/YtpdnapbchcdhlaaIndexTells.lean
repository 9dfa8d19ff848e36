import Derived.Test.YtpdnapbchcdhlaaIdxSet
import Derived.Deep.DeepCutAuto
set_option maxHeartbeats 8000000
namespace Go.Proofs.Ytpdnapbchcdhlaa
set_option maxRecDepth 100000
open Go.RowKit
open Plain Reg
variable {S : Nat → Prop} {cap n : Nat} {l : List Ent} {v : Value} {w : World}
theorem V5 {P : Program} {w' : World} {R : Value → World → Prop} {o : Oper} {ev : Operand → Value} (h : (execOp ev o).run P w = .ok (.value v) w') (hg : Zm w w') (hv : R v w') : upon P w R ((execOp ev o).run P w) := by
 rw [h]; exact ⟨hg, hv⟩
def Ys (w : World) (v : Value) (l : List Ent) : Prop := Yl (fun _ => True) w v l
theorem Ys.of (h : Yl S w v l) : Ys w v l := h.mono fun _ _ => trivial
theorem Ys.s (h : Ys w v l) : Yl (fun b => b < w.heap.size) w v l := Z5.all h (by decide)
theorem Yu (l : List Ent) : X2 (fun v w => Ys w v l) := fun _ _ _ hg h => Z5.grow h hg
theorem J7 (w : World) (ev : Operand → Value) (o : Oper) (s x y : Operand) (ho : o.op = Op.slice 69 s (some x) (some y) none) (b off n lc j : Nat) (hj : j < n) (hn : n ≤ lc) (h1 : ev s = .slice (some ⟨b, off, none⟩) n lc) (h2 : ev x = .int .i64 (j : Int)) (h3 : ev y = .int .i64 ((j : Int) + 1)) :
  (execOp ev o).run Try.prog w = .ok (.value (.slice (some ⟨b, off + j * 5, none⟩) 1 (lc - j))) w := by
 unfold execOp;rw [ho];go_simp;rw [if_pos (by omega), if_neg (by omega)]
theorem Qm {α : Type} {sh : Xh α} {ao : Option Addr} {xs : List α} (h : Z5 sh S w (.slice ao n cap) xs) : xs.length ≤ cap := by
 rcases h with ⟨_, _, _, rfl, _⟩ | ⟨_, _, _, _, h2, h3, _⟩
 ·simp
 ·cases h2; exact h3
theorem Zav {b off : Nat} (h : Yl S w (.slice (some ⟨b, off, none⟩) n cap) l) (i : Nat) (hi : i < l.length) : Yl S w (.slice (some ⟨b, off + i * 5, none⟩) 1 (cap - i)) [l[i]] := by
 have hc := Qm h;have h1 := h.sub i (i + 1) (by omega) (by omega) (cap - i) (by omega);have e1 : i + 1 - i = 1 := by omega
 have e2 : (l.drop i).take 1 = [l[i]] := by rw [List.drop_eq_getElem_cons hi]; rfl
 rw [e1, e2] at h1;exact h1
theorem Za3 (HOC : Zj9) (HSC : Zi8) (HFC : Zja) (HAC : Zka) (HDC : Zjc) (HLC : Zi9) (HNC : Zjb) (d : Dk) (vb vl : Value) (S : Nat → Prop) (l : List Ent) (e : Ent) (v : Value) (ea : Option Addr) (ec : Nat) (key ver pairs : Int) (w : World)
  (hb : Xe w vb d.blocks) (hlt : Qs w vl d.late) (hl0 : Yl S w v l) (he : Bytes w (.slice ea e.rc.data.length ec) e.rc.data) (hm : l.length ≤ 140737488355328) (hep : (Lit.int .i64 e.pair).wf = true) :
  Calls Try.prog 14 #[.agg #[vb, vl], v, .agg #[.int .i64 e.rc.kind, .int .i64 e.rc.key, .int .i64 e.rc.ver, .slice ea e.rc.data.length ec, .int .i64 e.pair], .int .i64 key, .int .i64 ver, .int .i64 pairs] w fun r w' => r = .returned (.bool true) ∧ Zm w w' := by
 have hl := hl0.all (by decide);clear hl0;obtain ⟨lo, lc, rfl⟩ := hl.form;obtain ⟨ab, cb, rfl⟩ := hb.form;obtain ⟨al, cl, rfl⟩ := hlt.form;have hd : Qf d (.agg #[.slice ab d.blocks.length cb, .slice al d.late.length cl]) w := ⟨_, _, rfl, hb, hlt⟩;have gW := Yb w (.cells #[.slice ab d.blocks.length cb, .slice al d.late.length cl] 46) (.cells #[.int .i64 e.rc.kind, .int .i64 e.rc.key, .int .i64 e.rc.ver, .slice ea e.rc.data.length ec, .int .i64 e.pair] 71);have hD0 := ((Zh (w.alloc (.cells #[.slice ab d.blocks.length cb, .slice al d.late.length cl] 46)) (.cells #[.int .i64 e.rc.kind, .int .i64 e.rc.key, .int .i64 e.rc.ver, .slice ea e.rc.data.length ec, .int .i64 e.pair] 71)).block _ (by simp)).trans (Zu w #[.slice ab d.blocks.length cb, .slice al d.late.length cl] 46);have hE0 := Zu (w.alloc (.cells #[.slice ab d.blocks.length cb, .slice al d.late.length cl] 46)) #[.int .i64 e.rc.kind, .int .i64 e.rc.key, .int .i64 e.rc.ver, .slice ea e.rc.data.length ec, .int .i64 e.pair] 71;rw [World.size_alloc] at hE0;clear hb hlt;have hdn : d.right = true → d.Fine 40 := Dk.right_fine;go_enter Try.func14, Try.ntmps14;go_upto_region 1 with fail
 go_cut [33] (fun c wx => c = .bool false ∧ Zm w wx ∧ wx.heap[w.heap.size + 1]? = some (.cells #[.int .i64 e.rc.kind, .int .i64 e.rc.key, .int .i64 e.rc.ver, .slice ea e.rc.data.length ec, .int .i64 e.pair] 71 (0, 0)))
 case rest =>
  obtain ⟨rfl, gw, hE⟩ := hcut;have hl1 := (hl.grow gw).all (by decide);clear hD0 hE0 gW hd hdn;go_wp2_with fail;refine (Zcr _ l _ _ hl1 hm).mono ?_;cases hrl : Xq l with
  | false =>
   rintro r w2 ⟨rfl, g2⟩;have gE := gw.trans g2;go_wp2_with fail;go_ret;exact ⟨rfl, gE⟩
  | true =>
   have HRL : Hid (Xq l = true) := hrl;have HGD : Hid (∀ x ∈ l, Ze0 x) := ((Xy l).1 hrl).2;have hln : l.length ≤ 1001 := right_len hrl;clear hrl hm;rintro r w2 ⟨rfl, g2⟩;by_cases hpp : 1000 < pairs
   ·have gE := gw.trans g2;go_wp2_with fail;go_ret;exact ⟨rfl, gE⟩
   ·have hpp' : pairs ≤ 1000 := by omega
    clear hpp;replace gw := gw.trans g2;replace hE := (g2.block _ (Zg hE)).trans hE;replace hl1 := (hl1.grow g2).all (by decide);clear g2;have hmm := @run_makeMap Try.prog;go_wp2_with fail;clear hmm;have gM := Zh w2 (.map #[] 0);have hM0 := Vk.made w2;have hE1 := (gM.block _ (Zg hE)).trans hE;have hl2 := hl1.grow gM;obtain ⟨W2, hW2⟩ : ∃ W2, W2 = w2.alloc (.map #[] 0) := ⟨_, rfl⟩;rw [← hW2] at gM hM0 hE1 hl2 ⊢;have gWM := gw.trans gM;have hBM : w2.heap.size + 1 ≤ W2.heap.size := by rw [hW2]; simp
    have HEL : Hid (w.heap.size + 1 < w2.heap.size) := Zg hE;clear hW2 gM hE gw;generalize hg2 : w2.heap.size = g2 at *;clear hg2 hl1;go_loopw [14, 15, 16, 44] (fun o la fo i wr => ∃ (k : Nat) (css : List (List Value)) (La Fo : Int), k ≤ l.length ∧ i = .int .i64 k ∧ la = .int .i64 La ∧ fo = .int .i64 Fo ∧ Hid (Xr l key k La) ∧ Hid (Yw l key ver k Fo) ∧ Yo Yc (fun b => b < g2) (g2 + 1) o (X1 (l.take k) e.pair) css wr ∧ Vk wr g2 k (Q6 (l.take k)) ∧ Zm w wr ∧ wr.heap[w.heap.size + 1]? = some (.cells #[.int .i64 e.rc.kind, .int .i64 e.rc.key, .int .i64 e.rc.ver, .slice ea e.rc.data.length ec, .int .i64 e.pair] 71 (0, 0)) ∧ Yl (fun b => b < g2) wr (.slice lo l.length lc) l) (fun _ _ _ i _ => l.length - (intOf i).toNat)
    case atStart => exact ⟨0, [], -1, -1, Nat.zero_le _, rfl, rfl, rfl, .inl ⟨rfl, rfl⟩, .inl ⟨rfl, rfl⟩, Yo.nil _ _ _ _, hM0.on (fun _ => rfl) (by omega), gWM, hE1, hl2⟩
    case round =>
     clear hM0 gWM hE1 hl2 hBM;obtain ⟨k, css, La, Fo, hk, rfl, rfl, rfl, HLs, HFd, hR, hM, gw, hE, hlr⟩ := hrel;by_cases hlt : k < l.length
     ·obtain ⟨b, off, a1, c1, hv1, q0, q1, q2, q3, q4, hu⟩ := X4 hlr k hlt;cases hv1;have HSTEP : Hid ((l[k].rc.key ≠ key → Xr l key (k + 1) La) ∧ (l[k].rc.key = key → Xr l key (k + 1) (k : Int)) ∧ (¬ (l[k].rc.key = key ∧ l[k].rc.ver = ver) → Yw l key ver (k + 1) Fo) ∧ (0 ≤ Fo → Yw l key ver (k + 1) Fo) ∧ (l[k].rc.key = key ∧ l[k].rc.ver = ver → Fo < 0 → Yw l key ver (k + 1) (k : Int))) :=
       ⟨fun h => Zgo hlt h HLs.out, fun h => Zie hlt h, fun h => Zeo hlt h HFd.out, fun h => Zep hlt HFd.out h, fun h h2 => Zgs hlt h HFd.out h2⟩
      have HDN : Hid (X1 (l.take (k + 1)) e.pair = X1 (l.take k) e.pair ++ (if l[k].pair = e.pair then [] else [l[k]])) := Zgx l e.pair k hlt;have HUS : Hid (∀ y, (decide (y = l[k].pair) || Q6 (l.take k) y) = Q6 (l.take (k + 1)) y) := Zfo l k hlt;have HGX : Hid (Ze0 l[k]) := HGD.out _ (List.getElem_mem _);have HZL : Hid ((X1 (l.take k) e.pair).length ≤ k) := by
       show _ ≤ k;unfold X1;exact Nat.le_trans (List.length_filter_le _ _) (by rw [List.length_take]; omega)
      have hFb := HFd.out.bd;generalize l[k] = x at *;generalize X1 (l.take k) e.pair = zs at *;have hzl : zs.length ≤ k := HZL.out;obtain ⟨a0, c0, rfl⟩ := hR.form;have HNE : Hid (some wr.heap.size ≠ (Value.slice a0 zs.length c0).ownBlock) := Zhq hR.row (Nat.le_refl _);have g1 := Zh wr (.cells #[.int .i64 x.rc.kind, .int .i64 x.rc.key, .int .i64 x.rc.ver, .slice a1 x.rc.data.length c1, .int .i64 x.pair] 71);have hX1 := Zu wr #[.int .i64 x.rc.kind, .int .i64 x.rc.key, .int .i64 x.rc.ver, .slice a1 x.rc.data.length c1, .int .i64 x.pair] 71;obtain ⟨w3, hrun, hM3, hb3⟩ := (hM.grow g1).put x.pair (Zcd HGX.out.2.2.1 (by have := HGX.out.2.2.2; omega)) (by omega);have HLT : Hid (g2 < wr.heap.size) := hM.lt;have hX3 := (hb3.block _ (Zg hX1) (by have := HLT.out; omega)).trans hX1;have hE3 := (hb3.block _ (Zg ((g1.block _ (Zg hE)).trans hE)) (by have := HEL.out; omega)).trans ((g1.block _ (Zg hE)).trans hE);have hR3 := (hR.grow g1).other hb3 (by omega) (by omega);have hl3 := (hlr.grow g1).but hb3 (by omega);have hu3 := (hu.grow g1).but hb3 (by omega);have gw3 := hb3.grow (gw.trans g1) (by have := HEL.out; omega);have HSZ : Hid (g2 + 1 ≤ w3.heap.size) := hM3.lt;obtain ⟨x0, x1, x2, x3, x4⟩ := Qa hX3 rfl rfl rfl rfl rfl;have e4 := Zk hE3 4 _ rfl;have y4 := Zk hX1 4 _ rfl;clear hX1 hM hE hR hlr hu gw g1 hb3 HLs HFd HGX HZL;by_cases hp : x.pair = e.pair
      ·have dp : (x.pair != e.pair) = false := by simp [hp]
       have HDR : Hid (X1 (l.take (k + 1)) e.pair = zs) := by show _ = _; rw [HDN.out, if_pos hp, List.append_nil]
       clear hp HDN;by_cases hy : x.rc.key = key
       ·by_cases hv : x.rc.ver = ver
        ·by_cases hf : Fo < 0
         ·have HLa : Hid (Xr l key (k + 1) (k : Int)) := HSTEP.out.2.1 hy;have dy : (x.rc.key == key) = true := by simp [hy]
          have HFo : Hid (Yw l key ver (k + 1) (k : Int)) := HSTEP.out.2.2.2.2 ⟨hy, hv⟩ hf;have dv : (x.rc.ver == ver) = true := by simp [hv]
          clear HSTEP hy hv;go_wp2_with fail;go_roundw
          case rel => exact ⟨k + 1, css, _, _, by omega, by go_num, rfl, rfl, HLa, HFo, by rw [HDR.out]; exact hR3, hM3.on HUS.out (by omega), gw3, hE3, hl3⟩
          case measure => simp [intOf]; omega
         ·have HLa : Hid (Xr l key (k + 1) (k : Int)) := HSTEP.out.2.1 hy;have dy : (x.rc.key == key) = true := by simp [hy]
          have HFo : Hid (Yw l key ver (k + 1) Fo) := HSTEP.out.2.2.2.1 (by omega);have dv : (x.rc.ver == ver) = true := by simp [hv]
          clear HSTEP hy hv;go_wp2_with fail;go_roundw
          case rel => exact ⟨k + 1, css, _, _, by omega, by go_num, rfl, rfl, HLa, HFo, by rw [HDR.out]; exact hR3, hM3.on HUS.out (by omega), gw3, hE3, hl3⟩
          case measure => simp [intOf]; omega
        ·have HLa : Hid (Xr l key (k + 1) (k : Int)) := HSTEP.out.2.1 hy;have dy : (x.rc.key == key) = true := by simp [hy]
         have HFo : Hid (Yw l key ver (k + 1) Fo) := HSTEP.out.2.2.1 (fun h => hv h.2);have dv : (x.rc.ver == ver) = false := by simp [hv]
         clear HSTEP hy hv;go_wp2_with fail;go_roundw
         case rel => exact ⟨k + 1, css, _, _, by omega, by go_num, rfl, rfl, HLa, HFo, by rw [HDR.out]; exact hR3, hM3.on HUS.out (by omega), gw3, hE3, hl3⟩
         case measure => simp [intOf]; omega
       ·have HLa : Hid (Xr l key (k + 1) La) := HSTEP.out.1 hy;have HFo : Hid (Yw l key ver (k + 1) Fo) := HSTEP.out.2.2.1 (fun h => hy h.1);have dy : (x.rc.key == key) = false := by simp [hy]
        clear HSTEP hy;go_wp2_with fail;go_roundw
        case rel => exact ⟨k + 1, css, _, _, by omega, by go_num, rfl, rfl, HLa, HFo, by rw [HDR.out]; exact hR3, hM3.on HUS.out (by omega), gw3, hE3, hl3⟩
        case measure => simp [intOf]; omega
      ·have dp : (x.pair != e.pair) = true := by simp [hp]
       have HDR : Hid (X1 (l.take (k + 1)) e.pair = zs ++ [x]) := by show _ = _; rw [HDN.out, if_neg hp]
       obtain ⟨i0, hif, hz0, hz1, hz2⟩ := info_parts Vh;clear hp HDN;by_cases hy : x.rc.key = key
       ·by_cases hv : x.rc.ver = ver
        ·by_cases hf : Fo < 0
         ·have HLa : Hid (Xr l key (k + 1) (k : Int)) := HSTEP.out.2.1 hy;have dy : (x.rc.key == key) = true := by simp [hy]
          have HFo : Hid (Yw l key ver (k + 1) (k : Int)) := HSTEP.out.2.2.2.2 ⟨hy, hv⟩ hf;have dv : (x.rc.ver == ver) = true := by simp [hv]
          clear HSTEP hy hv;go_wp2_with (first | (at_builtin; refine wpList_append_own _ rfl (.tmp 57) (.tmp 59) 69 rfl (g2 + 1) 71 i0 (.agg #[.int .i64 0, .int .i64 0, .int .i64 0, .slice none 0 0, .int .i64 0]) 5 56 Try.underlying69 hif hz0 hz1 hz2 rfl (by decide) (.slice a0 zs.length c0) _ _ rfl (hR3.row.alloc _) ⟨w3.heap.size, 0, none⟩ 1 1 [.int .i64 x.rc.kind, .int .i64 x.rc.key, .int .i64 x.rc.ver, .slice a1 x.rc.data.length c1, .int .i64 x.pair] rfl rfl (fun j u hj => Xk w3 _ _ _ _ _ _ j u hj) (by intro u hu; simp at hu; rcases hu with rfl | rfl | rfl | rfl | rfl <;> rfl) (by unfold maxLen; omega) (by omega) (by have := HSZ.out; simp; omega) ?_; intro v4 w4 hown4 hgrow4 _; have hR6 := hR3.step (x := x) (by decide) (fun b h => by omega) ⟨_, rfl, hu3.mono (fun _ h => .inl h)⟩ hgrow4 hown4; have hk6 := fun b (h1 : some b ≠ (Value.slice a0 zs.length c0).ownBlock) (h2 : b < w3.heap.size) => Y9 hR3.row hgrow4 h1 h2; have g6 : Zm w w4 := Z1 (gw3.trans (Zh _ _)) hgrow4 (fun k hk => by have := (hR3.row.lt k hk).1; have := HEL.out; omega); have hE6 := (hk6 _ (Xp hR3.row (by have := HEL.out; omega)) (Zg hE3)).trans hE3; have hX6 := (hk6 _ HNE.out (Zg hX3)).trans hX3; have hM6 := hM3.same (hk6 _ (Xp hR3.row (by omega)) hM3.lt); have hl6 := hl3.keep (fun b h1 h2 => hk6 b (Xp hR3.row (by omega)) h2); have hsl := Yv hown4; obtain ⟨a4, c4, hv4⟩ := hsl; subst hv4; clear hgrow4 hown4 hR3 hE3 gw3 hu3 hX3 hM3 hl3 hk6 x0 x1 x2 x3 x4; have x1 := Zk hX6 1 _ rfl; have x2 := Zk hX6 2 _ rfl))
          go_roundw
          case rel => exact ⟨k + 1, _, _, _, by omega, by go_num, rfl, rfl, HLa, HFo, by rw [HDR.out]; exact hR6, hM6.on HUS.out (by omega), g6, hE6, hl6⟩
          case measure => simp [intOf]; omega
         ·have HLa : Hid (Xr l key (k + 1) (k : Int)) := HSTEP.out.2.1 hy;have dy : (x.rc.key == key) = true := by simp [hy]
          have HFo : Hid (Yw l key ver (k + 1) Fo) := HSTEP.out.2.2.2.1 (by omega);have dv : (x.rc.ver == ver) = true := by simp [hv]
          clear HSTEP hy hv;go_wp2_with (first | (at_builtin; refine wpList_append_own _ rfl (.tmp 57) (.tmp 59) 69 rfl (g2 + 1) 71 i0 (.agg #[.int .i64 0, .int .i64 0, .int .i64 0, .slice none 0 0, .int .i64 0]) 5 56 Try.underlying69 hif hz0 hz1 hz2 rfl (by decide) (.slice a0 zs.length c0) _ _ rfl (hR3.row.alloc _) ⟨w3.heap.size, 0, none⟩ 1 1 [.int .i64 x.rc.kind, .int .i64 x.rc.key, .int .i64 x.rc.ver, .slice a1 x.rc.data.length c1, .int .i64 x.pair] rfl rfl (fun j u hj => Xk w3 _ _ _ _ _ _ j u hj) (by intro u hu; simp at hu; rcases hu with rfl | rfl | rfl | rfl | rfl <;> rfl) (by unfold maxLen; omega) (by omega) (by have := HSZ.out; simp; omega) ?_; intro v4 w4 hown4 hgrow4 _; have hR6 := hR3.step (x := x) (by decide) (fun b h => by omega) ⟨_, rfl, hu3.mono (fun _ h => .inl h)⟩ hgrow4 hown4; have hk6 := fun b (h1 : some b ≠ (Value.slice a0 zs.length c0).ownBlock) (h2 : b < w3.heap.size) => Y9 hR3.row hgrow4 h1 h2; have g6 : Zm w w4 := Z1 (gw3.trans (Zh _ _)) hgrow4 (fun k hk => by have := (hR3.row.lt k hk).1; have := HEL.out; omega); have hE6 := (hk6 _ (Xp hR3.row (by have := HEL.out; omega)) (Zg hE3)).trans hE3; have hX6 := (hk6 _ HNE.out (Zg hX3)).trans hX3; have hM6 := hM3.same (hk6 _ (Xp hR3.row (by omega)) hM3.lt); have hl6 := hl3.keep (fun b h1 h2 => hk6 b (Xp hR3.row (by omega)) h2); have hsl := Yv hown4; obtain ⟨a4, c4, hv4⟩ := hsl; subst hv4; clear hgrow4 hown4 hR3 hE3 gw3 hu3 hX3 hM3 hl3 hk6 x0 x1 x2 x3 x4; have x1 := Zk hX6 1 _ rfl; have x2 := Zk hX6 2 _ rfl))
          go_roundw
          case rel => exact ⟨k + 1, _, _, _, by omega, by go_num, rfl, rfl, HLa, HFo, by rw [HDR.out]; exact hR6, hM6.on HUS.out (by omega), g6, hE6, hl6⟩
          case measure => simp [intOf]; omega
        ·have HLa : Hid (Xr l key (k + 1) (k : Int)) := HSTEP.out.2.1 hy;have dy : (x.rc.key == key) = true := by simp [hy]
         have HFo : Hid (Yw l key ver (k + 1) Fo) := HSTEP.out.2.2.1 (fun h => hv h.2);have dv : (x.rc.ver == ver) = false := by simp [hv]
         clear HSTEP hy hv;go_wp2_with (first | (at_builtin; refine wpList_append_own _ rfl (.tmp 57) (.tmp 59) 69 rfl (g2 + 1) 71 i0 (.agg #[.int .i64 0, .int .i64 0, .int .i64 0, .slice none 0 0, .int .i64 0]) 5 56 Try.underlying69 hif hz0 hz1 hz2 rfl (by decide) (.slice a0 zs.length c0) _ _ rfl (hR3.row.alloc _) ⟨w3.heap.size, 0, none⟩ 1 1 [.int .i64 x.rc.kind, .int .i64 x.rc.key, .int .i64 x.rc.ver, .slice a1 x.rc.data.length c1, .int .i64 x.pair] rfl rfl (fun j u hj => Xk w3 _ _ _ _ _ _ j u hj) (by intro u hu; simp at hu; rcases hu with rfl | rfl | rfl | rfl | rfl <;> rfl) (by unfold maxLen; omega) (by omega) (by have := HSZ.out; simp; omega) ?_; intro v4 w4 hown4 hgrow4 _; have hR6 := hR3.step (x := x) (by decide) (fun b h => by omega) ⟨_, rfl, hu3.mono (fun _ h => .inl h)⟩ hgrow4 hown4; have hk6 := fun b (h1 : some b ≠ (Value.slice a0 zs.length c0).ownBlock) (h2 : b < w3.heap.size) => Y9 hR3.row hgrow4 h1 h2; have g6 : Zm w w4 := Z1 (gw3.trans (Zh _ _)) hgrow4 (fun k hk => by have := (hR3.row.lt k hk).1; have := HEL.out; omega); have hE6 := (hk6 _ (Xp hR3.row (by have := HEL.out; omega)) (Zg hE3)).trans hE3; have hX6 := (hk6 _ HNE.out (Zg hX3)).trans hX3; have hM6 := hM3.same (hk6 _ (Xp hR3.row (by omega)) hM3.lt); have hl6 := hl3.keep (fun b h1 h2 => hk6 b (Xp hR3.row (by omega)) h2); have hsl := Yv hown4; obtain ⟨a4, c4, hv4⟩ := hsl; subst hv4; clear hgrow4 hown4 hR3 hE3 gw3 hu3 hX3 hM3 hl3 hk6 x0 x1 x2 x3 x4; have x1 := Zk hX6 1 _ rfl; have x2 := Zk hX6 2 _ rfl))
         go_roundw
         case rel => exact ⟨k + 1, _, _, _, by omega, by go_num, rfl, rfl, HLa, HFo, by rw [HDR.out]; exact hR6, hM6.on HUS.out (by omega), g6, hE6, hl6⟩
         case measure => simp [intOf]; omega
       ·have HLa : Hid (Xr l key (k + 1) La) := HSTEP.out.1 hy;have HFo : Hid (Yw l key ver (k + 1) Fo) := HSTEP.out.2.2.1 (fun h => hy h.1);have dy : (x.rc.key == key) = false := by simp [hy]
        clear HSTEP hy;go_wp2_with (first | (at_builtin; refine wpList_append_own _ rfl (.tmp 57) (.tmp 59) 69 rfl (g2 + 1) 71 i0 (.agg #[.int .i64 0, .int .i64 0, .int .i64 0, .slice none 0 0, .int .i64 0]) 5 56 Try.underlying69 hif hz0 hz1 hz2 rfl (by decide) (.slice a0 zs.length c0) _ _ rfl (hR3.row.alloc _) ⟨w3.heap.size, 0, none⟩ 1 1 [.int .i64 x.rc.kind, .int .i64 x.rc.key, .int .i64 x.rc.ver, .slice a1 x.rc.data.length c1, .int .i64 x.pair] rfl rfl (fun j u hj => Xk w3 _ _ _ _ _ _ j u hj) (by intro u hu; simp at hu; rcases hu with rfl | rfl | rfl | rfl | rfl <;> rfl) (by unfold maxLen; omega) (by omega) (by have := HSZ.out; simp; omega) ?_; intro v4 w4 hown4 hgrow4 _; have hR6 := hR3.step (x := x) (by decide) (fun b h => by omega) ⟨_, rfl, hu3.mono (fun _ h => .inl h)⟩ hgrow4 hown4; have hk6 := fun b (h1 : some b ≠ (Value.slice a0 zs.length c0).ownBlock) (h2 : b < w3.heap.size) => Y9 hR3.row hgrow4 h1 h2; have g6 : Zm w w4 := Z1 (gw3.trans (Zh _ _)) hgrow4 (fun k hk => by have := (hR3.row.lt k hk).1; have := HEL.out; omega); have hE6 := (hk6 _ (Xp hR3.row (by have := HEL.out; omega)) (Zg hE3)).trans hE3; have hX6 := (hk6 _ HNE.out (Zg hX3)).trans hX3; have hM6 := hM3.same (hk6 _ (Xp hR3.row (by omega)) hM3.lt); have hl6 := hl3.keep (fun b h1 h2 => hk6 b (Xp hR3.row (by omega)) h2); have hsl := Yv hown4; obtain ⟨a4, c4, hv4⟩ := hsl; subst hv4; clear hgrow4 hown4 hR3 hE3 gw3 hu3 hX3 hM3 hl3 hk6 x0 x1 x2 x3 x4; have x1 := Zk hX6 1 _ rfl; have x2 := Zk hX6 2 _ rfl))
        go_roundw
        case rel => exact ⟨k + 1, _, _, _, by omega, by go_num, rfl, rfl, HLa, HFo, by rw [HDR.out]; exact hR6, hM6.on HUS.out (by omega), g6, hE6, hl6⟩
        case measure => simp [intOf]; omega
     ·have hkl : k = l.length := by omega
      have HLS : Hid (Xr l key l.length La) := by show Xr _ _ _ _; rw [← hkl]; exact HLs.out
      have HFS : Hid (Yw l key ver l.length Fo) := by show Yw _ _ _ _ _; rw [← hkl]; exact HFd.out
      have HTK : Hid (l.take k = l) := by show _ = _; rw [hkl, List.take_length]
      rw [HTK.out] at hR hM;clear hkl HLs HFd HTK;obtain ⟨a0, c0, rfl⟩ := hR.form;go_wp2_with fail;obtain ⟨wo, rfl⟩ : ∃ wo : World, wo = wr := ⟨_, rfl⟩;go_loopw [19] (fun f wq => wq = wo ∧ ∃ n : Nat, n ≤ 1001 ∧ f = .int .i64 n ∧ Hid (∀ m : Nat, m < n → Q6 l (m : Int) = true)) (fun f _ => 1002 - (intOf f).toNat)
      case atStart => exact ⟨rfl, 0, by omega, rfl, fun m hm => by omega⟩
      case round =>
       obtain ⟨hww, n, hn, rfl, HU⟩ := hrel;subst hww;have hask := hM.ask (n : Int) (Zcd (by omega) (by omega));cases hub : Q6 l (n : Int) with
       | true =>
        rw [hub] at hask;have hn2 : n ≤ 1000 := by
         obtain ⟨x, hx, hxp⟩ := (Ku l _).1 hub;have := (HGD.out x hx).2.2.2;omega
        have HU2 : Hid (∀ m : Nat, m < n + 1 → Q6 l (m : Int) = true) := fun m hm => by
         by_cases e : m = n
         ·rw [e]; exact hub
         ·exact HU.out m (by omega)
        clear hub HU;go_wp2_with fail;go_roundw
        case rel => exact ⟨trivial, n + 1, by omega, by go_num, HU2⟩
        case measure => simp [intOf]; omega
       | false =>
        rw [hub] at hask;have HLEAST : Hid (Kn l n) := ⟨fun m hm => (Ku l _).1 (HU.out m hm), fun x hx hxp => by
         have := (Ku l (n : Int)).2 ⟨x, hx, hxp⟩;rw [hub] at this; cases this⟩
        clear hub HU;go_upto_if 85 with fail
        clear hask;go_cut [19] (fun f wx => ∃ F : Int, f = .int .i64 F ∧ Ju l pairs F ∧ wx = wr)
        case first =>
         by_cases hfp : pairs ≤ (n : Int)
         ·go_wp2_with fail;go_meet;exact ⟨-1, rfl, ⟨n, HLEAST.out, .inr ⟨hfp, rfl⟩⟩, rfl⟩
         ·have hfp' : (n : Int) < pairs := by omega
          go_wp2_with fail;go_meet;exact ⟨n, rfl, ⟨n, HLEAST.out, .inl ⟨hfp', rfl⟩⟩, rfl⟩
        case rest =>
         obtain ⟨F, rfl, HFO', hwc⟩ := hcut;subst hwc;have HFO : Hid (Ju l pairs F) := HFO';clear HFO' HLEAST;have hlr1 := hlr.all (by decide);go_wp2_with fail;refine (HLC _ l key _ _ (fun b h => h) HRL.out hlr1).mono ?_;rintro r w4 ⟨v4, rfl, ⟨x, a4, c4, rfl, hx4⟩, g4⟩;obtain ⟨okL, hokL⟩ : ∃ b, b = (X5 l key).isSome := ⟨_, rfl⟩;rw [← hokL];have HX4 : Hid (∀ y, X5 l key = some y → y = x ∧ Bytes w4 (.slice a4 x.rc.data.length c4) x.rc.data) := fun y hy => ⟨(hx4 y hy).1, (hx4 y hy).2.p⟩
         have HOL : Hid _ := hokL;clear hokL hx4;have g5 := Zh w4 (.cells #[.int .i64 x.rc.kind, .int .i64 x.rc.key, .int .i64 x.rc.ver, .slice a4 x.rc.data.length c4, .int .i64 x.pair] 71);have hA5 := Zu w4 #[.int .i64 x.rc.kind, .int .i64 x.rc.key, .int .i64 x.rc.ver, .slice a4 x.rc.data.length c4, .int .i64 x.pair] 71;have hl5 := hlr1.grow (g4.trans g5);replace hl5 := hl5.all (by decide);go_wp2_with fail;refine (HNC _ l key ver _ _ (fun b h => h) HRL.out hl5).mono ?_;rintro r w6 ⟨v6, rfl, ⟨z, a6, c6, rfl, hz6⟩, g6⟩;obtain ⟨okF, hokF⟩ : ∃ b, b = (X0 l key ver).isSome := ⟨_, rfl⟩;rw [← hokF];have HZ6 : Hid (∀ y, X0 l key ver = some y → y = z ∧ Bytes w6 (.slice a6 z.rc.data.length c6) z.rc.data) := fun y hy => ⟨(hz6 y hy).1, (hz6 y hy).2.p⟩
         have HOF : Hid _ := hokF;clear hokF hz6;have g7 := Zh w6 (.cells #[.int .i64 z.rc.kind, .int .i64 z.rc.key, .int .i64 z.rc.ver, .slice a6 z.rc.data.length c6, .int .i64 z.pair] 71);have hC7 := Zu w6 #[.int .i64 z.rc.kind, .int .i64 z.rc.key, .int .i64 z.rc.ver, .slice a6 z.rc.data.length c6, .int .i64 z.pair] 71;have hA7 := ((g6.trans g7).block _ (Zg hA5)).trans hA5;have hl7 := (hl5.grow (g6.trans g7)).all (by decide);have gr7 := (g4.trans g5).trans (g6.trans g7);have HX7 : Hid (∀ y, X5 l key = some y → y = x ∧ Bytes (w6.alloc (.cells #[.int .i64 z.rc.kind, .int .i64 z.rc.key, .int .i64 z.rc.ver, .slice a6 z.rc.data.length c6, .int .i64 z.pair] 71)) (.slice a4 x.rc.data.length c4) x.rc.data) := fun y hy => ⟨(HX4.out y hy).1, Zw (HX4.out y hy).2 (g5.trans (g6.trans g7))⟩
         have HZ7 : Hid (∀ y, X0 l key ver = some y → y = z ∧ Bytes (w6.alloc (.cells #[.int .i64 z.rc.kind, .int .i64 z.rc.key, .int .i64 z.rc.ver, .slice a6 z.rc.data.length c6, .int .i64 z.pair] 71)) (.slice a6 z.rc.data.length c6) z.rc.data) := fun y hy => ⟨(HZ6.out y hy).1, Zw (HZ6.out y hy).2 g7⟩
         clear HX4 HZ6 hl5 hA5 g4 g5 g6 g7 hlr1;go_upto_region 26 with fail
         generalize w4.heap.size = ga at *;generalize w6.heap.size = gc at *;generalize World.alloc w6 _ = W7 at *;go_cut [136] (fun c wx => c = .bool false ∧ Zm W7 wx)
         case first =>
          rcases HLS.out with ⟨hl1n, rfl⟩ | ⟨i, hi, rfl, hl1s⟩
          ·rw [List.take_length] at hl1n;have hoL : okL = false := by rw [HOL.out, hl1n]; rfl
           subst hoL;rcases HFS.out with ⟨hl2n, rfl⟩ | ⟨j, hj, rfl, hl2s⟩
           ·rw [List.take_length] at hl2n;have hoF : okF = false := by rw [HOF.out, hl2n]; rfl
            subst hoF;have hcap := Qm hl7;clear HX7 HZ7 hlr hM hR;refine Zr [ex (.bool false), ex (.int .i64 (-1)), ex (.bool false), ex (.bool false), ex (.bool false), ex (.bool false), ex (.bool false), ex (undef), ex (undef), ex (undef), ex (undef), ex (undef), ex (undef), ex (undef), ex (undef), ex (undef), ex (.bool false), ex (.bool false), ex (.bool false), ex (.bool false), ex (.int .i64 (-1)), ex (.bool false), ex (.bool false), ex (.bool false), ex (.bool false), ex (.bool false), ex (.bool false), ex (undef), ex (undef), ex (undef), ex (undef), ex (undef), ex (undef), ex (undef), ex (undef), ex (undef), ex (.bool false), ex (.bool false)] (by kernel_rfl) (by kernel_rfl) ⟨Zc _, Zc _, Zc _, Zc _, Zc _, Zc _, Zc _, Zc _, Zc _, Zc _, Zc _, Zc _, Zc _, Zc _, Zc _, Zc _, Zc _, Zc _, Zc _, Zc _, Zc _, Zc _, Zc _, Zc _, Zc _, Zc _, Zc _, Zc _, Zc _, Zc _, Zc _, Zc _, Zc _, Zc _, Zc _, Zc _, Zc _, Zc _, trivial⟩ ?_ ?_
            ·refine ⟨?_, ?_, ?_, ?_, ?_, ?_, ?_, ?_, ?_, ?_, ?_, ?_, ?_, ?_, ?_, ?_, ?_, ?_, ?_, ?_, ?_, ?_, ?_, ?_, ?_, ?_, ?_, ?_, ?_, ?_, ?_, ?_, ?_, ?_, ?_, ?_, ?_, ?_, trivial⟩
             ·exact Za rfl fun a _ _ _ _ A => Zf rfl (Zj A 21 rfl)
             ·exact Za rfl fun a _ _ _ _ A => Zf rfl (Zj A 15 rfl)
             ·refine Za rfl fun a _ _ _ B A => ?_;have e100 : a (.tmp 100) = _ := Zb A 1 rfl;refine Ze ?_ rfl;clear A B;go_simp;all_goals go_arith
             ·refine Za rfl fun a _ _ _ B A => ?_;have e99 : a (.tmp 99) = _ := Zb A 0 rfl;have e101 : a (.tmp 101) = _ := Zb A 2 rfl;refine Ze ?_ rfl;clear A B;go_simp;all_goals go_arith
             ·exact Za rfl fun a _ _ _ _ A => Zf rfl (Zb A 3 rfl)
             ·exact Zd 4 false rfl rfl rfl fun a _ _ _ _ A => Zf rfl (Zj A 21 rfl)
             ·exact Zd 4 false rfl rfl rfl fun a _ _ _ _ A => Zf rfl (Zb A 5 rfl)
             ·refine Zi 6 true rfl rfl rfl (fun _ => rfl)
             ·refine Zi 6 true rfl rfl rfl (fun _ => rfl)
             ·refine Zi 6 true rfl rfl rfl (fun _ => rfl)
             ·refine Zi 6 true rfl rfl rfl (fun _ => rfl)
             ·refine Zi 6 true rfl rfl rfl (fun _ => rfl)
             ·refine Zi 6 true rfl rfl rfl (fun _ => rfl)
             ·refine Zi 6 true rfl rfl rfl (fun _ => rfl)
             ·refine Zi 6 true rfl rfl rfl (fun _ => rfl)
             ·refine Zi 6 true rfl rfl rfl (fun _ => rfl)
             ·refine Zd 4 false rfl rfl rfl fun a _ B _ _ A => ?_;have ec : a (.tmp 105) = _ := Zb A 6 rfl;exact Zp rfl ec (B _)
             ·refine Za rfl fun a _ _ _ _ A => ?_;have ec : a (.tmp 103) = _ := Zb A 4 rfl;have e : a (.tmp 115) = _ := Zb A 16 rfl;exact Zp rfl ec e
             ·exact Za rfl fun a _ _ _ _ A => Zf rfl (Zb A 17 rfl)
             ·exact Zd 18 false rfl rfl rfl fun a _ _ _ _ A => Zf rfl (Zj A 23 rfl)
             ·exact Zd 18 false rfl rfl rfl fun a _ _ _ _ A => Zf rfl (Zj A 16 rfl)
             ·refine Zd 18 false rfl rfl rfl fun a _ _ _ B A => ?_;have e119 : a (.tmp 119) = _ := Zb A 20 rfl;refine Ze ?_ rfl;clear A B;go_simp;all_goals go_arith
             ·refine Zd 18 false rfl rfl rfl fun a _ _ _ B A => ?_;have e118 : a (.tmp 118) = _ := Zb A 19 rfl;have e120 : a (.tmp 120) = _ := Zb A 21 rfl;refine Ze ?_ rfl;clear A B;go_simp;all_goals go_arith
             ·refine Za rfl fun a _ _ _ _ A => ?_;have ec : a (.tmp 117) = _ := Zb A 18 rfl;have e : a (.tmp 121) = _ := Zb A 22 rfl;exact Zp rfl ec e
             ·exact Za rfl fun a _ _ _ _ A => Zf rfl (Zb A 23 rfl)
             ·exact Zd 24 false rfl rfl rfl fun a _ _ _ _ A => Zf rfl (Zj A 23 rfl)
             ·exact Zd 24 false rfl rfl rfl fun a _ _ _ _ A => Zf rfl (Zb A 25 rfl)
             ·refine Zi 26 true rfl rfl rfl (fun _ => rfl)
             ·refine Zi 26 true rfl rfl rfl (fun _ => rfl)
             ·refine Zi 26 true rfl rfl rfl (fun _ => rfl)
             ·refine Zi 26 true rfl rfl rfl (fun _ => rfl)
             ·refine Zi 26 true rfl rfl rfl (fun _ => rfl)
             ·refine Zi 26 true rfl rfl rfl (fun _ => rfl)
             ·refine Zi 26 true rfl rfl rfl (fun _ => rfl)
             ·refine Zi 26 true rfl rfl rfl (fun _ => rfl)
             ·refine Zi 26 true rfl rfl rfl (fun _ => rfl)
             ·refine Zd 24 false rfl rfl rfl fun a _ B _ _ A => ?_;have ec : a (.tmp 125) = _ := Zb A 26 rfl;exact Zp rfl ec (B _)
             ·refine Za rfl fun a _ _ _ _ A => ?_;have ec : a (.tmp 123) = _ := Zb A 24 rfl;have e : a (.tmp 135) = _ := Zb A 36 rfl;exact Zp rfl ec e
            ·intro vs w' hg ht;obtain ⟨(r99 : vs 0 = _), (r100 : vs 1 = _), (r101 : vs 2 = _), (r102 : vs 3 = _), (r103 : vs 4 = _), (r104 : vs 5 = _), (r105 : vs 6 = _), (r106 : vs 7 = _), (r107 : vs 8 = _), (r108 : vs 9 = _), (r109 : vs 10 = _), (r110 : vs 11 = _), (r111 : vs 12 = _), (r112 : vs 13 = _), (r113 : vs 14 = _), (r114 : vs 15 = _), (r115 : vs 16 = _), (r116 : vs 17 = _), (r117 : vs 18 = _), (r118 : vs 19 = _), (r119 : vs 20 = _), (r120 : vs 21 = _), (r121 : vs 22 = _), (r122 : vs 23 = _), (r123 : vs 24 = _), (r124 : vs 25 = _), (r125 : vs 26 = _), (r126 : vs 27 = _), (r127 : vs 28 = _), (r128 : vs 29 = _), (r129 : vs 30 = _), (r130 : vs 31 = _), (r131 : vs 32 = _), (r132 : vs 33 = _), (r133 : vs 34 = _), (r134 : vs 35 = _), (r135 : vs 36 = _), (r136 : vs 37 = _), -⟩ := ht;simp only [Z3, Act.put, List.setIfInBounds_toArray, List.set_cons_zero, List.set_cons_succ, r99, r100, r101, r102, r103, r104, r105, r106, r107, r108, r109, r110, r111, r112, r113, r114, r115, r116, r117, r118, r119, r120, r121, r122, r123, r124, r125, r126, r127, r128, r129, r130, r131, r132, r133, r134, r135, r136];clear r99 r100 r101 r102 r103 r104 r105 r106 r107 r108 r109 r110 r111 r112 r113 r114 r115 r116 r117 r118 r119 r120 r121 r122 r123 r124 r125 r126 r127 r128 r129 r130 r131 r132 r133 r134 r135 r136;go_wp2_with fail;go_meet;exact ⟨rfl, hg⟩
           ·rw [List.take_length] at hl2s;have hoF : okF = true := by rw [HOF.out, hl2s]; rfl
            subst hoF;obtain ⟨hze, hbz⟩ := HZ7.out _ hl2s;obtain ⟨b, off, hlo, -, -⟩ := hl7.at j hj;subst hlo;have htwo := Zav hl7 j hj;rw [hze] at htwo;have hcap := Qm hl7;clear HX7 HZ7 hlr hM hR;refine Zr [ex (.bool false), ex (.int .i64 (-1)), ex (.bool false), ex (.bool false), ex (.bool false), ex (.bool false), ex (.bool false), ex (undef), ex (undef), ex (undef), ex (undef), ex (undef), ex (undef), ex (undef), ex (undef), ex (undef), ex (.bool false), ex (.bool false), ex (.bool false), ex (.bool true), ex (.int .i64 (j : Int)), ex (.bool true), ex (.bool false), ex (.bool false), ex (.bool false), ex (.bool true), ex (.bool true), ex (.agg #[.int .i64 z.rc.kind, .int .i64 z.rc.key, .int .i64 z.rc.ver, .slice a6 z.rc.data.length c6, .int .i64 z.pair]), ((fun v w' => Ys w' v [z])), ex (.slice (some ⟨b, off, none⟩) l.length lc), ex (.int .i64 (j : Int)), ex (.int .i64 (j : Int)), ex (.int .i64 ((j : Int) + 1)), ex (.slice (some ⟨b, off + j * 5, none⟩) 1 (lc - j)), ex (.bool true), ex (.bool false), ex (.bool false), ex (.bool false)] (by kernel_rfl) (by kernel_rfl) ⟨Zc _, Zc _, Zc _, Zc _, Zc _, Zc _, Zc _, Zc _, Zc _, Zc _, Zc _, Zc _, Zc _, Zc _, Zc _, Zc _, Zc _, Zc _, Zc _, Zc _, Zc _, Zc _, Zc _, Zc _, Zc _, Zc _, Zc _, Zc _, Yu _, Zc _, Zc _, Zc _, Zc _, Zc _, Zc _, Zc _, Zc _, Zc _, trivial⟩ ?_ ?_
            ·refine ⟨?_, ?_, ?_, ?_, ?_, ?_, ?_, ?_, ?_, ?_, ?_, ?_, ?_, ?_, ?_, ?_, ?_, ?_, ?_, ?_, ?_, ?_, ?_, ?_, ?_, ?_, ?_, ?_, ?_, ?_, ?_, ?_, ?_, ?_, ?_, ?_, ?_, ?_, trivial⟩
             ·exact Za rfl fun a _ _ _ _ A => Zf rfl (Zj A 21 rfl)
             ·exact Za rfl fun a _ _ _ _ A => Zf rfl (Zj A 15 rfl)
             ·refine Za rfl fun a _ _ _ B A => ?_;have e100 : a (.tmp 100) = _ := Zb A 1 rfl;refine Ze ?_ rfl;clear A B;go_simp;all_goals go_arith
             ·refine Za rfl fun a _ _ _ B A => ?_;have e99 : a (.tmp 99) = _ := Zb A 0 rfl;have e101 : a (.tmp 101) = _ := Zb A 2 rfl;refine Ze ?_ rfl;clear A B;go_simp;all_goals go_arith
             ·exact Za rfl fun a _ _ _ _ A => Zf rfl (Zb A 3 rfl)
             ·exact Zd 4 false rfl rfl rfl fun a _ _ _ _ A => Zf rfl (Zj A 21 rfl)
             ·exact Zd 4 false rfl rfl rfl fun a _ _ _ _ A => Zf rfl (Zb A 5 rfl)
             ·refine Zi 6 true rfl rfl rfl (fun _ => rfl)
             ·refine Zi 6 true rfl rfl rfl (fun _ => rfl)
             ·refine Zi 6 true rfl rfl rfl (fun _ => rfl)
             ·refine Zi 6 true rfl rfl rfl (fun _ => rfl)
             ·refine Zi 6 true rfl rfl rfl (fun _ => rfl)
             ·refine Zi 6 true rfl rfl rfl (fun _ => rfl)
             ·refine Zi 6 true rfl rfl rfl (fun _ => rfl)
             ·refine Zi 6 true rfl rfl rfl (fun _ => rfl)
             ·refine Zi 6 true rfl rfl rfl (fun _ => rfl)
             ·refine Zd 4 false rfl rfl rfl fun a _ B _ _ A => ?_;have ec : a (.tmp 105) = _ := Zb A 6 rfl;exact Zp rfl ec (B _)
             ·refine Za rfl fun a _ _ _ _ A => ?_;have ec : a (.tmp 103) = _ := Zb A 4 rfl;have e : a (.tmp 115) = _ := Zb A 16 rfl;exact Zp rfl ec e
             ·exact Za rfl fun a _ _ _ _ A => Zf rfl (Zb A 17 rfl)
             ·exact Zd 18 false rfl rfl rfl fun a _ _ _ _ A => Zf rfl (Zj A 23 rfl)
             ·exact Zd 18 false rfl rfl rfl fun a _ _ _ _ A => Zf rfl (Zj A 16 rfl)
             ·refine Zd 18 false rfl rfl rfl fun a _ _ _ B A => ?_;have e119 : a (.tmp 119) = _ := Zb A 20 rfl;refine Ze ?_ rfl;clear A B;go_simp;all_goals go_arith
             ·refine Zd 18 false rfl rfl rfl fun a _ _ _ B A => ?_;have e118 : a (.tmp 118) = _ := Zb A 19 rfl;have e120 : a (.tmp 120) = _ := Zb A 21 rfl;refine Ze ?_ rfl;clear A B;go_simp;all_goals go_arith
             ·refine Za rfl fun a _ _ _ _ A => ?_;have ec : a (.tmp 117) = _ := Zb A 18 rfl;have e : a (.tmp 121) = _ := Zb A 22 rfl;exact Zp rfl ec e
             ·exact Za rfl fun a _ _ _ _ A => Zf rfl (Zb A 23 rfl)
             ·exact Zd 24 false rfl rfl rfl fun a _ _ _ _ A => Zf rfl (Zj A 23 rfl)
             ·exact Zd 24 false rfl rfl rfl fun a _ _ _ _ A => Zf rfl (Zb A 25 rfl)
             ·refine Zd 26 true rfl rfl rfl fun a _ _ _ B A => ?_;have e22 : a (.tmp 22) = .pointer (some ⟨gc, 0, none⟩) := Zj A 22 rfl;have hA := (B.block _ (Zg hC7)).trans hC7;obtain ⟨z0, z1, z2, z3, z4⟩ := Qa hA rfl rfl rfl rfl rfl;refine Ze ?_ rfl;clear A B hA;go_simp;all_goals go_arith
             ·refine Zd 26 true rfl rfl rfl fun a w' _ _ B A => ?_;have e126 : a (.tmp 126) = _ := Zb A 27 rfl;refine V5 (v := .slice (some ⟨w'.heap.size, 0, none⟩) 1 1) (w' := w'.alloc (.cells #[.int .i64 z.rc.kind, .int .i64 z.rc.key, .int .i64 z.rc.ver, .slice a6 z.rc.data.length c6, .int .i64 z.pair] 71)) ?_ (Zh _ _) (Ys.of (V8 (Zu _ _ _) (Qx (Zw hbz (B.trans (Zh _ _))))));clear A B;go_simp;all_goals go_arith
             ·exact Zd 26 true rfl rfl rfl fun a _ _ _ _ A => Zf rfl (Zj A 1 rfl)
             ·exact Zd 26 true rfl rfl rfl fun a _ _ _ _ A => Zf rfl (Zj A 16 rfl)
             ·exact Zd 26 true rfl rfl rfl fun a _ _ _ _ A => Zf rfl (Zj A 16 rfl)
             ·refine Zd 26 true rfl rfl rfl fun a _ _ _ B A => ?_;have e130 : a (.tmp 130) = _ := Zb A 31 rfl;refine Ze ?_ rfl;clear A B;go_simp;all_goals go_arith
             ·refine Zd 26 true rfl rfl rfl fun a B _ _ _ A => ?_;have e128 : a (.tmp 128) = _ := Zb A 29 rfl;have e129 : a (.tmp 129) = _ := Zb A 30 rfl;have e131 : a (.tmp 131) = _ := Zb A 32 rfl;exact Ze (J7 B a _ _ _ _ rfl b off l.length lc j hj hcap e128 e129 e131) rfl
             ·refine Zd 26 true rfl rfl rfl fun a B _ _ C A => ?_;have e127 : ((fun v B => Ys B v [z])) (a (.tmp 127)) B := Zb A 28 rfl;have e132 : a (.tmp 132) = _ := Zb A 33 rfl;obtain ⟨a9, c9, h9⟩ : ∃ p q, a (.tmp 127) = .slice p 1 q := Z5.form e127;refine Zx (f := 58) (args := #[.slice a9 1 c9, .slice (some ⟨b, off + j * 5, none⟩) 1 (lc - j)]) ?_ ((Xg [z] [z] _ _ _ _ B (by rw [← h9]; exact e127) (htwo.grow C) (by simp)).mono ?_)
              ·clear A C e127;go_simp;all_goals go_arith
              ·rw [Xf];rintro r w2 ⟨rfl, g2⟩;exact ⟨_, rfl, g2, rfl⟩
             ·refine Zd 26 true rfl rfl rfl fun a _ _ _ B A => ?_;have e133 : a (.tmp 133) = _ := Zb A 34 rfl;refine Ze ?_ rfl;clear A B;go_simp;all_goals go_arith
             ·refine Zd 24 false rfl rfl rfl fun a _ _ _ _ A => ?_;have ec : a (.tmp 125) = _ := Zb A 26 rfl;have e : a (.tmp 134) = _ := Zb A 35 rfl;exact Zp rfl ec e
             ·refine Za rfl fun a _ _ _ _ A => ?_;have ec : a (.tmp 123) = _ := Zb A 24 rfl;have e : a (.tmp 135) = _ := Zb A 36 rfl;exact Zp rfl ec e
            ·intro vs w' hg ht;obtain ⟨(r99 : vs 0 = _), (r100 : vs 1 = _), (r101 : vs 2 = _), (r102 : vs 3 = _), (r103 : vs 4 = _), (r104 : vs 5 = _), (r105 : vs 6 = _), (r106 : vs 7 = _), (r107 : vs 8 = _), (r108 : vs 9 = _), (r109 : vs 10 = _), (r110 : vs 11 = _), (r111 : vs 12 = _), (r112 : vs 13 = _), (r113 : vs 14 = _), (r114 : vs 15 = _), (r115 : vs 16 = _), (r116 : vs 17 = _), (r117 : vs 18 = _), (r118 : vs 19 = _), (r119 : vs 20 = _), (r120 : vs 21 = _), (r121 : vs 22 = _), (r122 : vs 23 = _), (r123 : vs 24 = _), (r124 : vs 25 = _), (r125 : vs 26 = _), (r126 : vs 27 = _), q127, (r128 : vs 29 = _), (r129 : vs 30 = _), (r130 : vs 31 = _), (r131 : vs 32 = _), (r132 : vs 33 = _), (r133 : vs 34 = _), (r134 : vs 35 = _), (r135 : vs 36 = _), (r136 : vs 37 = _), -⟩ := ht;simp only [Z3, Act.put, List.setIfInBounds_toArray, List.set_cons_zero, List.set_cons_succ, r99, r100, r101, r102, r103, r104, r105, r106, r107, r108, r109, r110, r111, r112, r113, r114, r115, r116, r117, r118, r119, r120, r121, r122, r123, r124, r125, r126, r128, r129, r130, r131, r132, r133, r134, r135, r136];clear r99 r100 r101 r102 r103 r104 r105 r106 r107 r108 r109 r110 r111 r112 r113 r114 r115 r116 r117 r118 r119 r120 r121 r122 r123 r124 r125 r126 r128 r129 r130 r131 r132 r133 r134 r135 r136;clear q127;generalize vs 28 = u127;go_wp2_with fail;go_meet;exact ⟨rfl, hg⟩
          ·rw [List.take_length] at hl1s;have hoL : okL = true := by rw [HOL.out, hl1s]; rfl
           subst hoL;obtain ⟨hxe, hbx⟩ := HX7.out _ hl1s;obtain ⟨b, off, hlo, -, -⟩ := hl7.at i hi;subst hlo;have hone := Zav hl7 i hi;rw [hxe] at hone;rcases HFS.out with ⟨hl2n, rfl⟩ | ⟨j, hj, rfl, hl2s⟩
           ·rw [List.take_length] at hl2n;have hoF : okF = false := by rw [HOF.out, hl2n]; rfl
            subst hoF;have hcap := Qm hl7;clear HX7 HZ7 hlr hM hR;refine Zr [ex (.bool true), ex (.int .i64 (i : Int)), ex (.bool true), ex (.bool false), ex (.bool false), ex (.bool true), ex (.bool true), ex (.agg #[.int .i64 x.rc.kind, .int .i64 x.rc.key, .int .i64 x.rc.ver, .slice a4 x.rc.data.length c4, .int .i64 x.pair]), ((fun v w' => Ys w' v [x])), ex (.slice (some ⟨b, off, none⟩) l.length lc), ex (.int .i64 (i : Int)), ex (.int .i64 (i : Int)), ex (.int .i64 ((i : Int) + 1)), ex (.slice (some ⟨b, off + i * 5, none⟩) 1 (lc - i)), ex (.bool true), ex (.bool false), ex (.bool false), ex (.bool false), ex (.bool false), ex (.bool false), ex (.int .i64 (-1)), ex (.bool false), ex (.bool false), ex (.bool false), ex (.bool false), ex (.bool false), ex (.bool false), ex (undef), ex (undef), ex (undef), ex (undef), ex (undef), ex (undef), ex (undef), ex (undef), ex (undef), ex (.bool false), ex (.bool false)] (by kernel_rfl) (by kernel_rfl) ⟨Zc _, Zc _, Zc _, Zc _, Zc _, Zc _, Zc _, Zc _, Yu _, Zc _, Zc _, Zc _, Zc _, Zc _, Zc _, Zc _, Zc _, Zc _, Zc _, Zc _, Zc _, Zc _, Zc _, Zc _, Zc _, Zc _, Zc _, Zc _, Zc _, Zc _, Zc _, Zc _, Zc _, Zc _, Zc _, Zc _, Zc _, Zc _, trivial⟩ ?_ ?_
            ·refine ⟨?_, ?_, ?_, ?_, ?_, ?_, ?_, ?_, ?_, ?_, ?_, ?_, ?_, ?_, ?_, ?_, ?_, ?_, ?_, ?_, ?_, ?_, ?_, ?_, ?_, ?_, ?_, ?_, ?_, ?_, ?_, ?_, ?_, ?_, ?_, ?_, ?_, ?_, trivial⟩
             ·exact Za rfl fun a _ _ _ _ A => Zf rfl (Zj A 21 rfl)
             ·exact Za rfl fun a _ _ _ _ A => Zf rfl (Zj A 15 rfl)
             ·refine Za rfl fun a _ _ _ B A => ?_;have e100 : a (.tmp 100) = _ := Zb A 1 rfl;refine Ze ?_ rfl;clear A B;go_simp;all_goals go_arith
             ·refine Za rfl fun a _ _ _ B A => ?_;have e99 : a (.tmp 99) = _ := Zb A 0 rfl;have e101 : a (.tmp 101) = _ := Zb A 2 rfl;refine Ze ?_ rfl;clear A B;go_simp;all_goals go_arith
             ·exact Za rfl fun a _ _ _ _ A => Zf rfl (Zb A 3 rfl)
             ·exact Zd 4 false rfl rfl rfl fun a _ _ _ _ A => Zf rfl (Zj A 21 rfl)
             ·exact Zd 4 false rfl rfl rfl fun a _ _ _ _ A => Zf rfl (Zb A 5 rfl)
             ·refine Zd 6 true rfl rfl rfl fun a _ _ _ B A => ?_;have e20 : a (.tmp 20) = .pointer (some ⟨ga, 0, none⟩) := Zj A 20 rfl;have hA := (B.block _ (Zg hA7)).trans hA7;obtain ⟨z0, z1, z2, z3, z4⟩ := Qa hA rfl rfl rfl rfl rfl;refine Ze ?_ rfl;clear A B hA;go_simp;all_goals go_arith
             ·refine Zd 6 true rfl rfl rfl fun a w' _ _ B A => ?_;have e106 : a (.tmp 106) = _ := Zb A 7 rfl;refine V5 (v := .slice (some ⟨w'.heap.size, 0, none⟩) 1 1) (w' := w'.alloc (.cells #[.int .i64 x.rc.kind, .int .i64 x.rc.key, .int .i64 x.rc.ver, .slice a4 x.rc.data.length c4, .int .i64 x.pair] 71)) ?_ (Zh _ _) (Ys.of (V8 (Zu _ _ _) (Qx (Zw hbx (B.trans (Zh _ _))))));clear A B;go_simp;all_goals go_arith
             ·exact Zd 6 true rfl rfl rfl fun a _ _ _ _ A => Zf rfl (Zj A 1 rfl)
             ·exact Zd 6 true rfl rfl rfl fun a _ _ _ _ A => Zf rfl (Zj A 15 rfl)
             ·exact Zd 6 true rfl rfl rfl fun a _ _ _ _ A => Zf rfl (Zj A 15 rfl)
             ·refine Zd 6 true rfl rfl rfl fun a _ _ _ B A => ?_;have e110 : a (.tmp 110) = _ := Zb A 11 rfl;refine Ze ?_ rfl;clear A B;go_simp;all_goals go_arith
             ·refine Zd 6 true rfl rfl rfl fun a B _ _ _ A => ?_;have e108 : a (.tmp 108) = _ := Zb A 9 rfl;have e109 : a (.tmp 109) = _ := Zb A 10 rfl;have e111 : a (.tmp 111) = _ := Zb A 12 rfl;exact Ze (J7 B a _ _ _ _ rfl b off l.length lc i hi hcap e108 e109 e111) rfl
             ·refine Zd 6 true rfl rfl rfl fun a B _ _ C A => ?_;have e107 : ((fun v B => Ys B v [x])) (a (.tmp 107)) B := Zb A 8 rfl;have e112 : a (.tmp 112) = _ := Zb A 13 rfl;obtain ⟨a9, c9, h9⟩ : ∃ p q, a (.tmp 107) = .slice p 1 q := Z5.form e107;refine Zx (f := 58) (args := #[.slice a9 1 c9, .slice (some ⟨b, off + i * 5, none⟩) 1 (lc - i)]) ?_ ((Xg [x] [x] _ _ _ _ B (by rw [← h9]; exact e107) (hone.grow C) (by simp)).mono ?_)
              ·clear A C e107;go_simp;all_goals go_arith
              ·rw [Xf];rintro r w2 ⟨rfl, g2⟩;exact ⟨_, rfl, g2, rfl⟩
             ·refine Zd 6 true rfl rfl rfl fun a _ _ _ B A => ?_;have e113 : a (.tmp 113) = _ := Zb A 14 rfl;refine Ze ?_ rfl;clear A B;go_simp;all_goals go_arith
             ·refine Zd 4 false rfl rfl rfl fun a _ _ _ _ A => ?_;have ec : a (.tmp 105) = _ := Zb A 6 rfl;have e : a (.tmp 114) = _ := Zb A 15 rfl;exact Zp rfl ec e
             ·refine Za rfl fun a _ _ _ _ A => ?_;have ec : a (.tmp 103) = _ := Zb A 4 rfl;have e : a (.tmp 115) = _ := Zb A 16 rfl;exact Zp rfl ec e
             ·exact Za rfl fun a _ _ _ _ A => Zf rfl (Zb A 17 rfl)
             ·exact Zd 18 false rfl rfl rfl fun a _ _ _ _ A => Zf rfl (Zj A 23 rfl)
             ·exact Zd 18 false rfl rfl rfl fun a _ _ _ _ A => Zf rfl (Zj A 16 rfl)
             ·refine Zd 18 false rfl rfl rfl fun a _ _ _ B A => ?_;have e119 : a (.tmp 119) = _ := Zb A 20 rfl;refine Ze ?_ rfl;clear A B;go_simp;all_goals go_arith
             ·refine Zd 18 false rfl rfl rfl fun a _ _ _ B A => ?_;have e118 : a (.tmp 118) = _ := Zb A 19 rfl;have e120 : a (.tmp 120) = _ := Zb A 21 rfl;refine Ze ?_ rfl;clear A B;go_simp;all_goals go_arith
             ·refine Za rfl fun a _ _ _ _ A => ?_;have ec : a (.tmp 117) = _ := Zb A 18 rfl;have e : a (.tmp 121) = _ := Zb A 22 rfl;exact Zp rfl ec e
             ·exact Za rfl fun a _ _ _ _ A => Zf rfl (Zb A 23 rfl)
             ·exact Zd 24 false rfl rfl rfl fun a _ _ _ _ A => Zf rfl (Zj A 23 rfl)
             ·exact Zd 24 false rfl rfl rfl fun a _ _ _ _ A => Zf rfl (Zb A 25 rfl)
             ·refine Zi 26 true rfl rfl rfl (fun _ => rfl)
             ·refine Zi 26 true rfl rfl rfl (fun _ => rfl)
             ·refine Zi 26 true rfl rfl rfl (fun _ => rfl)
             ·refine Zi 26 true rfl rfl rfl (fun _ => rfl)
             ·refine Zi 26 true rfl rfl rfl (fun _ => rfl)
             ·refine Zi 26 true rfl rfl rfl (fun _ => rfl)
             ·refine Zi 26 true rfl rfl rfl (fun _ => rfl)
             ·refine Zi 26 true rfl rfl rfl (fun _ => rfl)
             ·refine Zi 26 true rfl rfl rfl (fun _ => rfl)
             ·refine Zd 24 false rfl rfl rfl fun a _ B _ _ A => ?_;have ec : a (.tmp 125) = _ := Zb A 26 rfl;exact Zp rfl ec (B _)
             ·refine Za rfl fun a _ _ _ _ A => ?_;have ec : a (.tmp 123) = _ := Zb A 24 rfl;have e : a (.tmp 135) = _ := Zb A 36 rfl;exact Zp rfl ec e
            ·intro vs w' hg ht;obtain ⟨(r99 : vs 0 = _), (r100 : vs 1 = _), (r101 : vs 2 = _), (r102 : vs 3 = _), (r103 : vs 4 = _), (r104 : vs 5 = _), (r105 : vs 6 = _), (r106 : vs 7 = _), q107, (r108 : vs 9 = _), (r109 : vs 10 = _), (r110 : vs 11 = _), (r111 : vs 12 = _), (r112 : vs 13 = _), (r113 : vs 14 = _), (r114 : vs 15 = _), (r115 : vs 16 = _), (r116 : vs 17 = _), (r117 : vs 18 = _), (r118 : vs 19 = _), (r119 : vs 20 = _), (r120 : vs 21 = _), (r121 : vs 22 = _), (r122 : vs 23 = _), (r123 : vs 24 = _), (r124 : vs 25 = _), (r125 : vs 26 = _), (r126 : vs 27 = _), (r127 : vs 28 = _), (r128 : vs 29 = _), (r129 : vs 30 = _), (r130 : vs 31 = _), (r131 : vs 32 = _), (r132 : vs 33 = _), (r133 : vs 34 = _), (r134 : vs 35 = _), (r135 : vs 36 = _), (r136 : vs 37 = _), -⟩ := ht;simp only [Z3, Act.put, List.setIfInBounds_toArray, List.set_cons_zero, List.set_cons_succ, r99, r100, r101, r102, r103, r104, r105, r106, r108, r109, r110, r111, r112, r113, r114, r115, r116, r117, r118, r119, r120, r121, r122, r123, r124, r125, r126, r127, r128, r129, r130, r131, r132, r133, r134, r135, r136];clear r99 r100 r101 r102 r103 r104 r105 r106 r108 r109 r110 r111 r112 r113 r114 r115 r116 r117 r118 r119 r120 r121 r122 r123 r124 r125 r126 r127 r128 r129 r130 r131 r132 r133 r134 r135 r136;clear q107;generalize vs 8 = u107;go_wp2_with fail;go_meet;exact ⟨rfl, hg⟩
           ·rw [List.take_length] at hl2s;have hoF : okF = true := by rw [HOF.out, hl2s]; rfl
            subst hoF;obtain ⟨hze, hbz⟩ := HZ7.out _ hl2s;have htwo := Zav hl7 j hj;rw [hze] at htwo;have hcap := Qm hl7;clear HX7 HZ7 hlr hM hR
            refine Zr [ex (.bool true), ex (.int .i64 (i : Int)), ex (.bool true), ex (.bool false), ex (.bool false), ex (.bool true), ex (.bool true), ex (.agg #[.int .i64 x.rc.kind, .int .i64 x.rc.key, .int .i64 x.rc.ver, .slice a4 x.rc.data.length c4, .int .i64 x.pair]), ((fun v w' => Ys w' v [x])), ex (.slice (some ⟨b, off, none⟩) l.length lc), ex (.int .i64 (i : Int)), ex (.int .i64 (i : Int)), ex (.int .i64 ((i : Int) + 1)), ex (.slice (some ⟨b, off + i * 5, none⟩) 1 (lc - i)), ex (.bool true), ex (.bool false), ex (.bool false), ex (.bool false), ex (.bool false), ex (.bool true), ex (.int .i64 (j : Int)), ex (.bool true), ex (.bool false), ex (.bool false), ex (.bool false), ex (.bool true), ex (.bool true), ex (.agg #[.int .i64 z.rc.kind, .int .i64 z.rc.key, .int .i64 z.rc.ver, .slice a6 z.rc.data.length c6, .int .i64 z.pair]), ((fun v w' => Ys w' v [z])), ex (.slice (some ⟨b, off, none⟩) l.length lc), ex (.int .i64 (j : Int)), ex (.int .i64 (j : Int)), ex (.int .i64 ((j : Int) + 1)), ex (.slice (some ⟨b, off + j * 5, none⟩) 1 (lc - j)), ex (.bool true), ex (.bool false), ex (.bool false), ex (.bool false)] (by kernel_rfl) (by kernel_rfl) ⟨Zc _, Zc _, Zc _, Zc _, Zc _, Zc _, Zc _, Zc _, Yu _, Zc _, Zc _, Zc _, Zc _, Zc _, Zc _, Zc _, Zc _, Zc _, Zc _, Zc _, Zc _, Zc _, Zc _, Zc _, Zc _, Zc _, Zc _, Zc _, Yu _, Zc _, Zc _, Zc _, Zc _, Zc _, Zc _, Zc _, Zc _, Zc _, trivial⟩ ?_ ?_
            ·refine ⟨?_, ?_, ?_, ?_, ?_, ?_, ?_, ?_, ?_, ?_, ?_, ?_, ?_, ?_, ?_, ?_, ?_, ?_, ?_, ?_, ?_, ?_, ?_, ?_, ?_, ?_, ?_, ?_, ?_, ?_, ?_, ?_, ?_, ?_, ?_, ?_, ?_, ?_, trivial⟩
             ·exact Za rfl fun a _ _ _ _ A => Zf rfl (Zj A 21 rfl)
             ·exact Za rfl fun a _ _ _ _ A => Zf rfl (Zj A 15 rfl)
             ·refine Za rfl fun a _ _ _ B A => ?_;have e100 : a (.tmp 100) = _ := Zb A 1 rfl;refine Ze ?_ rfl;clear A B;go_simp;all_goals go_arith
             ·refine Za rfl fun a _ _ _ B A => ?_;have e99 : a (.tmp 99) = _ := Zb A 0 rfl;have e101 : a (.tmp 101) = _ := Zb A 2 rfl;refine Ze ?_ rfl;clear A B;go_simp;all_goals go_arith
             ·exact Za rfl fun a _ _ _ _ A => Zf rfl (Zb A 3 rfl)
             ·exact Zd 4 false rfl rfl rfl fun a _ _ _ _ A => Zf rfl (Zj A 21 rfl)
             ·exact Zd 4 false rfl rfl rfl fun a _ _ _ _ A => Zf rfl (Zb A 5 rfl)
             ·refine Zd 6 true rfl rfl rfl fun a _ _ _ B A => ?_;have e20 : a (.tmp 20) = .pointer (some ⟨ga, 0, none⟩) := Zj A 20 rfl;have hA := (B.block _ (Zg hA7)).trans hA7;obtain ⟨z0, z1, z2, z3, z4⟩ := Qa hA rfl rfl rfl rfl rfl;refine Ze ?_ rfl;clear A B hA;go_simp;all_goals go_arith
             ·refine Zd 6 true rfl rfl rfl fun a w' _ _ B A => ?_;have e106 : a (.tmp 106) = _ := Zb A 7 rfl;refine V5 (v := .slice (some ⟨w'.heap.size, 0, none⟩) 1 1) (w' := w'.alloc (.cells #[.int .i64 x.rc.kind, .int .i64 x.rc.key, .int .i64 x.rc.ver, .slice a4 x.rc.data.length c4, .int .i64 x.pair] 71)) ?_ (Zh _ _) (Ys.of (V8 (Zu _ _ _) (Qx (Zw hbx (B.trans (Zh _ _))))));clear A B;go_simp;all_goals go_arith
             ·exact Zd 6 true rfl rfl rfl fun a _ _ _ _ A => Zf rfl (Zj A 1 rfl)
             ·exact Zd 6 true rfl rfl rfl fun a _ _ _ _ A => Zf rfl (Zj A 15 rfl)
             ·exact Zd 6 true rfl rfl rfl fun a _ _ _ _ A => Zf rfl (Zj A 15 rfl)
             ·refine Zd 6 true rfl rfl rfl fun a _ _ _ B A => ?_;have e110 : a (.tmp 110) = _ := Zb A 11 rfl;refine Ze ?_ rfl;clear A B;go_simp;all_goals go_arith
             ·refine Zd 6 true rfl rfl rfl fun a B _ _ _ A => ?_;have e108 : a (.tmp 108) = _ := Zb A 9 rfl;have e109 : a (.tmp 109) = _ := Zb A 10 rfl;have e111 : a (.tmp 111) = _ := Zb A 12 rfl;exact Ze (J7 B a _ _ _ _ rfl b off l.length lc i hi hcap e108 e109 e111) rfl
             ·refine Zd 6 true rfl rfl rfl fun a B _ _ C A => ?_;have e107 : ((fun v B => Ys B v [x])) (a (.tmp 107)) B := Zb A 8 rfl;have e112 : a (.tmp 112) = _ := Zb A 13 rfl;obtain ⟨a9, c9, h9⟩ : ∃ p q, a (.tmp 107) = .slice p 1 q := Z5.form e107;refine Zx (f := 58) (args := #[.slice a9 1 c9, .slice (some ⟨b, off + i * 5, none⟩) 1 (lc - i)]) ?_ ((Xg [x] [x] _ _ _ _ B (by rw [← h9]; exact e107) (hone.grow C) (by simp)).mono ?_)
              ·clear A C e107;go_simp;all_goals go_arith
              ·rw [Xf];rintro r w2 ⟨rfl, g2⟩;exact ⟨_, rfl, g2, rfl⟩
             ·refine Zd 6 true rfl rfl rfl fun a _ _ _ B A => ?_;have e113 : a (.tmp 113) = _ := Zb A 14 rfl;refine Ze ?_ rfl;clear A B;go_simp;all_goals go_arith
             ·refine Zd 4 false rfl rfl rfl fun a _ _ _ _ A => ?_;have ec : a (.tmp 105) = _ := Zb A 6 rfl;have e : a (.tmp 114) = _ := Zb A 15 rfl;exact Zp rfl ec e
             ·refine Za rfl fun a _ _ _ _ A => ?_;have ec : a (.tmp 103) = _ := Zb A 4 rfl;have e : a (.tmp 115) = _ := Zb A 16 rfl;exact Zp rfl ec e
             ·exact Za rfl fun a _ _ _ _ A => Zf rfl (Zb A 17 rfl)
             ·exact Zd 18 false rfl rfl rfl fun a _ _ _ _ A => Zf rfl (Zj A 23 rfl)
             ·exact Zd 18 false rfl rfl rfl fun a _ _ _ _ A => Zf rfl (Zj A 16 rfl)
             ·refine Zd 18 false rfl rfl rfl fun a _ _ _ B A => ?_;have e119 : a (.tmp 119) = _ := Zb A 20 rfl;refine Ze ?_ rfl;clear A B;go_simp;all_goals go_arith
             ·refine Zd 18 false rfl rfl rfl fun a _ _ _ B A => ?_;have e118 : a (.tmp 118) = _ := Zb A 19 rfl;have e120 : a (.tmp 120) = _ := Zb A 21 rfl;refine Ze ?_ rfl;clear A B;go_simp;all_goals go_arith
             ·refine Za rfl fun a _ _ _ _ A => ?_;have ec : a (.tmp 117) = _ := Zb A 18 rfl;have e : a (.tmp 121) = _ := Zb A 22 rfl;exact Zp rfl ec e
             ·exact Za rfl fun a _ _ _ _ A => Zf rfl (Zb A 23 rfl)
             ·exact Zd 24 false rfl rfl rfl fun a _ _ _ _ A => Zf rfl (Zj A 23 rfl)
             ·exact Zd 24 false rfl rfl rfl fun a _ _ _ _ A => Zf rfl (Zb A 25 rfl)
             ·refine Zd 26 true rfl rfl rfl fun a _ _ _ B A => ?_;have e22 : a (.tmp 22) = .pointer (some ⟨gc, 0, none⟩) := Zj A 22 rfl;have hA := (B.block _ (Zg hC7)).trans hC7;obtain ⟨z0, z1, z2, z3, z4⟩ := Qa hA rfl rfl rfl rfl rfl;refine Ze ?_ rfl;clear A B hA;go_simp;all_goals go_arith
             ·refine Zd 26 true rfl rfl rfl fun a w' _ _ B A => ?_;have e126 : a (.tmp 126) = _ := Zb A 27 rfl;refine V5 (v := .slice (some ⟨w'.heap.size, 0, none⟩) 1 1) (w' := w'.alloc (.cells #[.int .i64 z.rc.kind, .int .i64 z.rc.key, .int .i64 z.rc.ver, .slice a6 z.rc.data.length c6, .int .i64 z.pair] 71)) ?_ (Zh _ _) (Ys.of (V8 (Zu _ _ _) (Qx (Zw hbz (B.trans (Zh _ _))))));clear A B;go_simp;all_goals go_arith
             ·exact Zd 26 true rfl rfl rfl fun a _ _ _ _ A => Zf rfl (Zj A 1 rfl)
             ·exact Zd 26 true rfl rfl rfl fun a _ _ _ _ A => Zf rfl (Zj A 16 rfl)
             ·exact Zd 26 true rfl rfl rfl fun a _ _ _ _ A => Zf rfl (Zj A 16 rfl)
             ·refine Zd 26 true rfl rfl rfl fun a _ _ _ B A => ?_;have e130 : a (.tmp 130) = _ := Zb A 31 rfl;refine Ze ?_ rfl;clear A B;go_simp;all_goals go_arith
             ·refine Zd 26 true rfl rfl rfl fun a B _ _ _ A => ?_;have e128 : a (.tmp 128) = _ := Zb A 29 rfl;have e129 : a (.tmp 129) = _ := Zb A 30 rfl;have e131 : a (.tmp 131) = _ := Zb A 32 rfl;exact Ze (J7 B a _ _ _ _ rfl b off l.length lc j hj hcap e128 e129 e131) rfl
             ·refine Zd 26 true rfl rfl rfl fun a B _ _ C A => ?_;have e127 : ((fun v B => Ys B v [z])) (a (.tmp 127)) B := Zb A 28 rfl;have e132 : a (.tmp 132) = _ := Zb A 33 rfl;obtain ⟨a9, c9, h9⟩ : ∃ p q, a (.tmp 127) = .slice p 1 q := Z5.form e127;refine Zx (f := 58) (args := #[.slice a9 1 c9, .slice (some ⟨b, off + j * 5, none⟩) 1 (lc - j)]) ?_ ((Xg [z] [z] _ _ _ _ B (by rw [← h9]; exact e127) (htwo.grow C) (by simp)).mono ?_)
              ·clear A C e127;go_simp;all_goals go_arith
              ·rw [Xf];rintro r w2 ⟨rfl, g2⟩;exact ⟨_, rfl, g2, rfl⟩
             ·refine Zd 26 true rfl rfl rfl fun a _ _ _ B A => ?_;have e133 : a (.tmp 133) = _ := Zb A 34 rfl;refine Ze ?_ rfl;clear A B;go_simp;all_goals go_arith
             ·refine Zd 24 false rfl rfl rfl fun a _ _ _ _ A => ?_;have ec : a (.tmp 125) = _ := Zb A 26 rfl;have e : a (.tmp 134) = _ := Zb A 35 rfl;exact Zp rfl ec e
             ·refine Za rfl fun a _ _ _ _ A => ?_;have ec : a (.tmp 123) = _ := Zb A 24 rfl;have e : a (.tmp 135) = _ := Zb A 36 rfl;exact Zp rfl ec e
            ·intro vs w' hg ht;obtain ⟨(r99 : vs 0 = _), (r100 : vs 1 = _), (r101 : vs 2 = _), (r102 : vs 3 = _), (r103 : vs 4 = _), (r104 : vs 5 = _), (r105 : vs 6 = _), (r106 : vs 7 = _), q107, (r108 : vs 9 = _), (r109 : vs 10 = _), (r110 : vs 11 = _), (r111 : vs 12 = _), (r112 : vs 13 = _), (r113 : vs 14 = _), (r114 : vs 15 = _), (r115 : vs 16 = _), (r116 : vs 17 = _), (r117 : vs 18 = _), (r118 : vs 19 = _), (r119 : vs 20 = _), (r120 : vs 21 = _), (r121 : vs 22 = _), (r122 : vs 23 = _), (r123 : vs 24 = _), (r124 : vs 25 = _), (r125 : vs 26 = _), (r126 : vs 27 = _), q127, (r128 : vs 29 = _), (r129 : vs 30 = _), (r130 : vs 31 = _), (r131 : vs 32 = _), (r132 : vs 33 = _), (r133 : vs 34 = _), (r134 : vs 35 = _), (r135 : vs 36 = _), (r136 : vs 37 = _), -⟩ := ht;simp only [Z3, Act.put, List.setIfInBounds_toArray, List.set_cons_zero, List.set_cons_succ, r99, r100, r101, r102, r103, r104, r105, r106, r108, r109, r110, r111, r112, r113, r114, r115, r116, r117, r118, r119, r120, r121, r122, r123, r124, r125, r126, r128, r129, r130, r131, r132, r133, r134, r135, r136];clear r99 r100 r101 r102 r103 r104 r105 r106 r108 r109 r110 r111 r112 r113 r114 r115 r116 r117 r118 r119 r120 r121 r122 r123 r124 r125 r126 r128 r129 r130 r131 r132 r133 r134 r135 r136;clear q107;clear q127;generalize vs 8 = u107;generalize vs 28 = u127;go_wp2_with fail;go_meet;exact ⟨rfl, hg⟩
         case rest =>
          obtain ⟨rfl, g8⟩ := hcut;have gA := gr7.trans g8;have hM8 := hM.grow gA;have hE8 := (gA.block _ (Zg hE)).trans hE;have hR8 := Ys.of (hR.grow gA).slice;have hl8 := Ys.of (hl7.grow g8);have gw8 := gw.trans gA;have hask := hM8.ask e.pair hep;clear gA g8 gr7 hl7 hM hE hR hlr HX7 HZ7 hA7 hC7 HLS HFS HOL HOF gw hM8;have HDL : Hid ((X1 l e.pair).length ≤ 1001) := by
           show _ ≤ 1001;unfold X1;exact Nat.le_trans (List.length_filter_le _ _) hln
          go_upto_region 28 with fail
          go_cut [146] (fun c wx => ∃ C : Bool, c = .bool C ∧ (C = false → Q6 l e.pair = false ∧ Z2 e.rc = 0) ∧ Zm wc wx)
          case first =>
           cases hub : Q6 l e.pair with
           | true =>
            rw [hub] at hask;have e4 := Zk hE8 4 _ rfl;clear hub;go_wp2_with fail;go_meet;exact ⟨true, rfl, fun h => (by cases h), Zm.refl _⟩
           | false =>
            rw [hub] at hask;have HUB : Hid (Q6 l e.pair = false) := hub;obtain ⟨e0, e1, e2, e3, e4⟩ := Qa hE8 rfl rfl rfl rfl rfl;clear hub;go_wp2_with fail;refine (Xo _ _ _ e.rc.data _ _ (Zw he gw8)).mono ?_;have HWW : Hid (Z2 ⟨e.rc.kind, e.rc.key, e.rc.ver, e.rc.data⟩ = Z2 e.rc) := rfl;rw [HWW.out];by_cases hwr : Z2 e.rc = 0
            ·rw [hwr];have HWR : Hid (Z2 e.rc = 0) := hwr;clear hwr HWW;rintro r w9 ⟨rfl, g9⟩;clear hask e0 e1 e2 e3 e4;go_wp2_with fail;go_meet;exact ⟨false, rfl, fun _ => ⟨HUB.out, HWR.out⟩, g9⟩
            ·have d9 : (Z2 e.rc != 0) = true := by simp [hwr]
             generalize Z2 e.rc = E at *;clear hwr HWW;rintro r w9 ⟨rfl, g9⟩;clear hask e0 e1 e2 e3 e4;go_wp2_with fail;go_meet;exact ⟨true, rfl, fun h => (by cases h), g9⟩
          case rest =>
           obtain ⟨C, rfl, HC, g10⟩ := hcut;replace hE8 := (g10.block _ (Zg hE8)).trans hE8;replace hR8 := Yu _ _ _ _ g10 hR8;replace hl8 := Yu _ _ _ _ g10 hl8;replace gw8 := gw8.trans g10;clear g10 hask;cases C with
           | true =>
            clear HC;have e4 := Zk hE8 4 _ rfl;go_wp2_with fail;refine (HFC _ l pairs _ _ HRL.out hpp' hl8).mono ?_;rintro r w11 ⟨n11, rfl, h11, g11⟩;obtain rfl := Zda h11 HFO.out;replace hE8 := (g11.block _ (Zg hE8)).trans hE8;replace hR8 := Yu _ _ _ _ g11 hR8;replace hl8 := Yu _ _ _ _ g11 hl8;replace gw8 := gw8.trans g11;clear g11 h11 e4;go_wp2_with fail;refine (HOC _ l _ _ (fun b h => h) HRL.out hl8.s).mono ?_;rintro r w12 ⟨v12, rfl, h12, g12⟩;obtain ⟨a12, c12, rfl⟩ := h12.form;replace hE8 := (g12.block _ (Zg hE8)).trans hE8;replace hR8 := Yu _ _ _ _ g12 hR8;replace hl8 := Yu _ _ _ _ g12 hl8;replace gw8 := gw8.trans g12;clear g12;go_wp2_with fail;refine (Xg l l _ _ _ _ _ h12 hl8 (by omega)).mono ?_;rw [Xf];rintro r w13 ⟨rfl, g13⟩;replace hE8 := (g13.block _ (Zg hE8)).trans hE8;replace hR8 := Yu _ _ _ _ g13 hR8;replace hl8 := Yu _ _ _ _ g13 hl8;replace gw8 := gw8.trans g13;clear g13 h12;have e4 := Zk hE8 4 _ rfl;go_wp2_with fail;refine (HDC _ l e.pair _ _ (fun b h => h) HRL.out hl8.s).mono ?_;rintro r w14 ⟨v14, rfl, h14, g14⟩;obtain ⟨a14, c14, rfl⟩ := h14.form;replace hR8 := Yu _ _ _ _ g14 hR8;replace gw8 := gw8.trans g14;clear g14 e4 hE8 hl8;go_wp2_with fail;refine (Xg (X1 l e.pair) (X1 l e.pair) _ _ _ _ _ h14 hR8 (by have := HDL.out; omega)).mono ?_;rw [Xf];rintro r w15 ⟨rfl, g15⟩;replace gw8 := gw8.trans g15;clear g15 h14 hR8;go_wp2_with fail;go_ret;exact ⟨rfl, gw8⟩
           | false =>
            have HNP : Hid (∀ x ∈ l, x.pair ≠ e.pair) := fun x hx hxp => by
             have h1 := (Ku l e.pair).2 ⟨x, hx, hxp⟩;rw [(HC rfl).1] at h1; cases h1
            have HWR : Hid (Z2 e.rc = 0) := (HC rfl).2;have HIL : Hid ((Y5 e l).length ≤ 1002) := by show _ ≤ 1002; rw [Kl]; omega
            clear HC;go_wp2_with fail;refine Zr [ex (.slice lo l.length lc), ex (.int .i64 pairs), ex (.int .i64 F), ex (.int .i64 F), ex (.bool true), ex (.bool true), ex (.slice lo l.length lc), ((fun v w' => Ys w' v l)), ex (.slice lo l.length lc), ex (.bool true), ex (.bool true), ex (.bool true), ex (.slice lo l.length lc), ex (.pointer (some ⟨w.heap.size + 1, 4, none⟩)), ex (.int .i64 e.pair), ((fun v w' => Ys w' v (X1 l e.pair))), ex (.slice a0 (X1 l e.pair).length c0), ex (.bool true), ex (.bool true), ex (.bool true), ex (.slice lo l.length lc), ex (.agg #[.int .i64 e.rc.kind, .int .i64 e.rc.key, .int .i64 e.rc.ver, .slice ea e.rc.data.length ec, .int .i64 e.pair]), ((fun v w' => Ys w' v (Y5 e l))), ex (.slice lo l.length lc), ex (.agg #[.int .i64 e.rc.kind, .int .i64 e.rc.key, .int .i64 e.rc.ver, .slice ea e.rc.data.length ec, .int .i64 e.pair]), ((fun v w' => Ys w' v (Y5 e l))), ex (.bool true), ex (.bool true), ex (.bool true)] (by kernel_rfl) (by kernel_rfl) ⟨Zc _, Zc _, Zc _, Zc _, Zc _, Zc _, Zc _, Yu _, Zc _, Zc _, Zc _, Zc _, Zc _, Zc _, Zc _, Yu _, Zc _, Zc _, Zc _, Zc _, Zc _, Zc _, Yu _, Zc _, Zc _, Yu _, Zc _, Zc _, Zc _, trivial⟩ ?_ ?_
            ·refine ⟨?_, ?_, ?_, ?_, ?_, ?_, ?_, ?_, ?_, ?_, ?_, ?_, ?_, ?_, ?_, ?_, ?_, ?_, ?_, ?_, ?_, ?_, ?_, ?_, ?_, ?_, ?_, ?_, ?_, trivial⟩
             ·exact Za rfl fun a _ _ _ _ A => Zf rfl (Zj A 1 rfl)
             ·exact Za rfl fun a _ _ _ _ A => Zf rfl (Zj A 5 rfl)
             ·refine Za rfl fun a B _ _ C A => ?_;have e166 : a (.tmp 166) = _ := Zb A 0 rfl;have e167 : a (.tmp 167) = _ := Zb A 1 rfl;refine Zx (f := 64) (args := #[.slice lo l.length lc, .int .i64 pairs]) ?_ ((HFC _ l pairs _ B HRL.out hpp' (Z5.grow hl8 C)).mono ?_)
              ·clear A C;go_simp;all_goals go_arith
              ·rintro r w2 ⟨n2, rfl, h2, g2⟩;obtain rfl := Zda h2 HFO.out;exact ⟨_, rfl, g2, rfl⟩
             ·exact Za rfl fun a _ _ _ _ A => Zf rfl (Zj A 19 rfl)
             ·refine Za rfl fun a _ _ _ B A => ?_;have e168 : a (.tmp 168) = _ := Zb A 2 rfl;have e169 : a (.tmp 169) = _ := Zb A 3 rfl;refine Ze ?_ rfl;clear A B;go_simp;all_goals go_arith
             ·exact Za rfl fun a _ _ _ _ A => Zf rfl (Zb A 4 rfl)
             ·exact Zd 5 true rfl rfl rfl fun a _ _ _ _ A => Zf rfl (Zj A 1 rfl)
             ·refine Zd 5 true rfl rfl rfl fun a B _ _ C A => ?_;have e172 : a (.tmp 172) = _ := Zb A 6 rfl;refine Zx (f := 65) (args := #[.slice lo l.length lc]) ?_ ((HOC _ l _ B (fun b h => h) HRL.out (Ys.s (Z5.grow hl8 C))).mono ?_)
              ·clear A C;go_simp;all_goals go_arith
              ·rintro r w2 ⟨v2, rfl, h2, g2⟩;exact ⟨_, rfl, g2, Ys.of h2⟩
             ·exact Zd 5 true rfl rfl rfl fun a _ _ _ _ A => Zf rfl (Zj A 1 rfl)
             ·refine Zd 5 true rfl rfl rfl fun a B _ _ C A => ?_;have e173 : ((fun v B => Ys B v l)) (a (.tmp 173)) B := Zb A 7 rfl;have e174 : a (.tmp 174) = _ := Zb A 8 rfl;obtain ⟨p9, q9, h9⟩ := Z5.form e173;refine Zx (f := 58) (args := #[.slice p9 l.length q9, .slice lo l.length lc]) ?_ ((Xg l l _ _ _ _ B (by rw [← h9]; exact e173) (Z5.grow hl8 C) (by omega)).mono ?_)
              ·clear A C e173;go_simp;all_goals go_arith
              ·rw [Xf];rintro r w2 ⟨rfl, g2⟩;exact ⟨_, rfl, g2, rfl⟩
             ·refine Za rfl fun a _ _ _ _ A => ?_;have ec : a (.tmp 171) = _ := Zb A 5 rfl;have e : a (.tmp 175) = _ := Zb A 9 rfl;exact Zp rfl ec e
             ·exact Za rfl fun a _ _ _ _ A => Zf rfl (Zb A 10 rfl)
             ·exact Zd 11 true rfl rfl rfl fun a _ _ _ _ A => Zf rfl (Zj A 1 rfl)
             ·refine Zd 11 true rfl rfl rfl fun a _ _ _ B A => ?_;have e8 : a (.tmp 8) = .pointer (some ⟨w.heap.size + 1, 0, none⟩) := Zj A 8 rfl;refine Ze ?_ rfl;clear A B;go_simp;all_goals go_arith
             ·refine Zd 11 true rfl rfl rfl fun a _ _ _ B A => ?_;have e179 : a (.tmp 179) = _ := Zb A 13 rfl;have hX := (B.block _ (Zg hE8)).trans hE8;have z4 := Zk hX 4 _ rfl;refine Ze ?_ rfl;clear A B hX;go_simp;all_goals go_arith
             ·refine Zd 11 true rfl rfl rfl fun a B _ _ C A => ?_;have e178 : a (.tmp 178) = _ := Zb A 12 rfl;have e180 : a (.tmp 180) = _ := Zb A 14 rfl;refine Zx (f := 66) (args := #[.slice lo l.length lc, .int .i64 e.pair]) ?_ ((HDC _ l e.pair _ B (fun b h => h) HRL.out (Ys.s (Z5.grow hl8 C))).mono ?_)
              ·clear A C;go_simp;all_goals go_arith
              ·rintro r w2 ⟨v2, rfl, h2, g2⟩;exact ⟨_, rfl, g2, Ys.of h2⟩
             ·exact Zd 11 true rfl rfl rfl fun a _ _ _ _ A => Zf rfl (Zj A 14 rfl)
             ·refine Zd 11 true rfl rfl rfl fun a B _ _ C A => ?_;have e181 : ((fun v B => Ys B v (X1 l e.pair))) (a (.tmp 181)) B := Zb A 15 rfl;have e182 : a (.tmp 182) = _ := Zb A 16 rfl;obtain ⟨p9, q9, h9⟩ := Z5.form e181;refine Zx (f := 58) (args := #[.slice p9 (X1 l e.pair).length q9, .slice a0 (X1 l e.pair).length c0]) ?_ ((Xg _ _ _ _ _ _ B (by rw [← h9]; exact e181) (Z5.grow hR8 C) (by have := HDL.out; omega)).mono ?_)
              ·clear A C e181;go_simp;all_goals go_arith
              ·rw [Xf];rintro r w2 ⟨rfl, g2⟩;exact ⟨_, rfl, g2, rfl⟩
             ·refine Za rfl fun a _ _ _ _ A => ?_;have ec : a (.tmp 177) = _ := Zb A 11 rfl;have e : a (.tmp 183) = _ := Zb A 17 rfl;exact Zp rfl ec e
             ·exact Za rfl fun a _ _ _ _ A => Zf rfl (Zb A 18 rfl)
             ·exact Zd 19 true rfl rfl rfl fun a _ _ _ _ A => Zf rfl (Zj A 1 rfl)
             ·refine Zd 19 true rfl rfl rfl fun a _ _ _ B A => ?_;have e8 : a (.tmp 8) = .pointer (some ⟨w.heap.size + 1, 0, none⟩) := Zj A 8 rfl;have hX := (B.block _ (Zg hE8)).trans hE8;obtain ⟨z0, z1, z2, z3, z4⟩ := Qa hX rfl rfl rfl rfl rfl;refine Ze ?_ rfl;clear A B hX;go_simp;all_goals go_arith
             ·refine Zd 19 true rfl rfl rfl fun a B _ _ C A => ?_;have e186 : a (.tmp 186) = _ := Zb A 20 rfl;have e187 : a (.tmp 187) = _ := Zb A 21 rfl;refine Zx (f := 67) (args := #[.slice lo l.length lc, .agg #[.int .i64 e.rc.kind, .int .i64 e.rc.key, .int .i64 e.rc.ver, .slice ea e.rc.data.length ec, .int .i64 e.pair]]) ?_ ((HAC _ l e ea ec _ B (fun b h => h) HRL.out HNP.out HWR.out (Ys.s (Z5.grow hl8 C)) (Qx (Zw he (gw8.trans C)))).mono ?_)
              ·clear A C;go_simp;all_goals go_arith
              ·rintro r w2 ⟨v2, rfl, h2, g2⟩;exact ⟨_, rfl, g2, Ys.of h2⟩
             ·exact Zd 19 true rfl rfl rfl fun a _ _ _ _ A => Zf rfl (Zj A 1 rfl)
             ·refine Zd 19 true rfl rfl rfl fun a _ _ _ B A => ?_;have e8 : a (.tmp 8) = .pointer (some ⟨w.heap.size + 1, 0, none⟩) := Zj A 8 rfl;have hX := (B.block _ (Zg hE8)).trans hE8;obtain ⟨z0, z1, z2, z3, z4⟩ := Qa hX rfl rfl rfl rfl rfl;refine Ze ?_ rfl;clear A B hX;go_simp;all_goals go_arith
             ·refine Zd 19 true rfl rfl rfl fun a B _ _ C A => ?_;have e189 : a (.tmp 189) = _ := Zb A 23 rfl;have e190 : a (.tmp 190) = _ := Zb A 24 rfl;refine Zx (f := 68) (args := #[.slice lo l.length lc, .agg #[.int .i64 e.rc.kind, .int .i64 e.rc.key, .int .i64 e.rc.ver, .slice ea e.rc.data.length ec, .int .i64 e.pair]]) ?_ ((Jx _ l e _ ea ec B (fun b h => h) (Ys.s (Z5.grow hl8 C)) (Qx (Zw he (gw8.trans C))) (by omega)).mono ?_)
              ·clear A C;go_simp;all_goals go_arith
              ·rintro r w2 ⟨v2, rfl, h2, g2⟩;exact ⟨_, rfl, g2, Ys.of h2⟩
             ·refine Zd 19 true rfl rfl rfl fun a B _ _ C A => ?_;have e188 : ((fun v B => Ys B v (Y5 e l))) (a (.tmp 188)) B := Zb A 22 rfl;have e191 : ((fun v B => Ys B v (Y5 e l))) (a (.tmp 191)) B := Zb A 25 rfl;obtain ⟨p9, q9, h9⟩ := Z5.form e188;obtain ⟨p8, q8, h8⟩ := Z5.form e191;refine Zx (f := 58) (args := #[.slice p9 (Y5 e l).length q9, .slice p8 (Y5 e l).length q8]) ?_ ((Xg _ _ _ _ _ _ B (by rw [← h9]; exact e188) (by rw [← h8]; exact e191) (by have := HIL.out; omega)).mono ?_)
              ·clear A C e188 e191;go_simp;all_goals go_arith
              ·rw [Xf];rintro r w2 ⟨rfl, g2⟩;exact ⟨_, rfl, g2, rfl⟩
             ·refine Za rfl fun a _ _ _ _ A => ?_;have ec : a (.tmp 185) = _ := Zb A 19 rfl;have e : a (.tmp 192) = _ := Zb A 26 rfl;exact Zp rfl ec e
             ·exact Za rfl fun a _ _ _ _ A => Ym rfl (Zb A 27 rfl)
            ·intro vs w' hg ht;obtain ⟨(r166 : vs 0 = _), (r167 : vs 1 = _), (r168 : vs 2 = _), (r169 : vs 3 = _), (r170 : vs 4 = _), (r171 : vs 5 = _), (r172 : vs 6 = _), q173, (r174 : vs 8 = _), (r175 : vs 9 = _), (r176 : vs 10 = _), (r177 : vs 11 = _), (r178 : vs 12 = _), (r179 : vs 13 = _), (r180 : vs 14 = _), q181, (r182 : vs 16 = _), (r183 : vs 17 = _), (r184 : vs 18 = _), (r185 : vs 19 = _), (r186 : vs 20 = _), (r187 : vs 21 = _), q188, (r189 : vs 23 = _), (r190 : vs 24 = _), q191, (r192 : vs 26 = _), (r193 : vs 27 = _), (r12 : vs 28 = _), -⟩ := ht;simp only [Z3, Act.put, List.setIfInBounds_toArray, List.set_cons_zero, List.set_cons_succ, r166, r167, r168, r169, r170, r171, r172, r174, r175, r176, r177, r178, r179, r180, r182, r183, r184, r185, r186, r187, r189, r190, r192, r193, r12];clear r166 r167 r168 r169 r170 r171 r172 r174 r175 r176 r177 r178 r179 r180 r182 r183 r184 r185 r186 r187 r189 r190 r192 r193 r12;have gE := gw8.trans hg;clear q173 q181 q188 q191 hg hE8 hR8 hl8;go_wp2_with fail;go_ret;exact ⟨rfl, gE⟩
 case first =>
 generalize World.alloc (World.alloc w _) _ = W at *;cases hrd : d.right with
 | false =>
  have HRD : Hid (d.right = false) := hrd;clear hrd hdn;refine Zr [ex (.agg #[.slice ab d.blocks.length cb, .slice al d.late.length cl]), ex (.bool false), ex (.bool false), ex (undef), ex (undef), ex (undef), ex (undef), ex (undef), ex (undef), ex (.bool false)] (by kernel_rfl) (by kernel_rfl) ⟨Zc _, Zc _, Zc _, Zc _, Zc _, Zc _, Zc _, Zc _, Zc _, Zc _, trivial⟩ ?_ ?_
  ·refine ⟨?_, ?_, ?_, ?_, ?_, ?_, ?_, ?_, ?_, ?_, trivial⟩
   ·refine Za rfl fun a _ _ _ B A => ?_;have e6 : a (.tmp 6) = .pointer (some ⟨w.heap.size, 0, none⟩) := Zj A 6 rfl;have hD := (B.block _ (Zg hD0)).trans hD0;obtain ⟨z0, z1⟩ := Zb6 hD rfl rfl;refine Ze ?_ rfl;clear A B hD;go_simp;all_goals go_arith
   ·refine Za rfl fun a B _ _ C A => ?_;have e24 : a (.tmp 24) = _ := Zb A 0 rfl;refine Zx (f := 37) (args := #[.agg #[.slice ab d.blocks.length cb, .slice al d.late.length cl]]) ?_ ((Zcq d _ B (Q0 _ _ _ _ (gW.trans C) hd)).mono ?_)
    ·clear A C;go_simp;all_goals go_arith
    ·rintro r w2 ⟨rfl, g2⟩;exact ⟨_, rfl, g2, by rw [← HRD.out]; rfl⟩
   ·exact Za rfl fun a _ _ _ _ A => Zf rfl (Zb A 1 rfl)
   ·refine Zi 2 true rfl rfl rfl (fun _ => rfl)
   ·refine Zi 2 true rfl rfl rfl (fun _ => rfl)
   ·refine Zi 2 true rfl rfl rfl (fun _ => rfl)
   ·refine Zi 2 true rfl rfl rfl (fun _ => rfl)
   ·refine Zi 2 true rfl rfl rfl (fun _ => rfl)
   ·refine Zi 2 true rfl rfl rfl (fun _ => rfl)
   ·refine Za rfl fun a _ B _ _ A => ?_;have ec : a (.tmp 26) = _ := Zb A 2 rfl;exact Zp rfl ec (B _)
  ·intro vs w' hg ht;obtain ⟨(r24 : vs 0 = _), (r25 : vs 1 = _), (r26 : vs 2 = _), (r27 : vs 3 = _), (r28 : vs 4 = _), (r29 : vs 5 = _), (r30 : vs 6 = _), (r31 : vs 7 = _), (r32 : vs 8 = _), (r33 : vs 9 = _), -⟩ := ht;simp only [Z3, Act.put, List.setIfInBounds_toArray, List.set_cons_zero, List.set_cons_succ, r24, r25, r26, r27, r28, r29, r30, r31, r32, r33];clear r24 r25 r26 r27 r28 r29 r30 r31 r32 r33;go_wp2_with fail;go_meet;exact ⟨rfl, gW.trans hg, (hg.block _ (Zg hE0)).trans hE0⟩
 | true =>
  have HF : Hid (d.Fine 40) := hdn hrd;have HRD : Hid (d.right = true) := hrd;have HQ : Hid (d.blocks.length / 2 = 6) := by show _ = _; rw [HF.out.len]
  have hl256 : d.blocks.length ≤ 256 := by rw [HF.out.len]; omega
  have hm9 : d.late.length ≤ 999990 := by have := HF.out.few; omega
  clear hrd hdn;refine Zr [ex (.agg #[.slice ab d.blocks.length cb, .slice al d.late.length cl]), ex (.bool true), ex (.bool true), ex (.agg #[.slice ab d.blocks.length cb, .slice al d.late.length cl]), ((fun v w' => Ys w' v (Y3 d 6))), ex (.agg #[.slice ab d.blocks.length cb, .slice al d.late.length cl]), ((fun v w' => Ys w' v (Y3 d 6))), ex (.bool true), ex (.bool false), ex (.bool false)] (by kernel_rfl) (by kernel_rfl) ⟨Zc _, Zc _, Zc _, Zc _, Yu _, Zc _, Yu _, Zc _, Zc _, Zc _, trivial⟩ ?_ ?_
  ·refine ⟨?_, ?_, ?_, ?_, ?_, ?_, ?_, ?_, ?_, ?_, trivial⟩
   ·refine Za rfl fun a _ _ _ B A => ?_;have e6 : a (.tmp 6) = .pointer (some ⟨w.heap.size, 0, none⟩) := Zj A 6 rfl;have hD := (B.block _ (Zg hD0)).trans hD0;obtain ⟨z0, z1⟩ := Zb6 hD rfl rfl;refine Ze ?_ rfl;clear A B hD;go_simp;all_goals go_arith
   ·refine Za rfl fun a B _ _ C A => ?_;have e24 : a (.tmp 24) = _ := Zb A 0 rfl;refine Zx (f := 37) (args := #[.agg #[.slice ab d.blocks.length cb, .slice al d.late.length cl]]) ?_ ((Zcq d _ B (Q0 _ _ _ _ (gW.trans C) hd)).mono ?_)
    ·clear A C;go_simp;all_goals go_arith
    ·rintro r w2 ⟨rfl, g2⟩;exact ⟨_, rfl, g2, by rw [← HRD.out]; rfl⟩
   ·exact Za rfl fun a _ _ _ _ A => Zf rfl (Zb A 1 rfl)
   ·refine Zd 2 true rfl rfl rfl fun a _ _ _ B A => ?_;have e6 : a (.tmp 6) = .pointer (some ⟨w.heap.size, 0, none⟩) := Zj A 6 rfl;have hD := (B.block _ (Zg hD0)).trans hD0;obtain ⟨z0, z1⟩ := Zb6 hD rfl rfl;refine Ze ?_ rfl;clear A B hD;go_simp;all_goals go_arith
   ·refine Zd 2 true rfl rfl rfl fun a B _ _ C A => ?_;have e27 : a (.tmp 27) = _ := Zb A 3 rfl;refine Zx (f := 59) (args := #[.agg #[.slice ab d.blocks.length cb, .slice al d.late.length cl]]) ?_ ((HSC _ d _ B (fun b h => h) (HF.out.mono (by omega)) (Q0 _ _ _ _ (gW.trans C) hd).s).mono ?_)
    ·clear A C;go_simp;all_goals go_arith
    ·rintro r w2 ⟨v2, rfl, h2, g2⟩;exact ⟨_, rfl, g2, Ys.of h2⟩
   ·refine Zd 2 true rfl rfl rfl fun a _ _ _ B A => ?_;have e6 : a (.tmp 6) = .pointer (some ⟨w.heap.size, 0, none⟩) := Zj A 6 rfl;have hD := (B.block _ (Zg hD0)).trans hD0;obtain ⟨z0, z1⟩ := Zb6 hD rfl rfl;refine Ze ?_ rfl;clear A B hD;go_simp;all_goals go_arith
   ·refine Zd 2 true rfl rfl rfl fun a B _ _ C A => ?_;have e29 : a (.tmp 29) = _ := Zb A 5 rfl;obtain ⟨vb2, vl2, hv2, hb2, hl2⟩ := (Q0 _ _ _ _ (gW.trans C) hd).s;cases hv2;refine Zx (f := 60) (args := #[.agg #[.slice ab d.blocks.length cb, .slice al d.late.length cl]]) ?_ ((Zfx _ d _ _ B hb2 hl2 hl256 hm9).mono ?_)
    ·clear A C hb2 hl2;go_simp;all_goals go_arith
    ·rw [HQ.out];rintro r w2 ⟨v2, rfl, h2, g2⟩;exact ⟨_, rfl, g2, Ys.of h2⟩
   ·refine Zd 2 true rfl rfl rfl fun a B _ _ C A => ?_;have e28 : ((fun v B => Ys B v (Y3 d 6))) (a (.tmp 28)) B := Zb A 4 rfl;have e30 : ((fun v B => Ys B v (Y3 d 6))) (a (.tmp 30)) B := Zb A 6 rfl;obtain ⟨a8, c8, h8⟩ := Z5.form e28;obtain ⟨a9, c9, h9⟩ := Z5.form e30;refine Zx (f := 58) (args := #[.slice a8 (Y3 d 6).length c8, .slice a9 (Y3 d 6).length c9]) ?_ ((Xg (Y3 d 6) (Y3 d 6) _ _ _ _ B (by rw [← h8]; exact e28) (by rw [← h9]; exact e30) (by have := Je d 6; omega)).mono ?_)
    ·clear A C e28 e30;go_simp;all_goals go_arith
    ·rw [Xf];rintro r w2 ⟨rfl, g2⟩;exact ⟨_, rfl, g2, rfl⟩
   ·refine Zd 2 true rfl rfl rfl fun a _ _ _ B A => ?_;have e31 : a (.tmp 31) = _ := Zb A 7 rfl;refine Ze ?_ rfl;clear A B;go_simp;all_goals go_arith
   ·refine Za rfl fun a _ _ _ _ A => ?_;have ec : a (.tmp 26) = _ := Zb A 2 rfl;have e : a (.tmp 32) = _ := Zb A 8 rfl;exact Zp rfl ec e
  ·intro vs w' hg ht;obtain ⟨(r24 : vs 0 = _), (r25 : vs 1 = _), (r26 : vs 2 = _), (r27 : vs 3 = _), q28, (r29 : vs 5 = _), q30, (r31 : vs 7 = _), (r32 : vs 8 = _), (r33 : vs 9 = _), -⟩ := ht;simp only [Z3, Act.put, List.setIfInBounds_toArray, List.set_cons_zero, List.set_cons_succ, r24, r25, r26, r27, r29, r31, r32, r33];clear r24 r25 r26 r27 r29 r31 r32 r33;clear q28 q30;generalize vs 4 = u28;generalize vs 6 = u30;go_wp2_with fail;go_meet;exact ⟨rfl, gW.trans hg, (hg.block _ (Zg hE0)).trans hE0⟩
end Go.Proofs.Ytpdnapbchcdhlaa
